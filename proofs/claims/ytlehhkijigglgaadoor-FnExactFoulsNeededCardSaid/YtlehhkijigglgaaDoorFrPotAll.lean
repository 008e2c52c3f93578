/-
  Frames: all balls potted: the program's way.
-/
import Derived.Test.YtlehhkijigglgaaDoorFrAll
import Derived.WalkMore
import Derived.ScopeJumps
namespace Go.Proofs.YtlehhkijigglgaaDoor
open Go.RowKit
set_option linter.unusedVariables false

abbrev hdL (c : UInt8) (m : Nat) : UInt8 := if frC (m + 1) then c else (nextL (m + 1)).head?.getD 0

theorem last_list : ∀ m, m ≤ 35 → ((nextL (m + 1)).drop ((nextL (m + 1)).length - 1)).take ((nextL (m + 1)).length - ((nextL (m + 1)).length - 1)) = [hdL 55 m] := by decide +kernel
theorem first_list : ∀ m, m ≤ 35 → (nextL (m + 1)).take 1 = [hdL 50 m] := by decide +kernel
theorem nextS_size (n : Nat) : (nextS n).size = (nextL n).length := by simp [nextS, ByteArray.size]

set_option maxHeartbeats 400000 in
theorem high1_any (m : Nat) (hm : m ≤ 35) (w : World) :
    Calls Tryd.prog 71 #[.string (nextS (m + 1))] w fun e w' => e = .returned (.string ⟨#[hdL 55 m]⟩) ∧ w = w' := by
  have h6 := next_size (m + 1)
  have h1 := next_head m
  have hsl : ∀ W : World, (Instr.slice 9 (.string (nextS (m + 1))) (some (.int .i64 (((nextS (m + 1)).size : Int) - 1))) none none).run Tryd.prog W = .ok (.string ⟨#[hdL 55 m]⟩) W := fun W => by
    rw [run_slice_string_from_if W _ _ _ _ Tryd.underlying9, if_pos (by omega)]
    rw [show (((nextS (m + 1)).size : Int) - 1).toNat = (nextS (m + 1)).size - 1 from by omega, Lib.extract_eq, next_list, nextS_size, last_list m hm]
  generalize nextS (m + 1) = s at *
  generalize hdL 55 m = x at *
  go_enter Tryd.func71, Tryd.ntmps71
  go_wp2
  go_ret
  exact ⟨rfl, rfl⟩

set_option maxHeartbeats 400000 in
theorem low1_any (m : Nat) (hm : m ≤ 35) (w : World) :
    Calls Tryd.prog 73 #[.string (nextS (m + 1))] w fun e w' => e = .returned (.string ⟨#[hdL 50 m]⟩) ∧ w = w' := by
  have h1 := next_head m
  have hsl : ∀ W : World, (Instr.slice 9 (.string (nextS (m + 1))) none (some (.int .i64 1)) none).run Tryd.prog W = .ok (.string ⟨#[hdL 50 m]⟩) W := fun W => by
    rw [run_slice_string_to_if W _ _ _ _ Tryd.underlying9, if_pos (by omega)]
    rw [show (1 : Int).toNat = 1 from rfl, Lib.extract_eq, next_list, List.drop_zero, first_list m hm]
  generalize nextS (m + 1) = s at *
  generalize hdL 50 m = x at *
  go_enter Tryd.func73, Tryd.ntmps73
  go_wp2
  go_ret
  exact ⟨rfl, rfl⟩

/-- What holds at every jump. -/
def PotAt (c : UInt8) (n : Nat) (w : World) (m : Nat) (acc : List UInt8) (wr : World) : Prop :=
  acc.length + m = n ∧ acc ++ allL c m = allL c n ∧ FrAt wr w.heap.size (frR m) (frC m) (frL m) ∧ Below w.heap.size w wr

set_option maxHeartbeats 6400000 in
set_option maxRecDepth 100000 in
theorem potHigh_any (n : Nat) (hn : n ≤ 36) (w : World) :
    Calls Tryd.prog 70 #[frV n, .func (.func 71) #[] #[]] w fun e w' => e = .returned (.string ⟨(allL 55 n).toArray⟩) ∧ Below w.heap.size w w' := by
  go_enter Tryd.func70, Tryd.ntmps70
  go_wp2
  refine wp_scope_jumps 0 (fun a' w' => ∃ (m : Nat) (acc : List UInt8) (u3 u6 u7 u8 u9 u10 u11 u12 u13 u14 u15 u16 u17 u18 : Value), a' = { tmps := #[frV n, .func (.func 71) #[] #[], .pointer (some ⟨w.heap.size, 0, none⟩), u3, .string ⟨#[]⟩, .string ⟨acc.toArray⟩, u6, u7, u8, u9, u10, u11, u12, u13, u14, u15, u16, u17, u18], defers := [] } ∧ PotAt 55 n w m acc w') (fun a' _ => n - strSize (a'.tmps.getD 5 undef)) rfl ?_ ?_
  · have hP : PotAt 55 n w n [] (w.alloc (.cells #[.int .i64 (frR n), .bool (frC n), .int .i64 (frL n)] 26)) := ⟨by simp, rfl, FrAt.new w _ _ _, (Below.refl _ _).alloc (Nat.le_refl _) _⟩
    generalize w.alloc (.cells #[.int .i64 (frR n), .bool (frC n), .int .i64 (frL n)] 26) = wr at hP ⊢
    obtain ⟨m, hmn⟩ : ∃ m, m = n := ⟨n, rfl⟩
    rw [show PotAt 55 n w n [] wr = PotAt 55 n w m [] wr from by rw [hmn]] at hP
    have HMN := Lib.hid hmn; clear hmn
    obtain ⟨hlen, hacc, tA, hbel⟩ := hP
    have hne := next_empty m
    obtain ⟨y0, y1, y2, x0, x1, x2⟩ := tA.cells
    have hbp := ballsToPot_n m
    cases m with
    | zero =>
      have hne2 : (nextS 0).toList.isEmpty = true := hne
      rw [show allL 55 0 = [] from rfl, List.append_nil] at hacc
      have HH := Lib.hid (And.intro hbel (And.intro hacc hbp)); clear hbel hacc tA hlen hne hbp
      go_wp2_with fail
      go_step3
      go_wp2_with fail
      refine (HH.out.2.2 _).mono ?_; rintro e w2 ⟨rfl, b2⟩
      go_wp2
      simp only [Exit.jump]
      go_ret
      exact ⟨by rw [← HH.out.2.1]; rfl, HH.out.1.trans (b2.mono HH.out.1.size)⟩
    | succ m =>
      have hne2 : (nextS (m + 1)).toList.isEmpty = false := by rw [hne]; simp
      have hcl := high1_any m (by omega)
      have hall : allL 55 (m + 1) = hdL 55 m :: allL 55 m := rfl
      rw [hall] at hacc
      generalize hdL 55 m = b at *
      have hadd : ∀ W : World, (Op.stringOp .add ⟨([] : List UInt8).toArray⟩ ⟨#[b]⟩).run Tryd.prog W = .ok (.string ⟨(([] : List UInt8) ++ [b]).toArray⟩) W := fun W => run_string_add_lists W ([] : List UInt8) [b] (by omega) (by simp)
      have hfb := frameBehind_n m (by omega)
      have HH := Lib.hid (And.intro hbel (And.intro hacc (And.intro tA (And.intro hbp (And.intro hcl (And.intro hfb hlen)))))); clear hbel hacc tA hlen hne hbp hcl hall hfb
      go_wp2_with fail
      go_step3
      go_wp2_with fail
      refine (HH.out.2.2.2.1 _).mono ?_; rintro e w2 ⟨rfl, b2⟩
      have tA2 := HH.out.2.2.1.keep b2
      obtain ⟨e0, e1, e2, e3, e4, e5⟩ := tA2.cells
      have H2 := Lib.hid (And.intro (HH.out.1.trans (b2.mono HH.out.1.size)) tA2); clear tA2 b2
      clear y0 y1 y2 x0 x1 x2
      go_wp2_with fail
      refine (HH.out.2.2.2.2.1 _).mono ?_; rintro e w3 ⟨rfl, rfl⟩
      go_wp2_with fail
      refine (HH.out.2.2.2.2.2.1 _).mono ?_; rintro e w4 ⟨rfl, b4⟩
      have tA4 := H2.out.2.keep b4
      obtain ⟨d0, d1, d2, d3, d4, d5⟩ := tA4.cells
      have hS := tA4.stored (frR m) (frC m) (frL m)
      have B4 := below_put3 (b := w.heap.size) (p := m) (H2.out.1.trans (b4.mono H2.out.1.size)) (Nat.le_refl _)
      have H4 := Lib.hid (And.intro B4 hS); clear B4 hS tA4 b4
      clear e0 e1 e2 e3 e4 e5
      go_wp2
      go_step3
      exact ⟨rfl, ⟨m, ([] : List UInt8) ++ [b], _, _, _, _, _, _, _, _, _, _, _, _, _, _, rfl, by have := HH.out.2.2.2.2.2.2; simp at this ⊢; omega, by have := HH.out.2.1; simpa using this, H4.out.2, H4.out.1⟩⟩
  · rintro a' wr ⟨m, acc, u3, u6, u7, u8, u9, u10, u11, u12, u13, u14, u15, u16, u17, u18, rfl, hP⟩
    obtain ⟨hlen, hacc, tA, hbel⟩ := hP
    have hne := next_empty m
    obtain ⟨y0, y1, y2, x0, x1, x2⟩ := tA.cells
    have hbp := ballsToPot_n m
    cases m with
    | zero =>
      have hne2 : (nextS 0).toList.isEmpty = true := hne
      rw [show allL 55 0 = [] from rfl, List.append_nil] at hacc
      have HH := Lib.hid (And.intro hbel (And.intro hacc hbp)); clear hbel hacc tA hlen hne hbp
      go_wp2_with fail
      refine (HH.out.2.2 _).mono ?_; rintro e w2 ⟨rfl, b2⟩
      go_wp2
      simp only [Exit.jump]
      go_ret
      exact ⟨by rw [← HH.out.2.1]; rfl, HH.out.1.trans (b2.mono HH.out.1.size)⟩
    | succ m =>
      have hne2 : (nextS (m + 1)).toList.isEmpty = false := by rw [hne]; simp
      have hcl := high1_any m (by omega)
      have hall : allL 55 (m + 1) = hdL 55 m :: allL 55 m := rfl
      rw [hall] at hacc
      generalize hdL 55 m = b at *
      have hadd : ∀ W : World, (Op.stringOp .add ⟨acc.toArray⟩ ⟨#[b]⟩).run Tryd.prog W = .ok (.string ⟨(acc ++ [b]).toArray⟩) W := fun W => run_string_add_lists W acc [b] (by omega) (by simp)
      have hfb := frameBehind_n m (by omega)
      have HH := Lib.hid (And.intro hbel (And.intro hacc (And.intro tA (And.intro hbp (And.intro hcl (And.intro hfb hlen)))))); clear hbel hacc tA hlen hne hbp hcl hall hfb
      go_wp2_with fail
      refine (HH.out.2.2.2.1 _).mono ?_; rintro e w2 ⟨rfl, b2⟩
      have tA2 := HH.out.2.2.1.keep b2
      obtain ⟨e0, e1, e2, e3, e4, e5⟩ := tA2.cells
      have H2 := Lib.hid (And.intro (HH.out.1.trans (b2.mono HH.out.1.size)) tA2); clear tA2 b2
      clear y0 y1 y2 x0 x1 x2
      go_wp2_with fail
      refine (HH.out.2.2.2.2.1 _).mono ?_; rintro e w3 ⟨rfl, rfl⟩
      go_wp2_with fail
      refine (HH.out.2.2.2.2.2.1 _).mono ?_; rintro e w4 ⟨rfl, b4⟩
      have tA4 := H2.out.2.keep b4
      obtain ⟨d0, d1, d2, d3, d4, d5⟩ := tA4.cells
      have hS := tA4.stored (frR m) (frC m) (frL m)
      have B4 := below_put3 (b := w.heap.size) (p := m) (H2.out.1.trans (b4.mono H2.out.1.size)) (Nat.le_refl _)
      have H4 := Lib.hid (And.intro B4 hS); clear B4 hS tA4 b4
      clear e0 e1 e2 e3 e4 e5
      go_wp2
      go_step3
      refine ⟨rfl, ⟨m, acc ++ [b], _, _, _, _, _, _, _, _, _, _, _, _, _, _, rfl, by have := HH.out.2.2.2.2.2.2; simp at this ⊢; omega, by have := HH.out.2.1; simpa using this, H4.out.2, H4.out.1⟩, ?_⟩
      have := HH.out.2.2.2.2.2.2
      simp [strSize, ByteArray.size] at this ⊢; omega

set_option maxHeartbeats 6400000 in
set_option maxRecDepth 100000 in
theorem potLow_any (n : Nat) (hn : n ≤ 36) (w : World) :
    Calls Tryd.prog 70 #[frV n, .func (.func 73) #[] #[]] w fun e w' => e = .returned (.string ⟨(allL 50 n).toArray⟩) ∧ Below w.heap.size w w' := by
  go_enter Tryd.func70, Tryd.ntmps70
  go_wp2
  refine wp_scope_jumps 0 (fun a' w' => ∃ (m : Nat) (acc : List UInt8) (u3 u6 u7 u8 u9 u10 u11 u12 u13 u14 u15 u16 u17 u18 : Value), a' = { tmps := #[frV n, .func (.func 73) #[] #[], .pointer (some ⟨w.heap.size, 0, none⟩), u3, .string ⟨#[]⟩, .string ⟨acc.toArray⟩, u6, u7, u8, u9, u10, u11, u12, u13, u14, u15, u16, u17, u18], defers := [] } ∧ PotAt 50 n w m acc w') (fun a' _ => n - strSize (a'.tmps.getD 5 undef)) rfl ?_ ?_
  · have hP : PotAt 50 n w n [] (w.alloc (.cells #[.int .i64 (frR n), .bool (frC n), .int .i64 (frL n)] 26)) := ⟨by simp, rfl, FrAt.new w _ _ _, (Below.refl _ _).alloc (Nat.le_refl _) _⟩
    generalize w.alloc (.cells #[.int .i64 (frR n), .bool (frC n), .int .i64 (frL n)] 26) = wr at hP ⊢
    obtain ⟨m, hmn⟩ : ∃ m, m = n := ⟨n, rfl⟩
    rw [show PotAt 50 n w n [] wr = PotAt 50 n w m [] wr from by rw [hmn]] at hP
    have HMN := Lib.hid hmn; clear hmn
    obtain ⟨hlen, hacc, tA, hbel⟩ := hP
    have hne := next_empty m
    obtain ⟨y0, y1, y2, x0, x1, x2⟩ := tA.cells
    have hbp := ballsToPot_n m
    cases m with
    | zero =>
      have hne2 : (nextS 0).toList.isEmpty = true := hne
      rw [show allL 50 0 = [] from rfl, List.append_nil] at hacc
      have HH := Lib.hid (And.intro hbel (And.intro hacc hbp)); clear hbel hacc tA hlen hne hbp
      go_wp2_with fail
      go_step3
      go_wp2_with fail
      refine (HH.out.2.2 _).mono ?_; rintro e w2 ⟨rfl, b2⟩
      go_wp2
      simp only [Exit.jump]
      go_ret
      exact ⟨by rw [← HH.out.2.1]; rfl, HH.out.1.trans (b2.mono HH.out.1.size)⟩
    | succ m =>
      have hne2 : (nextS (m + 1)).toList.isEmpty = false := by rw [hne]; simp
      have hcl := low1_any m (by omega)
      have hall : allL 50 (m + 1) = hdL 50 m :: allL 50 m := rfl
      rw [hall] at hacc
      generalize hdL 50 m = b at *
      have hadd : ∀ W : World, (Op.stringOp .add ⟨([] : List UInt8).toArray⟩ ⟨#[b]⟩).run Tryd.prog W = .ok (.string ⟨(([] : List UInt8) ++ [b]).toArray⟩) W := fun W => run_string_add_lists W ([] : List UInt8) [b] (by omega) (by simp)
      have hfb := frameBehind_n m (by omega)
      have HH := Lib.hid (And.intro hbel (And.intro hacc (And.intro tA (And.intro hbp (And.intro hcl (And.intro hfb hlen)))))); clear hbel hacc tA hlen hne hbp hcl hall hfb
      go_wp2_with fail
      go_step3
      go_wp2_with fail
      refine (HH.out.2.2.2.1 _).mono ?_; rintro e w2 ⟨rfl, b2⟩
      have tA2 := HH.out.2.2.1.keep b2
      obtain ⟨e0, e1, e2, e3, e4, e5⟩ := tA2.cells
      have H2 := Lib.hid (And.intro (HH.out.1.trans (b2.mono HH.out.1.size)) tA2); clear tA2 b2
      clear y0 y1 y2 x0 x1 x2
      go_wp2_with fail
      refine (HH.out.2.2.2.2.1 _).mono ?_; rintro e w3 ⟨rfl, rfl⟩
      go_wp2_with fail
      refine (HH.out.2.2.2.2.2.1 _).mono ?_; rintro e w4 ⟨rfl, b4⟩
      have tA4 := H2.out.2.keep b4
      obtain ⟨d0, d1, d2, d3, d4, d5⟩ := tA4.cells
      have hS := tA4.stored (frR m) (frC m) (frL m)
      have B4 := below_put3 (b := w.heap.size) (p := m) (H2.out.1.trans (b4.mono H2.out.1.size)) (Nat.le_refl _)
      have H4 := Lib.hid (And.intro B4 hS); clear B4 hS tA4 b4
      clear e0 e1 e2 e3 e4 e5
      go_wp2
      go_step3
      exact ⟨rfl, ⟨m, ([] : List UInt8) ++ [b], _, _, _, _, _, _, _, _, _, _, _, _, _, _, rfl, by have := HH.out.2.2.2.2.2.2; simp at this ⊢; omega, by have := HH.out.2.1; simpa using this, H4.out.2, H4.out.1⟩⟩
  · rintro a' wr ⟨m, acc, u3, u6, u7, u8, u9, u10, u11, u12, u13, u14, u15, u16, u17, u18, rfl, hP⟩
    obtain ⟨hlen, hacc, tA, hbel⟩ := hP
    have hne := next_empty m
    obtain ⟨y0, y1, y2, x0, x1, x2⟩ := tA.cells
    have hbp := ballsToPot_n m
    cases m with
    | zero =>
      have hne2 : (nextS 0).toList.isEmpty = true := hne
      rw [show allL 50 0 = [] from rfl, List.append_nil] at hacc
      have HH := Lib.hid (And.intro hbel (And.intro hacc hbp)); clear hbel hacc tA hlen hne hbp
      go_wp2_with fail
      refine (HH.out.2.2 _).mono ?_; rintro e w2 ⟨rfl, b2⟩
      go_wp2
      simp only [Exit.jump]
      go_ret
      exact ⟨by rw [← HH.out.2.1]; rfl, HH.out.1.trans (b2.mono HH.out.1.size)⟩
    | succ m =>
      have hne2 : (nextS (m + 1)).toList.isEmpty = false := by rw [hne]; simp
      have hcl := low1_any m (by omega)
      have hall : allL 50 (m + 1) = hdL 50 m :: allL 50 m := rfl
      rw [hall] at hacc
      generalize hdL 50 m = b at *
      have hadd : ∀ W : World, (Op.stringOp .add ⟨acc.toArray⟩ ⟨#[b]⟩).run Tryd.prog W = .ok (.string ⟨(acc ++ [b]).toArray⟩) W := fun W => run_string_add_lists W acc [b] (by omega) (by simp)
      have hfb := frameBehind_n m (by omega)
      have HH := Lib.hid (And.intro hbel (And.intro hacc (And.intro tA (And.intro hbp (And.intro hcl (And.intro hfb hlen)))))); clear hbel hacc tA hlen hne hbp hcl hall hfb
      go_wp2_with fail
      refine (HH.out.2.2.2.1 _).mono ?_; rintro e w2 ⟨rfl, b2⟩
      have tA2 := HH.out.2.2.1.keep b2
      obtain ⟨e0, e1, e2, e3, e4, e5⟩ := tA2.cells
      have H2 := Lib.hid (And.intro (HH.out.1.trans (b2.mono HH.out.1.size)) tA2); clear tA2 b2
      clear y0 y1 y2 x0 x1 x2
      go_wp2_with fail
      refine (HH.out.2.2.2.2.1 _).mono ?_; rintro e w3 ⟨rfl, rfl⟩
      go_wp2_with fail
      refine (HH.out.2.2.2.2.2.1 _).mono ?_; rintro e w4 ⟨rfl, b4⟩
      have tA4 := H2.out.2.keep b4
      obtain ⟨d0, d1, d2, d3, d4, d5⟩ := tA4.cells
      have hS := tA4.stored (frR m) (frC m) (frL m)
      have B4 := below_put3 (b := w.heap.size) (p := m) (H2.out.1.trans (b4.mono H2.out.1.size)) (Nat.le_refl _)
      have H4 := Lib.hid (And.intro B4 hS); clear B4 hS tA4 b4
      clear e0 e1 e2 e3 e4 e5
      go_wp2
      go_step3
      refine ⟨rfl, ⟨m, acc ++ [b], _, _, _, _, _, _, _, _, _, _, _, _, _, _, rfl, by have := HH.out.2.2.2.2.2.2; simp at this ⊢; omega, by have := HH.out.2.1; simpa using this, H4.out.2, H4.out.1⟩, ?_⟩
      have := HH.out.2.2.2.2.2.2
      simp [strSize, ByteArray.size] at this ⊢; omega

end Go.Proofs.YtlehhkijigglgaaDoor
