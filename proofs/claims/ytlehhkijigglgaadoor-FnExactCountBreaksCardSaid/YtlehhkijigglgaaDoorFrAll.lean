/-
  Frames: all balls potted: the model's way.
-/
import Derived.Test.YtlehhkijigglgaaDoorFrPts
import Derived.Test.YtlehhkijigglgaaDoorFrAfterS
namespace Go.Proofs.YtlehhkijigglgaaDoor
open Go.RowKit
set_option linter.unusedVariables false

/-- All balls potted, with one colour each time one may choose. -/
def allL (c : UInt8) : Nat → List UInt8
  | 0 => []
  | n + 1 => (if frC (n + 1) then c else (nextL (n + 1)).head?.getD 0) :: allL c n
theorem allL_len (c : UInt8) : ∀ n, (allL c n).length = n
  | 0 => rfl
  | n + 1 => by simp [allL, allL_len c n]
theorem allL_dig {c : UInt8} (hc : c = 55 ∨ c = 50) {n : Nat} (h : n ≤ 36) : digL (allL c n) = true := by
  have h1 : ∀ m, m ≤ 36 → digL (allL 55 m) = true := by decide +kernel
  have h2 : ∀ m, m ≤ 36 → digL (allL 50 m) = true := by decide +kernel
  rcases hc with rfl | rfl
  · exact h1 n h
  · exact h2 n h
theorem allL_next {c : UInt8} (hc : c = 55 ∨ c = 50) {n : Nat} (h : n + 1 ≤ 36) : (if frC (n + 1) then c else (nextL (n + 1)).head?.getD 0) ∈ nextL (n + 1) := by
  have h1 : ∀ m, m ≤ 35 → (if frC (m + 1) then (55 : UInt8) else (nextL (m + 1)).head?.getD 0) ∈ nextL (m + 1) := by decide +kernel
  have h2 : ∀ m, m ≤ 35 → (if frC (m + 1) then (50 : UInt8) else (nextL (m + 1)).head?.getD 0) ∈ nextL (m + 1) := by decide +kernel
  rcases hc with rfl | rfl
  · exact h1 n (by omega)
  · exact h2 n (by omega)
theorem next_head (n : Nat) : 0 < (nextS (n + 1)).size := by
  have : (nextS (n + 1)).size = (nextL (n + 1)).length := by simp [nextS, ByteArray.size]
  rw [this]; have := next_len_pos (n := n + 1) (by omega); omega
theorem next_head_val (n : Nat) : (nextS (n + 1))[0]'(next_head n) = (nextL (n + 1)).head?.getD 0 := by
  have h := pdrop_cons (nextS (n + 1)) 0 (next_head n)
  rw [List.drop_zero, next_list] at h
  rw [h]; rfl
theorem index_head (n : Nat) (w : World) : (Instr.index 9 (.string (nextS (n + 1))) (.int .i64 0)).run Tryd.prog w = .ok (.int .u8 (((nextL (n + 1)).head?.getD 0).toNat : Int)) w := by
  rw [run_index_string w _ _ _ _ Tryd.underlying9, dif_pos ⟨by omega, by have := next_head n; omega⟩]
  rw [← next_head_val n]; rfl
theorem next_empty (n : Nat) : (nextS n).toList.isEmpty = decide (n = 0) := by
  rw [ByteArray.toList_eq, next_list]
  cases n with
  | zero => rfl
  | succ n => have := next_len_pos (n := n + 1) (by omega)
              cases h : nextL (n + 1) with
              | nil => rw [h] at this; simp at this
              | cons a l => rfl
theorem encode_one (c : UInt8) (h : c.toNat < 128) : Utf8.encode (c.toNat : Int) = ⟨#[c]⟩ := by
  have key : ∀ n : Nat, n < 128 → (Utf8.encode (n : Int)).data.toList = [UInt8.ofNat n] := by decide +kernel
  have h2 := key c.toNat h
  rw [UInt8.ofNat_toNat] at h2
  have : (Utf8.encode (c.toNat : Int)).data = #[c] := by rw [← Array.toList_inj]; exact h2
  cases hE : Utf8.encode (c.toNat : Int) with
  | mk d => rw [hE] at this; simp at this; rw [this]
theorem digB_lt {c : UInt8} (h : digB c = true) : c.toNat < 128 := by have := (digB_iff c).1 h; omega

def strSize : Value → Nat
  | .string b => b.size
  | _ => 0

/-- What holds at the head of each round. -/
def AllAt (c : UInt8) (n : Nat) (w : World) (o nx : Value) (wr : World) : Prop :=
  ∃ (m : Nat) (acc : List UInt8), acc.length + m = n ∧ o = .string ⟨acc.toArray⟩ ∧ nx = .string (nextS m) ∧ acc ++ allL c m = allL c n ∧ FrAt wr w.heap.size (frR m) (frC m) (frL m) ∧ Below w.heap.size w wr

set_option maxHeartbeats 3200000 in
set_option maxRecDepth 100000 in
theorem frAll_any (c : UInt8) (hc : c = 55 ∨ c = 50) (n : Nat) (hn : n ≤ 36) (w : World) :
    Calls Tryd.prog 68 #[frV n, .int .u8 c.toNat] w fun e w' => e = .returned (.string ⟨(allL c n).toArray⟩) ∧ Below w.heap.size w w' := by
  have HN := Lib.hid (fun m => frNext_n m)
  go_enter Tryd.func68, Tryd.ntmps68
  go_wp2_with fail
  refine (HN.out n _).mono ?_; rintro e w1 ⟨rfl, b1⟩
  have hA0 : AllAt c n w (.string ⟨#[]⟩) (.string (nextS n)) w1 := ⟨n, [], by simp, rfl, rfl, rfl, (FrAt.new w _ _ _).keep b1, ((Below.refl _ _).alloc (Nat.le_refl _) _).trans (b1.mono (by simp))⟩
  have HA0 := Lib.hid hA0; clear hA0 b1
  go_wp2_with fail
  go_loopw [5, 6, 7] (fun o nx _ wr => Hid (AllAt c n w o nx wr)) (fun o _ _ _ => n - strSize o)
  case atStart => exact HA0
  case round =>
    obtain ⟨m, acc, hlen, rfl, rfl, hacc, tA, hbel⟩ := hrel.out
    clear hrel HA0
    have hne := next_empty m
    cases m with
    | zero =>
      have hne2 : (nextS 0).toList.isEmpty = true := hne
      clear hne
      rw [show allL c 0 = [] from rfl, List.append_nil] at hacc
      have HH := Lib.hid (And.intro hbel hacc); clear hbel hacc tA hlen
      go_wp2
      go_ret
      exact ⟨by rw [HH.out.2]; rfl, HH.out.1⟩
    | succ m =>
      have hne2 : (nextS (m + 1)).toList.isEmpty = false := by rw [hne]; simp
      clear hne
      have hix := index_head m
      have hmem := allL_next hc (show m + 1 ≤ 36 by omega)
      have hall : allL c (m + 1) = (if frC (m + 1) then c else (nextL (m + 1)).head?.getD 0) :: allL c m := rfl
      rw [hall] at hacc
      have hb := digB_lt (next_dig (show m + 1 ≤ 36 by omega) _ hmem)
      obtain ⟨y0, y1, y2, x0, x1, x2⟩ := tA.cells
      cases hC : frC (m + 1)
      · rw [hC] at hmem hacc y1 hb
        simp only [Bool.false_eq_true, if_false] at hmem hacc hb
        generalize (nextL (m + 1)).head?.getD 0 = b at *
        have hen := encode_one b hb
        have hcall : ∀ w : World, Calls Tryd.prog 64 #[frW (frR (m + 1)) false (frL (m + 1)), .int .u8 (b).toNat] w fun e w' => e = .returned (.tuple #[frV m, .bool true]) ∧ Below w.heap.size w w' := by
          have h := frPot_yes m (by omega) b hmem
          rw [show frV (m + 1) = frW (frR (m + 1)) (frC (m + 1)) (frL (m + 1)) from rfl, hC] at h; exact h
        have hadd : ∀ W : World, (Op.stringOp .add ⟨acc.toArray⟩ ⟨[b].toArray⟩).run Tryd.prog W = .ok (.string ⟨(acc ++ [b]).toArray⟩) W := fun W => run_string_add_lists W acc [b] (by omega) (by simp)
        have HH := Lib.hid (And.intro hbel (And.intro hacc (And.intro tA (And.intro hcall hlen)))); clear hbel hacc tA hcall hmem hlen hall hC
        go_wp2_with fail
        refine (HH.out.2.2.2.1 _).mono ?_; rintro e w2 ⟨rfl, b2⟩
        have tA2 := HH.out.2.2.1.keep b2
        obtain ⟨e0, e1, e2, e3, e4, e5⟩ := tA2.cells
        have hS := tA2.stored (frR m) (frC m) (frL m)
        obtain ⟨p0, p1, p2, -, -, -⟩ := hS.cells
        have B2 := below_put3 (b := w.heap.size) (p := m) (HH.out.1.trans (b2.mono HH.out.1.size)) (Nat.le_refl _)
        have H2 := Lib.hid (And.intro B2 hS); clear B2 hS tA2 b2
        clear y0 y1 y2 x0 x1 x2
        go_wp2_with fail
        refine (HN.out m _).mono ?_; rintro e w3 ⟨rfl, b3⟩
        go_wp2
        go_roundw
        case rel => exact Lib.hid ⟨m, acc ++ [b], by have := HH.out.2.2.2.2; simp; omega, rfl, rfl, by have := HH.out.2.1; simpa using this, H2.out.2.keep b3, H2.out.1.trans (b3.mono H2.out.1.size)⟩
        case measure => have := HH.out.2.2.2.2; simp [strSize, ByteArray.size]; omega
      · rw [hC] at hmem hacc y1 hb
        simp only [if_true] at hmem hacc hb
        generalize (nextL (m + 1)).head?.getD 0 = b at *
        have hen := encode_one c hb
        have hcall : ∀ w : World, Calls Tryd.prog 64 #[frW (frR (m + 1)) true (frL (m + 1)), .int .u8 (c).toNat] w fun e w' => e = .returned (.tuple #[frV m, .bool true]) ∧ Below w.heap.size w w' := by
          have h := frPot_yes m (by omega) c hmem
          rw [show frV (m + 1) = frW (frR (m + 1)) (frC (m + 1)) (frL (m + 1)) from rfl, hC] at h; exact h
        have hadd : ∀ W : World, (Op.stringOp .add ⟨acc.toArray⟩ ⟨[c].toArray⟩).run Tryd.prog W = .ok (.string ⟨(acc ++ [c]).toArray⟩) W := fun W => run_string_add_lists W acc [c] (by omega) (by simp)
        have HH := Lib.hid (And.intro hbel (And.intro hacc (And.intro tA (And.intro hcall hlen)))); clear hbel hacc tA hcall hmem hlen hall hC
        go_wp2_with fail
        refine (HH.out.2.2.2.1 _).mono ?_; rintro e w2 ⟨rfl, b2⟩
        have tA2 := HH.out.2.2.1.keep b2
        obtain ⟨e0, e1, e2, e3, e4, e5⟩ := tA2.cells
        have hS := tA2.stored (frR m) (frC m) (frL m)
        obtain ⟨p0, p1, p2, -, -, -⟩ := hS.cells
        have B2 := below_put3 (b := w.heap.size) (p := m) (HH.out.1.trans (b2.mono HH.out.1.size)) (Nat.le_refl _)
        have H2 := Lib.hid (And.intro B2 hS); clear B2 hS tA2 b2
        clear y0 y1 y2 x0 x1 x2
        go_wp2_with fail
        refine (HN.out m _).mono ?_; rintro e w3 ⟨rfl, b3⟩
        go_wp2
        go_roundw
        case rel => exact Lib.hid ⟨m, acc ++ [c], by have := HH.out.2.2.2.2; simp; omega, rfl, rfl, by have := HH.out.2.1; simpa using this, H2.out.2.keep b3, H2.out.1.trans (b3.mono H2.out.1.size)⟩
        case measure => have := HH.out.2.2.2.2; simp [strSize, ByteArray.size]; omega

end Go.Proofs.YtlehhkijigglgaaDoor
