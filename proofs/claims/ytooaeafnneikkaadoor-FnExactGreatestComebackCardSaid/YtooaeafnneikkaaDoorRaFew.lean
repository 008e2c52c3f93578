/-
  Races: the fewest points to win: the model and the program.
-/
import Derived.Test.YtooaeafnneikkaaDoorRaPts
import Derived.MapKept
namespace Go.Proofs.YtooaeafnneikkaaDoor
open Go.RowKit
set_option linter.unusedVariables false
set_option linter.unusedSimpArgs false

def sideB (s : ByteArray) : Bool := s == ⟨#[97]⟩ || s == ⟨#[98]⟩
theorem sideB_true {s : ByteArray} : sideB s = true ↔ s = ⟨#[97]⟩ ∨ s = ⟨#[98]⟩ := by unfold sideB; rw [Bool.or_eq_true, Go.MapKept.bytes_beq, Go.MapKept.bytes_beq]
theorem str_is (d : ByteArray) (c : UInt8) : d.toList = [c] ↔ d = ⟨#[c]⟩ := by
  rw [ByteArray.toList_eq]
  constructor
  · intro h
    obtain ⟨x⟩ := d
    have : x = #[c] := Array.toList_inj.1 h
    rw [this]
  · intro h; rw [h]
theorem str_beq (d : ByteArray) (c : UInt8) : (d.toList == [c]) = (d == (⟨#[c]⟩ : ByteArray)) := by
  rw [Bool.eq_iff_iff, beq_iff_eq, str_is, Go.MapKept.bytes_beq]
set_option maxHeartbeats 400000 in
theorem isSideS_any (s : ByteArray) (w : World) :
    Calls Tryd.prog 54 #[.string s] w fun e w' => e = .returned (.bool (sideB s)) ∧ w = w' := by
  have hb : sideB s = (s == ⟨#[97]⟩ || s == ⟨#[98]⟩) := rfl
  rw [← str_beq, ← str_beq] at hb
  have HB := Lib.hid hb; clear hb
  by_cases h1 : s.toList = [97]
  · have e1 : (s.toList == [97]) = true := by simpa using h1
    go_enter Tryd.func54, Tryd.ntmps54
    go_wp2
    go_ret
    exact ⟨ret_bool (by rw [HB.out, e1]; try simp), rfl⟩
  · have e1 : (s.toList == [97]) = false := by simpa using h1
    go_enter Tryd.func54, Tryd.ntmps54
    go_wp2
    go_ret
    exact ⟨ret_bool (by rw [HB.out, e1]; try simp), rfl⟩

def maxI (a b : Int) : Int := if b < a then a else b
theorem maxI_eq (a b : Int) : maxI a b = max a b := by unfold maxI; split <;> omega
set_option maxHeartbeats 400000 in
theorem l1Most_any (a b : Int) (w : World) : Calls Tryd.prog 53 #[.int .i64 a, .int .i64 b] w fun e w' => e = .returned (.int .i64 (maxI a b)) ∧ w = w' := by
  by_cases h : b < a
  all_goals
    go_enter Tryd.func53, Tryd.ntmps53
    go_wp2
    go_ret
    exact ⟨ret_int (by unfold maxI; omega), rfl⟩

/-- How many points the side with own points still needs. -/
def needN (to ld own other : Int) : Int := maxI 0 (maxI to (other + ld) - own)
def fewOk (to ld : Int) (s d : ByteArray) : Bool := isP to ld s && sideB d && decide (wonN to ld (cntA s.data.toList) (cntB s.data.toList) ≠ (if d = ⟨#[97]⟩ then 2 else 1))
def fewV (to ld : Int) (s d : ByteArray) : Int :=
  if fewOk to ld s d then (if d = ⟨#[97]⟩ then needN to ld (cntA s.data.toList) (cntB s.data.toList) else needN to ld (cntB s.data.toList) (cntA s.data.toList)) else 0
theorem few_a {to ld : Int} {s : ByteArray} (h : isP to ld s = true) : fewOk to ld s ⟨#[97]⟩ = decide (wonN to ld (cntA s.data.toList) (cntB s.data.toList) ≠ 2) ∧ fewV to ld s ⟨#[97]⟩ = if wonN to ld (cntA s.data.toList) (cntB s.data.toList) ≠ 2 then needN to ld (cntA s.data.toList) (cntB s.data.toList) else 0 := by
  have e : fewOk to ld s ⟨#[97]⟩ = decide (wonN to ld (cntA s.data.toList) (cntB s.data.toList) ≠ 2) := by
    unfold fewOk; rw [h, sideB_true.2 (.inl rfl), if_pos rfl]; rfl
  refine ⟨e, ?_⟩
  unfold fewV; rw [e, if_pos rfl]; simp
theorem few_b {to ld : Int} {s : ByteArray} (h : isP to ld s = true) : fewOk to ld s ⟨#[98]⟩ = decide (wonN to ld (cntA s.data.toList) (cntB s.data.toList) ≠ 1) ∧ fewV to ld s ⟨#[98]⟩ = if wonN to ld (cntA s.data.toList) (cntB s.data.toList) ≠ 1 then needN to ld (cntB s.data.toList) (cntA s.data.toList) else 0 := by
  have n : ¬ (⟨#[98]⟩ : ByteArray) = ⟨#[97]⟩ := by decide
  have e : fewOk to ld s ⟨#[98]⟩ = decide (wonN to ld (cntA s.data.toList) (cntB s.data.toList) ≠ 1) := by
    unfold fewOk; rw [h, sideB_true.2 (.inr rfl), if_neg n]; rfl
  refine ⟨e, ?_⟩
  unfold fewV; rw [e, if_neg n]; simp
theorem few_bad {to ld : Int} {s d : ByteArray} (h : isP to ld s = false ∨ sideB d = false) : fewOk to ld s d = false ∧ fewV to ld s d = 0 := by
  have e : fewOk to ld s d = false := by unfold fewOk; rcases h with h | h <;> rw [h] <;> simp
  exact ⟨e, by unfold fewV; rw [e]; rfl⟩
/-- Who has won, from one's own side. -/
theorem won_need {to ld a b : Int} (hl : 1 ≤ ld) : (wonN to ld a b = 1 → needN to ld a b = 0) ∧ (wonN to ld a b = 2 → needN to ld b a = 0) ∧
    (wonN to ld a b = 0 → needN to ld a b = max (to - a) (ld - (2 * a - a - b)) ∧ needN to ld b a = max (to - b) (ld - (2 * b - a - b))) := by
  unfold wonN needN
  simp only [maxI_eq]
  by_cases h1 : to ≤ a ∧ ld ≤ a - b
  · rw [if_pos h1]; refine ⟨fun _ => by omega, fun h => by omega, fun h => by omega⟩
  · rw [if_neg h1]
    by_cases h2 : to ≤ b ∧ ld ≤ b - a
    · rw [if_pos h2]; refine ⟨fun h => by omega, fun _ => by omega, fun h => by omega⟩
    · rw [if_neg h2]; refine ⟨fun h => by omega, fun h => by omega, fun _ => ⟨by omega, by omega⟩⟩
theorem won_lt {to ld a b : Int} (hl : 1 ≤ ld) : (wonI to ld a b < 0 ↔ wonN to ld a b = 2) ∧ (wonI to ld b a < 0 ↔ wonN to ld a b = 1) := by
  rw [won_swap (a := a) (b := b) hl]
  rcases wonI_eq to ld a b with ⟨h, g⟩ | ⟨h, g⟩ | ⟨h, g⟩ <;> rw [h, g] <;> simp


set_option maxHeartbeats 3200000 in
theorem specFewestToWin_any (to ld : Int) (s d : ByteArray) (w : World) (hs : (s.size : Int) ≤ 1000000000000) :
    Calls Tryd.prog 23 #[.agg #[.int .i64 to, .int .i64 ld], .string s, .string d] w fun e w' => e = .returned (.tuple #[.int .i64 (fewV to ld s d), .bool (fewOk to ld s d)]) ∧ Below w.heap.size w w' := by
  have his := fun w => raIs_any to ld s w hs
  have HI := Lib.hid his; clear his
  cases h1 : isP to ld s
  · rw [(few_bad (.inl h1)).1, (few_bad (.inl h1)).2]
    rw [h1] at HI
    clear h1
    go_enter Tryd.func23, Tryd.ntmps23
    go_wp2_with fail
    refine (HI.out _).mono ?_; rintro e w1 ⟨rfl, b1⟩
    go_wp2_with fail
    refine bodyPost_ret (v := .tuple #[.int .i64 0, .bool false]) (by simp [results, Tryd.results23, go_sem]) rfl ⟨rfl, ?_⟩
    have sz_b1 := b1.size; (try simp at sz_b1)
    (repeat (first | exact Below.refl _ _ | exact ‹Below _ _ _› | refine Below.drew ?_ | refine Below.alloc ?_ (by first | omega | (simp; done) | (simp; omega)) _ | refine Below.setCell ?_ (by first | omega | (simp; done) | (simp; omega)) _ | refine Below.trans ?_ (Below.mono ‹Below _ _ _› (by first | omega | (simp; done) | (simp; omega)))))
  obtain ⟨a0, b0, ab, sz, ht, hl⟩ := isP_bd h1
  have hc := isP_cnt h1
  have hcn := fun w => raCount_any to ld s w hs
  rw [hc] at hcn
  unfold cntV at hcn
  have HC := Lib.hid hcn; clear hcn hc
  rw [h1] at HI
  by_cases da : d = ⟨#[97]⟩
  · subst da
    have hf := few_a h1
    rw [hf.1, hf.2]
    clear hf h1
    generalize cntA s.data.toList = x at *
    generalize cntB s.data.toList = y at *
    have hw := fun w => raWon_any to ld x y w a0 (by omega) b0 (by omega)
    have HW := Lib.hid hw; clear hw
    have hlt := (won_lt (to := to) (ld := ld) (a := x) (b := y) hl.1).1
    have hne : needN to ld x y = maxI 0 (maxI to (y + ld) - x) := rfl
    have wa : IntKind.i64.wrap (y + ld) = y + ld := IntWalk.i64_in _ (by omega)
    have wb : IntKind.i64.wrap (maxI to (y + ld) - x) = maxI to (y + ld) - x := by rw [maxI_eq]; exact IntWalk.i64_in _ (by omega)
    generalize wonI to ld x y = u at *
    by_cases q : u < 0
    · have e : wonN to ld x y = 2 := hlt.1 q
      rw [e]
      clear hlt hne wa wb e
      go_enter Tryd.func23, Tryd.ntmps23
      go_wp2_with fail
      refine (HI.out _).mono ?_; rintro e w1 ⟨rfl, b1⟩
      obtain ⟨c1, f1⟩ := bcell b1; have z1 : w.heap.size < w1.heap.size := (by have := b1.size; (try simp at this); omega)
      go_wp2_with fail
      refine (HC.out _).mono ?_; rintro e w2 ⟨rfl, b2⟩
      obtain ⟨c2, f2⟩ := bcell b2; have z2 : w.heap.size < w2.heap.size := (by have := b2.size; (try simp at this); omega)
      go_wp2_with fail
      refine (HW.out _).mono ?_; rintro e w3 ⟨rfl, b3⟩
      go_wp2_with fail
      refine bodyPost_ret (v := .tuple #[.int .i64 0, .bool false]) (by simp [results, Tryd.results23, go_sem]) rfl ⟨by simp, ?_⟩
      have sz_b1 := b1.size; (try simp at sz_b1); have sz_b2 := b2.size; (try simp at sz_b2); have sz_b3 := b3.size; (try simp at sz_b3)
      (repeat (first | exact Below.refl _ _ | exact ‹Below _ _ _› | refine Below.drew ?_ | refine Below.alloc ?_ (by first | omega | (simp; done) | (simp; omega)) _ | refine Below.setCell ?_ (by first | omega | (simp; done) | (simp; omega)) _ | refine Below.trans ?_ (Below.mono ‹Below _ _ _› (by first | omega | (simp; done) | (simp; omega)))))
    · have e : wonN to ld x y ≠ 2 := fun e => q (hlt.2 e)
      rw [if_pos e, decide_eq_true e, hne]
      clear hlt hne e
      have hm1 := fun w => l1Most_any to (y + ld) w
      have hm2 := fun w => l1Most_any 0 (maxI to (y + ld) - x) w
      generalize maxI to (y + ld) = mm at *
      have HM := Lib.hid (And.intro hm1 hm2); clear hm1 hm2
      generalize maxI 0 (mm - x) = rr at *
      go_enter Tryd.func23, Tryd.ntmps23
      go_wp2_with fail
      refine (HI.out _).mono ?_; rintro e w1 ⟨rfl, b1⟩
      obtain ⟨c1, f1⟩ := bcell b1; have z1 : w.heap.size < w1.heap.size := (by have := b1.size; (try simp at this); omega)
      go_wp2_with fail
      refine (HC.out _).mono ?_; rintro e w2 ⟨rfl, b2⟩
      obtain ⟨c2, f2⟩ := bcell b2; have z2 : w.heap.size < w2.heap.size := (by have := b2.size; (try simp at this); omega)
      go_wp2_with fail
      refine (HW.out _).mono ?_; rintro e w3 ⟨rfl, b3⟩
      obtain ⟨c3, f3⟩ := bcell b3; have z3 : w.heap.size < w3.heap.size := (by have := b3.size; (try simp at this); omega)
      go_wp2_with fail
      refine (HM.out.1 _).mono ?_; rintro e w4 ⟨rfl, rfl⟩
      go_wp2_with fail
      refine (HM.out.2 _).mono ?_; rintro e w5 ⟨rfl, rfl⟩
      go_wp2_with fail
      refine bodyPost_ret (v := .tuple #[.int .i64 rr, .bool true]) (by simp [results, Tryd.results23, go_sem]) rfl ⟨rfl, ?_⟩
      have sz_b1 := b1.size; (try simp at sz_b1); have sz_b2 := b2.size; (try simp at sz_b2); have sz_b3 := b3.size; (try simp at sz_b3)
      (repeat (first | exact Below.refl _ _ | exact ‹Below _ _ _› | refine Below.drew ?_ | refine Below.alloc ?_ (by first | omega | (simp; done) | (simp; omega)) _ | refine Below.setCell ?_ (by first | omega | (simp; done) | (simp; omega)) _ | refine Below.trans ?_ (Below.mono ‹Below _ _ _› (by first | omega | (simp; done) | (simp; omega)))))
  by_cases db : d = ⟨#[98]⟩
  · subst db
    have hf := few_b h1
    rw [hf.1, hf.2]
    clear hf h1 da
    generalize cntA s.data.toList = x at *
    generalize cntB s.data.toList = y at *
    have hw := fun w => raWon_any to ld y x w b0 (by omega) a0 (by omega)
    have HW := Lib.hid hw; clear hw
    have hlt := (won_lt (to := to) (ld := ld) (a := x) (b := y) hl.1).2
    have hne : needN to ld y x = maxI 0 (maxI to (x + ld) - y) := rfl
    have wa : IntKind.i64.wrap (x + ld) = x + ld := IntWalk.i64_in _ (by omega)
    have wb : IntKind.i64.wrap (maxI to (x + ld) - y) = maxI to (x + ld) - y := by rw [maxI_eq]; exact IntWalk.i64_in _ (by omega)
    generalize wonI to ld y x = u at *
    by_cases q : u < 0
    · have e : wonN to ld x y = 1 := hlt.1 q
      rw [e]
      clear hlt hne wa wb e
      go_enter Tryd.func23, Tryd.ntmps23
      go_wp2_with fail
      refine (HI.out _).mono ?_; rintro e w1 ⟨rfl, b1⟩
      obtain ⟨c1, f1⟩ := bcell b1; have z1 : w.heap.size < w1.heap.size := (by have := b1.size; (try simp at this); omega)
      go_wp2_with fail
      refine (HC.out _).mono ?_; rintro e w2 ⟨rfl, b2⟩
      obtain ⟨c2, f2⟩ := bcell b2; have z2 : w.heap.size < w2.heap.size := (by have := b2.size; (try simp at this); omega)
      go_wp2_with fail
      refine (HW.out _).mono ?_; rintro e w3 ⟨rfl, b3⟩
      go_wp2_with fail
      refine bodyPost_ret (v := .tuple #[.int .i64 0, .bool false]) (by simp [results, Tryd.results23, go_sem]) rfl ⟨by simp, ?_⟩
      have sz_b1 := b1.size; (try simp at sz_b1); have sz_b2 := b2.size; (try simp at sz_b2); have sz_b3 := b3.size; (try simp at sz_b3)
      (repeat (first | exact Below.refl _ _ | exact ‹Below _ _ _› | refine Below.drew ?_ | refine Below.alloc ?_ (by first | omega | (simp; done) | (simp; omega)) _ | refine Below.setCell ?_ (by first | omega | (simp; done) | (simp; omega)) _ | refine Below.trans ?_ (Below.mono ‹Below _ _ _› (by first | omega | (simp; done) | (simp; omega)))))
    · have e : wonN to ld x y ≠ 1 := fun e => q (hlt.2 e)
      rw [if_pos e, decide_eq_true e, hne]
      clear hlt hne e
      have hm1 := fun w => l1Most_any to (x + ld) w
      have hm2 := fun w => l1Most_any 0 (maxI to (x + ld) - y) w
      generalize maxI to (x + ld) = mm at *
      have HM := Lib.hid (And.intro hm1 hm2); clear hm1 hm2
      generalize maxI 0 (mm - y) = rr at *
      go_enter Tryd.func23, Tryd.ntmps23
      go_wp2_with fail
      refine (HI.out _).mono ?_; rintro e w1 ⟨rfl, b1⟩
      obtain ⟨c1, f1⟩ := bcell b1; have z1 : w.heap.size < w1.heap.size := (by have := b1.size; (try simp at this); omega)
      go_wp2_with fail
      refine (HC.out _).mono ?_; rintro e w2 ⟨rfl, b2⟩
      obtain ⟨c2, f2⟩ := bcell b2; have z2 : w.heap.size < w2.heap.size := (by have := b2.size; (try simp at this); omega)
      go_wp2_with fail
      refine (HW.out _).mono ?_; rintro e w3 ⟨rfl, b3⟩
      obtain ⟨c3, f3⟩ := bcell b3; have z3 : w.heap.size < w3.heap.size := (by have := b3.size; (try simp at this); omega)
      go_wp2_with fail
      refine (HM.out.1 _).mono ?_; rintro e w4 ⟨rfl, rfl⟩
      go_wp2_with fail
      refine (HM.out.2 _).mono ?_; rintro e w5 ⟨rfl, rfl⟩
      go_wp2_with fail
      refine bodyPost_ret (v := .tuple #[.int .i64 rr, .bool true]) (by simp [results, Tryd.results23, go_sem]) rfl ⟨rfl, ?_⟩
      have sz_b1 := b1.size; (try simp at sz_b1); have sz_b2 := b2.size; (try simp at sz_b2); have sz_b3 := b3.size; (try simp at sz_b3)
      (repeat (first | exact Below.refl _ _ | exact ‹Below _ _ _› | refine Below.drew ?_ | refine Below.alloc ?_ (by first | omega | (simp; done) | (simp; omega)) _ | refine Below.setCell ?_ (by first | omega | (simp; done) | (simp; omega)) _ | refine Below.trans ?_ (Below.mono ‹Below _ _ _› (by first | omega | (simp; done) | (simp; omega)))))
  · have hb : sideB d = false := by
      cases hb : sideB d
      · rfl
      · rcases sideB_true.1 hb with h | h
        · exact absurd h da
        · exact absurd h db
    rw [(few_bad (.inr hb)).1, (few_bad (.inr hb)).2]
    have n1 : ¬ d.toList = [97] := fun h => da ((str_is _ _).1 h)
    have n2 : ¬ d.toList = [98] := fun h => db ((str_is _ _).1 h)
    have n3 : (d.toList == [97]) = false := by simpa using n1
    have n4 : (d.toList == [98]) = false := by simpa using n2
    clear hb da db h1
    go_enter Tryd.func23, Tryd.ntmps23
    go_wp2_with fail
    refine (HI.out _).mono ?_; rintro e w1 ⟨rfl, b1⟩
    go_wp2_with fail
    refine bodyPost_ret (v := .tuple #[.int .i64 0, .bool false]) (by simp [results, Tryd.results23, go_sem]) rfl ⟨rfl, ?_⟩
    have sz_b1 := b1.size; (try simp at sz_b1)
    (repeat (first | exact Below.refl _ _ | exact ‹Below _ _ _› | refine Below.drew ?_ | refine Below.alloc ?_ (by first | omega | (simp; done) | (simp; omega)) _ | refine Below.setCell ?_ (by first | omega | (simp; done) | (simp; omega)) _ | refine Below.trans ?_ (Below.mono ‹Below _ _ _› (by first | omega | (simp; done) | (simp; omega)))))

end Go.Proofs.YtooaeafnneikkaaDoor
