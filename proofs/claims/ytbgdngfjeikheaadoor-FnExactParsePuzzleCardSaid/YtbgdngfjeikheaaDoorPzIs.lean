/-
  Puzzles: IsPuzzle, IsClue of both sides.
-/
import Derived.Test.YtbgdngfjeikheaaDoorPzAre
import Derived.Deep.RegionHeld3
namespace Go.Proofs.YtbgdngfjeikheaaDoor
open Go.RowKit
set_option linter.unusedVariables false
set_option linter.unusedSimpArgs false

theorem goodP_not1 {p : Int} {l : List Cl} (h : inP p 1 8 = false) : goodP p l = false := by simp [goodP, h]
theorem goodP_not2 {p : Int} {l : List Cl} (h : ¬ l.length ≤ 6) : goodP p l = false := by simp [goodP, h]
theorem goodP_is {p : Int} {l : List Cl} (h1 : inP p 1 8 = true) (h2 : l.length ≤ 6) : goodP p l = goodCs p l := by simp [goodP, h1, h2]

/-- A puzzle in its block. -/
def PzB (w : World) (p : Int) (v : Value) (w' : World) : Prop := ObAt w' w.heap.size 24 #[.int .i64 p, v] ∧ Below w.heap.size w w'
theorem PzB.keep {w : World} {p : Int} {v : Value} {w' w2 : World} (h : PzB w p v w') (hb : Below w'.heap.size w' w2) : PzB w p v w2 := ⟨h.1.keep hb, h.2.trans (hb.mono h.2.size)⟩
theorem PzB.drew {w : World} {p : Int} {v : Value} {w' : World} (h : PzB w p v w') : PzB w p v w'.drew := h.keep (Below.drew (Below.refl _ _))
theorem PzB.full {w : World} {p : Int} {v : Value} {w' : World} (h : PzB w p v w') : w'.cell? ⟨w.heap.size, 0, none⟩ = some (.int .i64 p) ∧ w'.cell? ⟨w.heap.size, 1, none⟩ = some v ∧ PzB w p v w' := ⟨h.1.cell 0, h.1.cell 1, h⟩
theorem PzB.new (w : World) (p : Int) (v : Value) : PzB w p v (w.alloc (.cells #[.int .i64 p, v] 24)) := ⟨ObAt.new _ _ _, Below.ofNew _⟩

set_option maxHeartbeats 3200000 in
set_option maxRecDepth 100000 in
theorem isPuzzle_any (p : Int) (l : List Cl) (ad : Option Addr) (c : Nat) (w : World) (hl : (l.length : Int) ≤ 1000000000000) (hr : Reads w ad (clus l)) :
    Calls Tryd.prog 65 #[.agg #[.int .i64 p, .slice ad l.length c]] w fun e w' => e = .returned (.bool (goodP p l)) ∧ Below w.heap.size w w' := by
  have HS0 := Lib.hid (PzB.new w p (.slice ad l.length c))
  obtain ⟨q0, q1, -⟩ := HS0.out.full
  cases h1 : inP p 1 8
  · have HV := Lib.hid (goodP_not1 (l := l) h1)
    have H1 := Lib.hid h1; clear h1 hr
    go_enter Tryd.func65, Tryd.ntmps65
    go_wp2_with fail
    refine (isHiddenCount_any _ _).mono ?_; rintro e w5 ⟨rfl, rfl⟩
    rw [H1.out]
    go_wp2_with fail
    go_ret
    exact ⟨ret_bool HV.out.symm, HS0.out.2⟩
  · by_cases h2 : l.length ≤ 6
    · have HV := Lib.hid (goodP_is h1 h2)
      have hp := inP_iff.1 h1
      have HA := Lib.hid (fun W (hb : Below w.heap.size w W) => areClues_any p l ad c W hp hl (hr.old hb))
      have H1 := Lib.hid h1; clear h1 hr
      have h2' : (l.length : Int) ≤ 6 := by omega
      clear h2
      go_enter Tryd.func65, Tryd.ntmps65
      go_wp2_with fail
      refine (isHiddenCount_any _ _).mono ?_; rintro e w5 ⟨rfl, rfl⟩
      rw [H1.out]
      go_wp2_with fail
      refine (HA.out _ HS0.out.2).mono ?_; rintro e w5 ⟨rfl, b5⟩
      have HS5 := Lib.hid (HS0.out.keep b5); clear b5
      go_wp2_with fail
      go_ret
      exact ⟨ret_bool (by rw [HV.out]; try simp), HS5.out.2⟩
    · have HV := Lib.hid (goodP_not2 (p := p) h2)
      have H1 := Lib.hid h1; clear h1 hr
      have h2' : ¬ (l.length : Int) ≤ 6 := by omega
      clear h2
      go_enter Tryd.func65, Tryd.ntmps65
      go_wp2_with fail
      refine (isHiddenCount_any _ _).mono ?_; rintro e w5 ⟨rfl, rfl⟩
      rw [H1.out]
      go_wp2_with fail
      go_ret
      exact ⟨ret_bool HV.out.symm, HS0.out.2⟩

theorem reads_one {w : World} {g : Nat} {T : TypeId} {x y z : Int} (h : ObAt w g T #[.int .i64 x, .int .i64 y, .int .i64 z]) : Reads w (some ⟨g, 0, none⟩) (clus [(x, y, z)]) :=
  .inr ⟨g, 0, rfl, h.lt, fun j hj => by
    rw [Nat.zero_add, h.cell j]
    simp [clus, flatC, ints] at hj ⊢⟩
theorem goodP_one {p : Int} {c : Cl} : goodP p [c] = (inP p 1 8 && goodC p c) := by simp [goodP, goodCs]

end Go.Proofs.YtbgdngfjeikheaaDoor
