/-
  Puzzles: whether points fit a clue: the model.
-/
import Derived.Test.YtbgdngfjeikheaaDoorPzVal2
import Derived.Deep.RegionHeld3
namespace Go.Proofs.YtbgdngfjeikheaaDoor
open Go.RowKit
set_option linter.unusedVariables false
set_option linter.unusedSimpArgs false

/-- A clue in its block. -/
def ClB (w : World) (x y z : Int) (wi : World) : Prop := ObAt wi w.heap.size 75 #[.int .i64 x, .int .i64 y, .int .i64 z] ∧ Below w.heap.size w wi
theorem ClB.new (w : World) (x y z : Int) : ClB w x y z (w.alloc (.cells #[.int .i64 x, .int .i64 y, .int .i64 z] 75)) := ⟨ObAt.new _ _ _, Below.ofNew _⟩
theorem ClB.keep {w : World} {x y z : Int} {wi wj : World} (h : ClB w x y z wi) (hb : Below wi.heap.size wi wj) : ClB w x y z wj := ⟨h.1.keep hb, h.2.trans (hb.mono h.2.size)⟩
theorem ClB.cells {w : World} {x y z : Int} {wi : World} (h : ClB w x y z wi) : wi.cell? ⟨w.heap.size, 0, none⟩ = some (.int .i64 x) ∧ wi.cell? ⟨w.heap.size, 1, none⟩ = some (.int .i64 y) ∧ wi.cell? ⟨w.heap.size, 2, none⟩ = some (.int .i64 z) := ⟨h.1.cell 0, h.1.cell 1, h.1.cell 2⟩
theorem fit_beq (x y z : Int) (s : ByteArray) : (tellK x y s == z) = fitC (x, y, z) s := by unfold fitC; rw [Bool.eq_iff_iff]; simp

set_option maxHeartbeats 800000 in
theorem pzHidden_any (s : ByteArray) (w : World) (hs : (s.size : Int) ≤ 1000000000000) :
    Calls Tryd.prog 50 #[.string s] w fun e w' => e = .returned (.bool (hidB s)) ∧ Below w.heap.size w w' := by
  have HP := Lib.hid (fun W => raPoints_any s W hs)
  have hv : hidB s = (ptsB s && inP s.size 1 8) := by
    have hb : inP s.size 1 8 = true → decide (s.data.toList.length ≤ 100) = true := fun h => by
      have := inP_iff.1 h; rw [len_list]; simp; omega
    unfold hidB ptsB
    cases h1 : inP s.size 1 8
    · simp
    · rw [hb h1]; simp
  rw [hv]; clear hv
  cases h1 : ptsB s
  · rw [h1] at HP; clear h1
    go_enter Tryd.func50, Tryd.ntmps50
    go_wp2_with fail
    refine (HP.out _).mono ?_; rintro e w1 ⟨rfl, rfl⟩
    go_wp2_with fail
    go_ret
    exact ⟨ret_bool (by simp), Below.refl _ _⟩
  · rw [h1] at HP; clear h1
    go_enter Tryd.func50, Tryd.ntmps50
    go_wp2_with fail
    refine (HP.out _).mono ?_; rintro e w1 ⟨rfl, rfl⟩
    go_wp2_with fail
    refine (pzPoints_any _ _).mono ?_; rintro e w2 ⟨rfl, rfl⟩
    go_wp2_with fail
    go_ret
    exact ⟨ret_bool (by simp), Below.refl _ _⟩

/-- What DoesFit hands back. -/
def doesOk (c : Cl) (s : ByteArray) : Bool := hidB s && goodC s.size c
def doesV (c : Cl) (s : ByteArray) : Bool := doesOk c s && fitC c s
theorem does_bad {c : Cl} {s : ByteArray} (h : doesOk c s = false) : doesV c s = false := by unfold doesV; rw [h]; rfl

end Go.Proofs.YtbgdngfjeikheaaDoor
