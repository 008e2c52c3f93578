/-
  Pins: the sheet of rolls.
-/
import Derived.Test.YthbkclgdoopbpaaPnNext
namespace Go.Proofs.Ythbkclgdoopbpaa
open Go.RowKit
set_option linter.unusedVariables false
set_option linter.unusedSimpArgs false

theorem sheetC_set : ∀ (S : List (List Int)) (P : Nat) (bs : List Int), P < S.length →
    sheetC (S.set P bs) = (((sheetC S).set (P * 3) (.int .i64 (bs.getD 0 (-1)))).set (P * 3 + 1) (.int .i64 (bs.getD 1 (-1)))).set (P * 3 + 2) (.int .i64 (bs.getD 2 (-1)))
  | d :: S, 0, bs, _ => by simp [sheetC]
  | d :: S, P + 1, bs, h => by
    have := sheetC_set S P bs (by simpa using h)
    simp only [List.set_cons_succ]
    rw [show (P + 1) * 3 = P * 3 + 1 + 1 + 1 from by omega]
    simp only [sheetC, List.flatMap_cons, List.cons_append, List.nil_append, List.set_cons_succ] at *
    rw [this]
theorem ShAt.put {w : World} {g : Nat} {S : List (List Int)} (h : ShAt w g S) {P : Nat} (hP : P < S.length) (bs : List Int) :
    ShAt (((w.setCell ⟨g, P * 3, none⟩ (.int .i64 (bs.getD 0 (-1)))).setCell ⟨g, P * 3 + 1, none⟩ (.int .i64 (bs.getD 1 (-1)))).setCell ⟨g, P * 3 + 2, none⟩ (.int .i64 (bs.getD 2 (-1)))) g (S.set P bs) := by
  unfold ShAt at *
  have h0 := setRow_heap w g _ ((sheetC S).toArray.setIfInBounds (P * 3) (.int .i64 (bs.getD 0 (-1)))) _ _ h
  rw [← setCell_eq_setRow w g (P * 3) _ _ _ _ h] at h0
  have h1 := setRow_heap _ g _ (((sheetC S).toArray.setIfInBounds (P * 3) (.int .i64 (bs.getD 0 (-1)))).setIfInBounds (P * 3 + 1) (.int .i64 (bs.getD 1 (-1)))) _ _ h0
  rw [← setCell_eq_setRow _ g (P * 3 + 1) _ _ _ _ h0] at h1
  have h2 := setRow_heap _ g _ ((((sheetC S).toArray.setIfInBounds (P * 3) (.int .i64 (bs.getD 0 (-1)))).setIfInBounds (P * 3 + 1) (.int .i64 (bs.getD 1 (-1)))).setIfInBounds (P * 3 + 2) (.int .i64 (bs.getD 2 (-1)))) _ _ h1
  rw [← setCell_eq_setRow _ g (P * 3 + 2) _ _ _ _ h1] at h2
  rw [h2]
  simp [sheetC_set S P bs hP]
theorem ShAt.free {w : World} {g : Nat} {S : List (List Int)} (h : ShAt w g S) (k : Nat) : w.frozen? ⟨g, k, none⟩ = false := frozen_of_row w g k _ _ h

/-- What rolls lead to: none if they are no rolls. -/
def goodR (f : Int) (rolls : List Int) : Option St := if 1 ≤ f ∧ f ≤ 10 then gameG f.toNat ([], []) rolls else none
theorem goodR_nat {F : Nat} (h1 : 1 ≤ F) (h2 : F ≤ 10) (rolls : List Int) : goodR (F : Int) rolls = gameG F ([], []) rolls := by
  unfold goodR; rw [if_pos (by omega)]; simp
theorem goodR_some {f : Int} {rolls : List Int} {s : St} (h : goodR f rolls = some s) : ∃ F : Nat, f = (F : Int) ∧ 1 ≤ F ∧ F ≤ 10 ∧ gameG F ([], []) rolls = some s ∧ InvG F s ∧ rollsG s = rolls := by
  unfold goodR at h
  split at h
  · rename_i hh
    refine ⟨f.toNat, by omega, by omega, by omega, h, game_inv _ _ _ (inv_start (by omega)) h, ?_⟩
    have := game_rolls _ _ _ h
    simpa [rollsG] using this
  · cases h

theorem fits_lo {F : Nat} {s : St} {p : Int} (h : p < 0) : fitsG F s p = false := by
  have : ¬ 0 ≤ p := by omega
  simp [fitsG, this]
theorem fits_hi {F : Nat} {s : St} {p : Int} (h : leftP s.2 < p) : fitsG F s p = false := by
  have : ¬ p ≤ leftP s.2 := by omega
  simp [fitsG, this]
theorem fits_over {F : Nat} {s : St} {p : Int} (h : overG F s = true) : fitsG F s p = false := by simp [fitsG, h]
theorem fits_ok {F : Nat} {s : St} {p : Int} (h : overG F s = false) (h0 : ¬ p < 0) (h1 : ¬ leftP s.2 < p) : fitsG F s p = true := by
  have : 0 ≤ p := by omega
  have : p ≤ leftP s.2 := by omega
  simp [fitsG, h, *]

def SheetR (f : Int) (o : Option St) (w : World) (e : Ending) (w' : World) : Prop :=
  (∀ s, o = some s → ∃ g, e = .returned (.tuple #[.slice (some ⟨g, 0, none⟩) f.toNat f.toNat, .bool true]) ∧ ShAt w' g (sheetG f.toNat s) ∧ w.heap.size ≤ g) ∧
  (o = none → e = .returned (.tuple #[.slice none 0 0, .bool false])) ∧ Below w.heap.size w w'

set_option maxHeartbeats 400000 in
theorem isFrameCount_yes (F : Nat) (h1 : 1 ≤ F) (h2 : F ≤ 10) (w : World) :
    Calls Try.prog 34 #[.int .i64 F] w fun e w' => e = .returned (.bool true) ∧ w = w' := by
  have q1 : (1 : Int) ≤ (F : Int) := by omega
  have q2 : (F : Int) ≤ 10 := by omega
  go_enter Try.func34, Try.ntmps34
  go_wp2
  go_ret
  exact ⟨rfl, rfl⟩
set_option maxHeartbeats 400000 in
theorem isFrameCount_no (f : Int) (h : ¬ (1 ≤ f ∧ f ≤ 10)) (w : World) :
    Calls Try.prog 34 #[.int .i64 f] w fun e w' => e = .returned (.bool false) ∧ w = w' := by
  by_cases q1 : 1 ≤ f <;> by_cases q2 : f ≤ 10
  all_goals try (exfalso; omega)
  all_goals
    clear h
    go_enter Try.func34, Try.ntmps34
    go_wp2
    go_ret
    exact ⟨rfl, rfl⟩

theorem ints_cell {w : World} {a : Option Addr} {l : List Int} (h : Reads w a (ints l)) {k : Nat} (hk : k < l.length) :
    ∃ b off, a = some ⟨b, off, none⟩ ∧ w.cell? ⟨b, off + k, none⟩ = some (.int .i64 (l.getD k 0)) := by
  obtain ⟨b, off, h1, _, h3⟩ := cells_of_reads h (by omega)
  exact ⟨b, off, h1, h3 k hk⟩

def AtRoll (F g : Nat) (rolls : List Int) (w : World) (k : Nat) (wr : World) : Prop :=
  ∃ s, InvG F s ∧ gameG F s (rolls.drop k) = gameG F ([], []) rolls ∧ ShAt wr g (sheetG F s) ∧ Below w.heap.size w wr

end Go.Proofs.Ythbkclgdoopbpaa
