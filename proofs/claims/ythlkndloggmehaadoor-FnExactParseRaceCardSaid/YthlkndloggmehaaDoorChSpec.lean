/-
  Chances: odds and lowest terms: the model and the program.
-/
import Derived.Test.YthlkndloggmehaaDoorChMath
import Derived.IntWalk
import Derived.WalkSmall
import Derived.Deep.WholeRow
namespace Go.Proofs.YthlkndloggmehaaDoor
open Go.RowKit
set_option linter.unusedVariables false
set_option linter.unusedSimpArgs false

/-- A block of the call's own that holds two numbers. -/
def Pair (w : World) (g : Nat) (a b : Int) : Prop :=
  g < w.heap.size ∧ w.cell? ⟨g, 0, none⟩ = some (.int .i64 a) ∧ w.cell? ⟨g, 1, none⟩ = some (.int .i64 b) ∧ w.frozen? ⟨g, 0, none⟩ = false ∧ w.frozen? ⟨g, 1, none⟩ = false
theorem Pair.keep {w w' : World} {g : Nat} {a b : Int} (h : Pair w g a b) (hb : Below w.heap.size w w') : Pair w' g a b := by
  obtain ⟨h1, h2, h3, h4, h5⟩ := h
  exact ⟨Nat.lt_of_lt_of_le h1 hb.size, by rw [hb.cell (p := ⟨g, 0, none⟩) h1]; exact h2, by rw [hb.cell (p := ⟨g, 1, none⟩) h1]; exact h3, by rw [hb.frozen (p := ⟨g, 0, none⟩) h1]; exact h4, by rw [hb.frozen (p := ⟨g, 1, none⟩) h1]; exact h5⟩
theorem Pair.new (w : World) (a b : Int) (T : TypeId) : Pair (w.alloc (.cells #[.int .i64 a, .int .i64 b] T)) w.heap.size a b :=
  ⟨by simp, cell_of_row _ _ 0 _ _ _ (heap_alloc_last w _), cell_of_row _ _ 1 _ _ _ (heap_alloc_last w _), frozen_of_row _ _ 0 _ _ (heap_alloc_last w _), frozen_of_row _ _ 1 _ _ (heap_alloc_last w _)⟩

set_option maxHeartbeats 400000 in
theorem toOdds_any (n t : Int) (w : World) :
    Calls Tryd.prog 11 #[.agg #[.int .i64 n, .int .i64 t]] w fun e w' => e = .returned (.agg #[.int .i64 n, .int .i64 t]) ∧ Below w.heap.size w w' := by
  go_enter Tryd.func11, Tryd.ntmps11
  go_wp2
  refine bodyPost_ret (v := .agg #[.int .i64 n, .int .i64 t]) (by simp [results, Tryd.results11, go_sem]) rfl ⟨rfl, ?_⟩
  (repeat (first | exact Below.refl _ _ | exact ‹Below _ _ _› | refine Below.drew ?_ | refine Below.alloc ?_ (by first | omega | (simp; done) | (simp; omega)) _ | refine Below.setCell ?_ (by first | omega | (simp; done) | (simp; omega)) _ | refine Below.trans ?_ (Below.mono ‹Below _ _ _› (by first | omega | (simp; done) | (simp; omega)))))

set_option maxHeartbeats 400000 in
theorem l1In_any (n a b : Int) (w : World) :
    Calls Tryd.prog 46 #[.int .i64 n, .int .i64 a, .int .i64 b] w fun e w' => e = .returned (.bool (inR n a b)) ∧ w = w' := by
  by_cases h1 : a ≤ n <;> by_cases h2 : n ≤ b
  all_goals
    go_enter Tryd.func46, Tryd.ntmps46
    go_wp2
    go_ret
    exact ⟨ret_bool (by simp [inR, *]), rfl⟩

set_option maxHeartbeats 800000 in
theorem chGood_any (n d : Int) (w : World) :
    Calls Tryd.prog 31 #[.agg #[.int .i64 n, .int .i64 d]] w fun e w' => e = .returned (.bool (goodO n d)) ∧ Below w.heap.size w w' := by
  have hg : goodO n d = (inR d 1 10 && inR n 0 d) := rfl
  cases hr : inR d 1 10
  all_goals
    have HR := Lib.hid (And.intro hr hg); clear hr hg
    go_enter Tryd.func31, Tryd.ntmps31
    go_wp2_with fail
    refine (l1In_any _ _ _ _).mono ?_; rintro e w' ⟨rfl, rfl⟩
    rw [HR.out.1]
    go_wp2_with (go_at_call 46; refine (l1In_any _ _ _ _).mono ?_; rintro e w' ⟨rfl, rfl⟩)
    go_ret
    exact ⟨ret_bool (by rw [HR.out.2, HR.out.1]; try simp), (Below.refl _ _).alloc (Nat.le_refl _) _⟩

set_option maxHeartbeats 800000 in
theorem implAreOdds_any (n d : Int) (w : World) :
    Calls Tryd.prog 33 #[.agg #[.int .i64 n, .int .i64 d]] w fun e w' => e = .returned (.bool (goodO n d)) ∧ Below w.heap.size w w' := by
  have hg : goodO n d = (decide (1 ≤ d) && (decide (d ≤ 10) && (decide (0 ≤ n) && decide (n ≤ d)))) := by
    simp [goodO, inR, Bool.and_assoc]
  have HG := Lib.hid hg; clear hg
  by_cases h1 : 1 ≤ d
  · by_cases h2 : d ≤ 10
    · by_cases h3 : 0 ≤ n
      · by_cases h4 : n ≤ d
        · go_enter Tryd.func33, Tryd.ntmps33
          go_wp2
          go_ret
          exact ⟨ret_bool (by rw [HG.out]; simp [*]; try omega), (Below.refl _ _).alloc (Nat.le_refl _) _⟩
        · go_enter Tryd.func33, Tryd.ntmps33
          go_wp2
          go_ret
          exact ⟨ret_bool (by rw [HG.out]; simp [*]; try omega), (Below.refl _ _).alloc (Nat.le_refl _) _⟩
      · go_enter Tryd.func33, Tryd.ntmps33
        go_wp2
        go_ret
        exact ⟨ret_bool (by rw [HG.out]; simp [*]; try omega), (Below.refl _ _).alloc (Nat.le_refl _) _⟩
    · go_enter Tryd.func33, Tryd.ntmps33
      go_wp2
      go_ret
      exact ⟨ret_bool (by rw [HG.out]; simp [*]; try omega), (Below.refl _ _).alloc (Nat.le_refl _) _⟩
  · go_enter Tryd.func33, Tryd.ntmps33
    go_wp2
    go_ret
    exact ⟨ret_bool (by rw [HG.out]; simp [*]; try omega), (Below.refl _ _).alloc (Nat.le_refl _) _⟩
end Go.Proofs.YthlkndloggmehaaDoor
