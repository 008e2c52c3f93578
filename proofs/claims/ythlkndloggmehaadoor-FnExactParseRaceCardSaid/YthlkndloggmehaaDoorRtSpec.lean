/-
  Races beside odds: what makes a race: the model and the program.
-/
import Derived.Test.YthlkndloggmehaaDoorChSpec
namespace Go.Proofs.YthlkndloggmehaaDoor
open Go.RowKit
set_option linter.unusedVariables false
set_option linter.unusedSimpArgs false

def goodR (to ld : Int) : Bool := inR to 1 30 && inR ld 1 5
theorem goodR_bd {to ld : Int} : goodR to ld = true ↔ (1 ≤ to ∧ to ≤ 30) ∧ (1 ≤ ld ∧ ld ≤ 5) := by simp [goodR, inR]

set_option maxHeartbeats 400000 in
theorem toRace_any (n t : Int) (w : World) :
    Calls Tryd.prog 17 #[.agg #[.int .i64 n, .int .i64 t]] w fun e w' => e = .returned (.agg #[.int .i64 n, .int .i64 t]) ∧ Below w.heap.size w w' := by
  go_enter Tryd.func17, Tryd.ntmps17
  go_wp2
  refine bodyPost_ret (v := .agg #[.int .i64 n, .int .i64 t]) (by simp [results, Tryd.results17, go_sem]) rfl ⟨rfl, ?_⟩
  (repeat (first | exact Below.refl _ _ | exact ‹Below _ _ _› | refine Below.drew ?_ | refine Below.alloc ?_ (by first | omega | (simp; done) | (simp; omega)) _ | refine Below.setCell ?_ (by first | omega | (simp; done) | (simp; omega)) _ | refine Below.trans ?_ (Below.mono ‹Below _ _ _› (by first | omega | (simp; done) | (simp; omega)))))

set_option maxHeartbeats 800000 in
theorem raGood_any (to ld : Int) (w : World) :
    Calls Tryd.prog 45 #[.agg #[.int .i64 to, .int .i64 ld]] w fun e w' => e = .returned (.bool (goodR to ld)) ∧ Below w.heap.size w w' := by
  have hg : goodR to ld = (inR to 1 30 && inR ld 1 5) := rfl
  cases hr : inR to 1 30
  all_goals
    have HR := Lib.hid (And.intro hr hg); clear hr hg
    go_enter Tryd.func45, Tryd.ntmps45
    go_wp2_with fail
    refine (l1In_any _ _ _ _).mono ?_; rintro e w' ⟨rfl, rfl⟩
    rw [HR.out.1]
    go_wp2_with (go_at_call 46; refine (l1In_any _ _ _ _).mono ?_; rintro e w' ⟨rfl, rfl⟩)
    go_ret
    exact ⟨ret_bool (by rw [HR.out.2, HR.out.1]; try simp), (Below.refl _ _).alloc (Nat.le_refl _) _⟩

set_option maxHeartbeats 800000 in
theorem implIsRace_any (to ld : Int) (w : World) :
    Calls Tryd.prog 48 #[.agg #[.int .i64 to, .int .i64 ld]] w fun e w' => e = .returned (.bool (goodR to ld)) ∧ Below w.heap.size w w' := by
  have hg : goodR to ld = (decide (1 ≤ to) && (decide (to ≤ 30) && (decide (1 ≤ ld) && decide (ld ≤ 5)))) := by
    simp [goodR, inR, Bool.and_assoc]
  have HG := Lib.hid hg; clear hg
  by_cases h1 : 1 ≤ to
  · by_cases h2 : to ≤ 30
    · by_cases h3 : 1 ≤ ld
      · by_cases h4 : ld ≤ 5
        · go_enter Tryd.func48, Tryd.ntmps48
          go_wp2
          go_ret
          exact ⟨ret_bool (by rw [HG.out]; simp [*]; try omega), (Below.refl _ _).alloc (Nat.le_refl _) _⟩
        · go_enter Tryd.func48, Tryd.ntmps48
          go_wp2
          go_ret
          exact ⟨ret_bool (by rw [HG.out]; simp [*]; try omega), (Below.refl _ _).alloc (Nat.le_refl _) _⟩
      · go_enter Tryd.func48, Tryd.ntmps48
        go_wp2
        go_ret
        exact ⟨ret_bool (by rw [HG.out]; simp [*]; try omega), (Below.refl _ _).alloc (Nat.le_refl _) _⟩
    · go_enter Tryd.func48, Tryd.ntmps48
      go_wp2
      go_ret
      exact ⟨ret_bool (by rw [HG.out]; simp [*]; try omega), (Below.refl _ _).alloc (Nat.le_refl _) _⟩
  · go_enter Tryd.func48, Tryd.ntmps48
    go_wp2
    go_ret
    exact ⟨ret_bool (by rw [HG.out]; simp [*]; try omega), (Below.refl _ _).alloc (Nat.le_refl _) _⟩

end Go.Proofs.YthlkndloggmehaaDoor
