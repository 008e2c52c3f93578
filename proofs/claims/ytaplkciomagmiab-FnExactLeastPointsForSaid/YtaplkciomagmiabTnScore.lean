/-
  Tennis: scores of sets: the model's test.
-/
import Derived.Test.YtaplkciomagmiabTnScoreI
namespace Go.Proofs.Ytaplkciomagmiab
open Go.RowKit

set_option maxHeartbeats 400000 in
theorem l1In_any (n a b : Int) (w : World) :
    Calls Try.prog 27 #[.int .i64 n, .int .i64 a, .int .i64 b] w fun e w' => e = .returned (.bool (inR n a b)) ∧ w = w' := by
  by_cases h1 : a ≤ n <;> by_cases h2 : n ≤ b
  all_goals
    go_enter Try.func27, Try.ntmps27
    go_wp2
    go_ret
    exact ⟨ret_bool (by simp [inR, *]), rfl⟩

set_option maxHeartbeats 800000 in
theorem specIsSetScore_any (a b : Int) (w : World) :
    Calls Try.prog 18 #[.int .i64 a, .int .i64 b] w fun e w' => e = .returned (.bool (setScoreB a b)) ∧ w = w' := by
  by_cases h6 : a = 6
  · subst h6
    rw [show setScoreB 6 b = inR b 0 4 from by simp [setScoreB]]
    cases hr : inR b 0 4
    all_goals
      have HR := Lib.hid hr; clear hr
      go_enter Try.func18, Try.ntmps18
      go_wp2_with fail
      refine (l1In_any _ _ _ _).mono ?_; rintro e w' ⟨rfl, rfl⟩
      rw [HR.out]
      go_wp2_with fail
      go_ret
      exact ⟨rfl, rfl⟩
  · have b6 : ((a : Int) == 6) = false := by simp [h6]
    by_cases h7 : a = 7
    · subst h7
      rw [show setScoreB 7 b = inR b 5 6 from by simp [setScoreB]]
      cases hr : inR b 5 6
      all_goals
        have HR := Lib.hid hr; clear hr
        go_enter Try.func18, Try.ntmps18
        go_wp2_with fail
        refine (l1In_any _ _ _ _).mono ?_; rintro e w' ⟨rfl, rfl⟩
        rw [HR.out]
        go_wp2_with fail
        go_ret
        exact ⟨rfl, rfl⟩
    · have b7 : ((a : Int) == 7) = false := by simp [h7]
      rw [show setScoreB a b = false from by simp [setScoreB, h6, h7]]
      clear h6 h7
      go_enter Try.func18, Try.ntmps18
      go_wp2_with fail
      go_ret
      exact ⟨rfl, rfl⟩

end Go.Proofs.Ytaplkciomagmiab
