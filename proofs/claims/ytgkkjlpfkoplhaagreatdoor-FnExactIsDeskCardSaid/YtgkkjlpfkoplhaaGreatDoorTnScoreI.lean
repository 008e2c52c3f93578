/-
  Tennis: scores of sets: the program's test.
-/
import Derived.Test.YtgkkjlpfkoplhaaGreatDoorTnMath
namespace Go.Proofs.YtgkkjlpfkoplhaaGreatDoor
open Go.RowKit

set_option maxHeartbeats 800000 in
theorem implIsSetScore_any (a b : Int) (w : World) :
    Calls Tryz.prog 61 #[.int .i64 a, .int .i64 b] w fun e w' => e = .returned (.bool (setScoreB a b)) ∧ w = w' := by
  by_cases h6 : a = 6
  · subst h6
    rw [show setScoreB 6 b = inR b 0 4 from by simp [setScoreB]]
    by_cases h1 : 0 ≤ b <;> by_cases h2 : b ≤ 4
    all_goals
      go_enter Tryz.func61, Tryz.ntmps61
      go_wp2
      go_ret
      exact ⟨ret_bool (by simp [inR, *]), rfl⟩
  · have b6 : ((a : Int) == 6) = false := by simp [h6]
    by_cases h7 : a = 7
    · subst h7
      rw [show setScoreB 7 b = inR b 5 6 from by simp [setScoreB]]
      by_cases h1 : b = 5
      · subst h1
        go_enter Tryz.func61, Tryz.ntmps61
        go_wp2
        go_ret
        exact ⟨ret_bool (by decide), rfl⟩
      · have b1 : ((b : Int) == 5) = false := by simp [h1]
        have hd : inR b 5 6 = ((b : Int) == 6) := by rw [Bool.eq_iff_iff]; simp [inR]; omega
        rw [hd]; clear hd h1
        go_enter Tryz.func61, Tryz.ntmps61
        go_wp2
        go_ret
        exact ⟨rfl, rfl⟩
    · have b7 : ((a : Int) == 7) = false := by simp [h7]
      rw [show setScoreB a b = false from by simp [setScoreB, h6, h7]]
      clear h6 h7
      go_enter Tryz.func61, Tryz.ntmps61
      go_wp2
      go_ret
      exact ⟨rfl, rfl⟩

end Go.Proofs.YtgkkjlpfkoplhaaGreatDoor
