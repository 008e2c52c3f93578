/- What the exact law of IsSetScore does, step by step. -/
import Derived.Test.YtpkjbfkfbgcgcaaTnScore
namespace Go.Proofs.Ytpkjbfkfbgcgcaa.ExIsSetScore
open Go.RowKit

set_option maxHeartbeats 400000 in
theorem walk (a b : Int) (w : World) :
    Calls Try.prog 4 #[.int .i64 a, .int .i64 b] w fun e w' => e = .returned (.bool true) ∧ Below w.heap.size w w' := by
  go_enter Try.func4, Try.ntmps4
  go_wp2_with fail
  refine (specIsSetScore_any a b _).mono ?_; rintro e w1 ⟨rfl, rfl⟩
  go_wp2_with fail
  refine (implIsSetScore_any a b _).mono ?_; rintro e w1 ⟨rfl, rfl⟩
  have he : (setScoreB a b != setScoreB a b) = false := by simp
  go_wp2_with fail
  go_ret
  exact ⟨rfl, Below.refl _ _⟩
end Go.Proofs.Ytpkjbfkfbgcgcaa.ExIsSetScore
