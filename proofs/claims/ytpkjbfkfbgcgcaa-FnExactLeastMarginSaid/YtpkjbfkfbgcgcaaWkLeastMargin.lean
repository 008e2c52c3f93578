/- What the exact law of LeastMargin does, step by step. -/
import Derived.Test.YtpkjbfkfbgcgcaaTnScore
namespace Go.Proofs.Ytpkjbfkfbgcgcaa.ExLeastMargin
open Go.RowKit

def marg (a b : Int) : Value := if setScoreB a b then .tuple #[.int .i64 (2 * a - 4 * b), .bool true] else .tuple #[.int .i64 0, .bool false]
theorem score_bd {a b : Int} (h : setScoreB a b = true) : 6 ≤ a ∧ a ≤ 7 ∧ 0 ≤ b ∧ b ≤ 6 := by
  simp [setScoreB, inR] at h; omega

set_option maxHeartbeats 400000 in
theorem spec_any (a b : Int) (w : World) : Calls Try.prog 26 #[.int .i64 a, .int .i64 b] w fun e w' => e = .returned (marg a b) ∧ w = w' := by
  cases hs : setScoreB a b
  · rw [show marg a b = .tuple #[.int .i64 0, .bool false] from by simp [marg, hs]]
    have HS := Lib.hid hs; clear hs
    go_enter Try.func26, Try.ntmps26
    go_wp2_with fail
    refine (specIsSetScore_any a b _).mono ?_; rintro e w1 ⟨rfl, rfl⟩
    rw [HS.out]
    go_wp2_with fail
    go_ret2
    exact ⟨rfl, rfl⟩
  · rw [show marg a b = .tuple #[.int .i64 (2 * a - 4 * b), .bool true] from by simp [marg, hs]]
    obtain ⟨h1, h2, h3, h4⟩ := score_bd hs
    have HS := Lib.hid hs; clear hs
    go_enter Try.func26, Try.ntmps26
    go_wp2_with fail
    refine (specIsSetScore_any a b _).mono ?_; rintro e w1 ⟨rfl, rfl⟩
    rw [HS.out]
    go_wp2_with fail
    go_ret2
    exact ⟨rfl, rfl⟩

set_option maxHeartbeats 400000 in
theorem impl_any (a b : Int) (w : World) : Calls Try.prog 27 #[.int .i64 a, .int .i64 b] w fun e w' => e = .returned (marg a b) ∧ w = w' := by
  cases hs : setScoreB a b
  · rw [show marg a b = .tuple #[.int .i64 0, .bool false] from by simp [marg, hs]]
    have HS := Lib.hid hs; clear hs
    go_enter Try.func27, Try.ntmps27
    go_wp2_with fail
    refine (implIsSetScore_any a b _).mono ?_; rintro e w1 ⟨rfl, rfl⟩
    rw [HS.out]
    go_wp2_with fail
    go_ret2
    exact ⟨rfl, rfl⟩
  · rw [show marg a b = .tuple #[.int .i64 (a * 2 - b * 4), .bool true] from by simp [marg, hs]; omega]
    obtain ⟨h1, h2, h3, h4⟩ := score_bd hs
    have HS := Lib.hid hs; clear hs
    go_enter Try.func27, Try.ntmps27
    go_wp2_with fail
    refine (implIsSetScore_any a b _).mono ?_; rintro e w1 ⟨rfl, rfl⟩
    rw [HS.out]
    go_wp2_with fail
    go_ret2
    exact ⟨rfl, rfl⟩

def n1 (a b : Int) : Int := if setScoreB a b then 2 * a - 4 * b else 0
theorem marg_eq (a b : Int) : marg a b = .tuple #[.int .i64 (n1 a b), .bool (setScoreB a b)] := by
  unfold marg n1; cases setScoreB a b <;> rfl

set_option maxHeartbeats 400000 in
theorem walk (a b : Int) (w : World) :
    Calls Try.prog 9 #[.int .i64 a, .int .i64 b] w fun e w' => e = .returned (.bool true) ∧ Below w.heap.size w w' := by
  go_enter Try.func9, Try.ntmps9
  go_wp2_with fail
  refine (spec_any a b _).mono ?_; rintro e w1 ⟨rfl, rfl⟩
  rw [marg_eq]
  go_wp2_with fail
  refine (impl_any a b _).mono ?_; rintro e w1 ⟨rfl, rfl⟩
  rw [marg_eq]
  have q1 : (n1 a b != n1 a b) = false := by simp
  have q2 : (setScoreB a b != setScoreB a b) = false := by simp
  go_wp2_with fail
  go_ret
  exact ⟨rfl, Below.refl _ _⟩
end Go.Proofs.Ytpkjbfkfbgcgcaa.ExLeastMargin
