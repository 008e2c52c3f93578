/-
  Races: whether a race may end at points, and how many plays lead there: the model.
-/
import Derived.Test.YtooaeafnneikkaaRaBoth
namespace Go.Proofs.Ytooaeafnneikkaa
open Go.RowKit
set_option linter.unusedVariables false
set_option linter.unusedSimpArgs false

set_option maxHeartbeats 3200000 in
theorem specEndsAt_any (rt rl a b : Int) (w : World) :
    Calls Try.prog 16 #[.agg #[.int .i64 rt, .int .i64 rl], .int .i64 a, .int .i64 b] w fun e w' => e = .returned (.tuple #[.bool (endsV rt rl a b), .bool (bothR rt rl a b)]) ∧ Below w.heap.size w w' := by
  have hv : endsV rt rl a b = (bothR rt rl a b && (decide (0 < upR rt rl a b) && decide (wonN rt rl a b ≠ 0))) := rfl
  have hp0 := Pair.new w rt rl 25
  have hb0 := below_new w (.cells #[.int .i64 rt, .int .i64 rl] 25)
  have H0 := Lib.hid (And.intro hp0 hb0); clear hp0 hb0
  cases h : bothR rt rl a b
  · rw [hv, h]
    have hb := fun w => raBoth_any rt rl a b w
    rw [h] at hb
    have HB := Lib.hid hb; clear hb h hv
    go_enter Try.func16, Try.ntmps16
    go_wp2_with fail
    refine (HB.out _).mono ?_; rintro e w1 ⟨rfl, b1⟩
    go_wp2_with fail
    refine bodyPost_ret (v := .tuple #[.bool false, .bool false]) (by simp [results, Try.results16, go_sem]) rfl ⟨rfl, ?_⟩
    exact H0.out.2.trans (b1.mono H0.out.2.size)
  obtain ⟨A, B, rfl, rfl, hAB⟩ := both_nat h
  rw [hv, h]
  have hb := fun w => raBoth_any rt rl A B w
  rw [h] at hb
  have ht := fun w => raTo_any rt rl A B hAB w
  have hw := fun w => raWon_any rt rl A B w (by omega) (by omega) (by omega) (by omega)
  generalize upR rt rl A B = u at *
  clear hv h hAB
  rcases wonI_eq rt rl A B with ⟨h, h2⟩ | ⟨h, h2⟩ | ⟨h, h2⟩
  all_goals
    rw [h2] at hw
    rw [h]
    clear h h2
    have HP := Lib.hid (And.intro hb (And.intro ht hw))
    clear hb ht hw
    cases qd : decide (0 < u)
    all_goals
      go_enter Try.func16, Try.ntmps16
      go_wp2_with fail
      refine (HP.out.1 _).mono ?_; rintro e w1 ⟨rfl, b1⟩
      obtain ⟨r0, r1⟩ := race_kept H0.out.1 b1
      have B1 := Lib.hid b1
      clear b1
      go_wp2_with fail
      refine (HP.out.2.2 _).mono ?_; rintro e w2 ⟨rfl, b2⟩
      have B2 := Lib.hid (B1.out.trans (b2.mono B1.out.size))
      clear b2 B1 r0 r1
      obtain ⟨r0, r1⟩ := race_kept H0.out.1 B2.out
      go_wp2_with fail
      first
      | (first
         | (refine bodyPost_ret (v := .tuple #[.bool false, .bool true]) ?_ rfl ⟨?_, H0.out.2.trans (B2.out.mono H0.out.2.size)⟩ <;> first | (simp [results, Try.results16, go_sem]; done) | (simp at qd; simp [results, Try.results16, go_sem]; first | done | omega) | rfl)
         | (refine bodyPost_ret (v := .tuple #[.bool true, .bool true]) ?_ rfl ⟨?_, H0.out.2.trans (B2.out.mono H0.out.2.size)⟩ <;> first | (simp [results, Try.results16, go_sem]; done) | (simp at qd; simp [results, Try.results16, go_sem]; first | done | omega) | rfl))
      | (refine (HP.out.2.1 _).mono ?_; rintro e w3 ⟨rfl, b3⟩
         have B3 := Lib.hid (B2.out.trans (b3.mono B2.out.size))
         clear b3
         go_wp2_with fail
         (first
         | (refine bodyPost_ret (v := .tuple #[.bool false, .bool true]) ?_ rfl ⟨?_, H0.out.2.trans (B3.out.mono H0.out.2.size)⟩ <;> first | (simp [results, Try.results16, go_sem]; done) | (simp at qd; simp [results, Try.results16, go_sem]; first | done | omega) | rfl)
         | (refine bodyPost_ret (v := .tuple #[.bool true, .bool true]) ?_ rfl ⟨?_, H0.out.2.trans (B3.out.mono H0.out.2.size)⟩ <;> first | (simp [results, Try.results16, go_sem]; done) | (simp at qd; simp [results, Try.results16, go_sem]; first | done | omega) | rfl)))

set_option maxHeartbeats 3200000 in
theorem specCountPlaysTo_any (rt rl a b : Int) (w : World) :
    Calls Try.prog 18 #[.agg #[.int .i64 rt, .int .i64 rl], .int .i64 a, .int .i64 b] w fun e w' => e = .returned (.tuple #[.int .i64 (manyV rt rl a b), .bool (manyOk rt rl a b)]) ∧ Below w.heap.size w w' := by
  have hv : manyOk rt rl a b = (bothR rt rl a b && !decide (1000000000000000 < upR rt rl a b)) := rfl
  have hv2 : manyV rt rl a b = if manyOk rt rl a b then upR rt rl a b else 0 := rfl
  have hp0 := Pair.new w rt rl 25
  have hb0 := below_new w (.cells #[.int .i64 rt, .int .i64 rl] 25)
  have H0 := Lib.hid (And.intro hp0 hb0); clear hp0 hb0
  cases h : bothR rt rl a b
  · rw [hv2, hv, h]
    have hb := fun w => raBoth_any rt rl a b w
    rw [h] at hb
    have HB := Lib.hid hb; clear hb h hv hv2
    go_enter Try.func18, Try.ntmps18
    go_wp2_with fail
    refine (HB.out _).mono ?_; rintro e w1 ⟨rfl, b1⟩
    go_wp2_with fail
    refine bodyPost_ret (v := .tuple #[.int .i64 0, .bool false]) (by simp [results, Try.results18, go_sem]) rfl ⟨rfl, ?_⟩
    exact H0.out.2.trans (b1.mono H0.out.2.size)
  obtain ⟨A, B, rfl, rfl, hAB⟩ := both_nat h
  rw [hv2, hv, h]
  have hb := fun w => raBoth_any rt rl A B w
  rw [h] at hb
  have ht := fun w => raTo_any rt rl A B hAB w
  generalize upR rt rl A B = u at *
  clear hv hv2 h hAB
  have HP := Lib.hid (And.intro hb ht)
  clear hb ht
  cases qd : decide (1000000000000000 < u)
  all_goals
    go_enter Try.func18, Try.ntmps18
    go_wp2_with fail
    refine (HP.out.1 _).mono ?_; rintro e w1 ⟨rfl, b1⟩
    obtain ⟨r0, r1⟩ := race_kept H0.out.1 b1
    have B1 := Lib.hid b1
    clear b1
    go_wp2_with fail
    refine (HP.out.2 _).mono ?_; rintro e w2 ⟨rfl, b2⟩
    have B2 := Lib.hid (B1.out.trans (b2.mono B1.out.size))
    clear b2 B1 r0 r1
    go_wp2_with fail
    first
    | (refine bodyPost_ret (v := .tuple #[.int .i64 0, .bool false]) ?_ rfl ⟨?_, H0.out.2.trans (B2.out.mono H0.out.2.size)⟩ <;> first | (simp [results, Try.results18, go_sem]; done) | (simp at qd; simp [results, Try.results18, go_sem]; first | done | omega) | rfl)
    | (refine bodyPost_ret (v := .tuple #[.int .i64 u, .bool true]) ?_ rfl ⟨?_, H0.out.2.trans (B2.out.mono H0.out.2.size)⟩ <;> first | (simp [results, Try.results18, go_sem]; done) | (simp at qd; simp [results, Try.results18, go_sem]; first | done | omega) | rfl)

end Go.Proofs.Ytooaeafnneikkaa
