/-
  Races: the first play to points, and the play of a rank: the model.
-/
import Derived.Test.YtooaeafnneikkaaRaEndM
import Derived.Test.YtooaeafnneikkaaRaRankM
namespace Go.Proofs.Ytooaeafnneikkaa
open Go.RowKit
set_option linter.unusedVariables false
set_option linter.unusedSimpArgs false

set_option maxHeartbeats 3200000 in
theorem specFirstPlayTo_any (rt rl a b : Int) (w : World) :
    Calls Try.prog 24 #[.agg #[.int .i64 rt, .int .i64 rl], .int .i64 a, .int .i64 b] w fun e w' => e = .returned (.tuple #[.string (firstT rt rl a b), .bool (firstOk rt rl a b)]) ∧ Below w.heap.size w w' := by
  have hv : firstOk rt rl a b = (bothR rt rl a b && decide (0 < upR rt rl a b)) := rfl
  have hv2 : firstT rt rl a b = if firstOk rt rl a b then ⟨(rankP rt rl a b (a + b).toNat 0 0 0).toArray⟩ else ⟨#[]⟩ := rfl
  have hp0 := Pair.new w rt rl 25
  have hb0 := below_new w (.cells #[.int .i64 rt, .int .i64 rl] 25)
  have H0 := Lib.hid (And.intro hp0 hb0); clear hp0 hb0
  cases h : bothR rt rl a b
  · rw [hv2, hv, h]
    have hb := fun w => raBoth_any rt rl a b w
    rw [h] at hb
    have HB := Lib.hid hb; clear hb h hv hv2
    go_enter Try.func24, Try.ntmps24
    go_wp2_with fail
    refine (HB.out _).mono ?_; rintro e w1 ⟨rfl, b1⟩
    go_wp2_with fail
    refine bodyPost_ret (v := .tuple #[.string ⟨#[]⟩, .bool false]) (by simp [results, Try.results24, go_sem]) rfl ⟨rfl, ?_⟩
    exact H0.out.2.trans (b1.mono H0.out.2.size)
  obtain ⟨A, B, rfl, rfl, hAB⟩ := both_nat h
  rw [hv2, hv, h]
  have hb := fun w => raBoth_any rt rl A B w
  rw [h] at hb
  have ht := fun w => raTo_any rt rl A B hAB w
  have hu := upR_bd rt rl A B
  by_cases q : 0 < upR rt rl A B
  · have hr := fun w => raRank_any rt rl A B hAB 0 (by omega) q w
    rw [decide_eq_true q, show ((A : Int) + (B : Int)).toNat = A + B from by omega]
    have q0 : (upR rt rl A B == 0) = false := by simp; omega
    generalize upR rt rl A B = u at *
    generalize rankP rt rl A B (A + B) 0 0 0 = L at *
    have HP := Lib.hid (And.intro hb (And.intro ht hr)); clear hb ht hr hv hv2 h hu q hAB
    go_enter Try.func24, Try.ntmps24
    go_wp2_with fail
    refine (HP.out.1 _).mono ?_; rintro e w1 ⟨rfl, b1⟩
    obtain ⟨r0, r1⟩ := race_kept H0.out.1 b1
    have B1 := Lib.hid b1
    clear b1
    go_wp2_with fail
    refine (HP.out.2.1 _).mono ?_; rintro e w2 ⟨rfl, b2⟩
    have B2 := Lib.hid (B1.out.trans (b2.mono B1.out.size))
    clear b2 B1 r0 r1
    obtain ⟨r0, r1⟩ := race_kept H0.out.1 B2.out
    go_wp2_with fail
    refine (HP.out.2.2 _).mono ?_; rintro e w3 ⟨rfl, b3⟩
    have B3 := Lib.hid (B2.out.trans (b3.mono B2.out.size))
    clear b3 B2 r0 r1
    go_wp2_with fail
    refine bodyPost_ret (v := .tuple #[.string ⟨L.toArray⟩, .bool true]) (by simp [results, Try.results24, go_sem]) rfl ⟨rfl, H0.out.2.trans (B3.out.mono H0.out.2.size)⟩
  · rw [decide_eq_false q]
    have q0 : upR rt rl A B = 0 := by omega
    rw [q0] at ht
    have HP := Lib.hid (And.intro hb ht); clear hb ht hv hv2 h hu q q0 hAB
    go_enter Try.func24, Try.ntmps24
    go_wp2_with fail
    refine (HP.out.1 _).mono ?_; rintro e w1 ⟨rfl, b1⟩
    obtain ⟨r0, r1⟩ := race_kept H0.out.1 b1
    have B1 := Lib.hid b1
    clear b1
    go_wp2_with fail
    refine (HP.out.2 _).mono ?_; rintro e w2 ⟨rfl, b2⟩
    have B2 := Lib.hid (B1.out.trans (b2.mono B1.out.size))
    clear b2 B1 r0 r1
    go_wp2_with fail
    refine bodyPost_ret (v := .tuple #[.string ⟨#[]⟩, .bool false]) (by simp [results, Try.results24, go_sem]) rfl ⟨rfl, H0.out.2.trans (B2.out.mono H0.out.2.size)⟩

set_option maxHeartbeats 3200000 in
theorem specPlayOfRank_any (rt rl a b r : Int) (w : World) :
    Calls Try.prog 26 #[.agg #[.int .i64 rt, .int .i64 rl], .int .i64 a, .int .i64 b, .int .i64 r] w fun e w' => e = .returned (.tuple #[.string (rankT rt rl a b r), .bool (rankOk rt rl a b r)]) ∧ Below w.heap.size w w' := by
  have hv : rankOk rt rl a b r = (manyOk rt rl a b && (decide (0 ≤ r) && decide (r < upR rt rl a b))) := rfl
  have hv2 : rankT rt rl a b r = if rankOk rt rl a b r then ⟨(rankP rt rl a b (a + b).toNat 0 0 r).toArray⟩ else ⟨#[]⟩ := rfl
  have hv3 : manyOk rt rl a b = (bothR rt rl a b && !decide (1000000000000000 < upR rt rl a b)) := rfl
  have hp0 := Pair.new w rt rl 25
  have hb0 := below_new w (.cells #[.int .i64 rt, .int .i64 rl] 25)
  have H0 := Lib.hid (And.intro hp0 hb0); clear hp0 hb0
  cases h : bothR rt rl a b
  · rw [hv2, hv, hv3, h]
    have hb := fun w => raBoth_any rt rl a b w
    rw [h] at hb
    have HB := Lib.hid hb; clear hb h hv hv2 hv3
    go_enter Try.func26, Try.ntmps26
    go_wp2_with fail
    refine (HB.out _).mono ?_; rintro e w1 ⟨rfl, b1⟩
    go_wp2_with fail
    refine bodyPost_ret (v := .tuple #[.string ⟨#[]⟩, .bool false]) (by simp [results, Try.results26, go_sem]) rfl ⟨rfl, ?_⟩
    exact H0.out.2.trans (b1.mono H0.out.2.size)
  obtain ⟨A, B, rfl, rfl, hAB⟩ := both_nat h
  rw [hv2, hv, hv3, h]
  have hb := fun w => raBoth_any rt rl A B w
  rw [h] at hb
  have ht := fun w => raTo_any rt rl A B hAB w
  have hu := upR_bd rt rl A B
  unfold capR at hu
  by_cases qb : 1000000000000000 < upR rt rl A B
  · rw [decide_eq_true qb]
    have qd : decide (1000000000000000 < upR rt rl A B) = true := decide_eq_true qb
    generalize upR rt rl A B = u at *
    have HP := Lib.hid (And.intro hb ht); clear hb ht hv hv2 hv3 h hu qb hAB
    go_enter Try.func26, Try.ntmps26
    go_wp2_with fail
    refine (HP.out.1 _).mono ?_; rintro e w1 ⟨rfl, b1⟩
    obtain ⟨r0, r1⟩ := race_kept H0.out.1 b1
    have B1 := Lib.hid b1
    clear b1
    go_wp2_with fail
    refine (HP.out.2 _).mono ?_; rintro e w2 ⟨rfl, b2⟩
    have B2 := Lib.hid (B1.out.trans (b2.mono B1.out.size))
    clear b2 B1 r0 r1
    go_wp2_with fail
    refine bodyPost_ret (v := .tuple #[.string ⟨#[]⟩, .bool false]) (by simp [results, Try.results26, go_sem]) rfl ⟨rfl, H0.out.2.trans (B2.out.mono H0.out.2.size)⟩
  rw [decide_eq_false qb]
  have qd : decide (1000000000000000 < upR rt rl A B) = false := decide_eq_false qb
  have wv : IntKind.i64.wrap (upR rt rl A B - 1) = upR rt rl A B - 1 := IntWalk.i64_in _ (by omega)
  have hl := fun w => l1In_any r 0 (upR rt rl A B - 1) w
  by_cases q : 0 ≤ r ∧ r < upR rt rl A B
  · have hr := fun w => raRank_any rt rl A B hAB r q.1 q.2 w
    have hin : inR r 0 (upR rt rl A B - 1) = true := by simp [inR]; omega
    rw [hin] at hl
    rw [decide_eq_true q.1, decide_eq_true q.2, show ((A : Int) + (B : Int)).toNat = A + B from by omega]
    clear hin hv hv2 hv3 h hu q hAB qb
    generalize upR rt rl A B = u at *
    generalize rankP rt rl A B (A + B) 0 0 r = L at *
    have HP := Lib.hid (And.intro hb (And.intro ht (And.intro hl hr))); clear hb ht hr hl
    go_enter Try.func26, Try.ntmps26
    go_wp2_with fail
    refine (HP.out.1 _).mono ?_; rintro e w1 ⟨rfl, b1⟩
    obtain ⟨r0, r1⟩ := race_kept H0.out.1 b1
    have B1 := Lib.hid b1
    clear b1
    go_wp2_with fail
    refine (HP.out.2.1 _).mono ?_; rintro e w2 ⟨rfl, b2⟩
    have B2 := Lib.hid (B1.out.trans (b2.mono B1.out.size))
    clear b2 B1 r0 r1
    obtain ⟨r0, r1⟩ := race_kept H0.out.1 B2.out
    go_wp2_with fail
    refine (HP.out.2.2.1 _).mono ?_; rintro e w4 ⟨rfl, rfl⟩
    go_wp2_with fail
    refine (HP.out.2.2.2 _).mono ?_; rintro e w3 ⟨rfl, b3⟩
    have B3 := Lib.hid (B2.out.trans (b3.mono B2.out.size))
    clear b3 B2 r0 r1
    go_wp2_with fail
    refine bodyPost_ret (v := .tuple #[.string ⟨L.toArray⟩, .bool true]) (by simp [results, Try.results26, go_sem]) rfl ⟨rfl, H0.out.2.trans (B3.out.mono H0.out.2.size)⟩
  · have hin : inR r 0 (upR rt rl A B - 1) = false := by
      cases e : inR r 0 (upR rt rl A B - 1)
      · rfl
      · simp [inR] at e; exact absurd ⟨e.1, by omega⟩ q
    have hq : (decide (0 ≤ r) && decide (r < upR rt rl A B)) = false := by
      cases e : (decide (0 ≤ r) && decide (r < upR rt rl A B))
      · rfl
      · simp at e; exact absurd e q
    rw [hin] at hl
    rw [hq]
    clear hin hq hv hv2 hv3 h hu q hAB qb
    generalize upR rt rl A B = u at *
    have HP := Lib.hid (And.intro hb (And.intro ht hl)); clear hb ht hl
    go_enter Try.func26, Try.ntmps26
    go_wp2_with fail
    refine (HP.out.1 _).mono ?_; rintro e w1 ⟨rfl, b1⟩
    obtain ⟨r0, r1⟩ := race_kept H0.out.1 b1
    have B1 := Lib.hid b1
    clear b1
    go_wp2_with fail
    refine (HP.out.2.1 _).mono ?_; rintro e w2 ⟨rfl, b2⟩
    have B2 := Lib.hid (B1.out.trans (b2.mono B1.out.size))
    clear b2 B1 r0 r1
    go_wp2_with fail
    refine (HP.out.2.2 _).mono ?_; rintro e w4 ⟨rfl, rfl⟩
    go_wp2_with fail
    refine bodyPost_ret (v := .tuple #[.string ⟨#[]⟩, .bool false]) (by simp [results, Try.results26, go_sem]) rfl ⟨rfl, H0.out.2.trans (B2.out.mono H0.out.2.size)⟩

end Go.Proofs.Ytooaeafnneikkaa
