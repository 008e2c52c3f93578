/-
  Leagues: the model's test of two teams.
-/
import Derived.Test.YthbkclgdoopbpaaLgGoals
import Derived.Test.YthbkclgdoopbpaaLtCmp
import Derived.BigQuiet
namespace Go.Proofs.Ythbkclgdoopbpaa
open Go.RowKit
set_option linter.unusedVariables false
set_option linter.unusedSimpArgs false

set_option maxHeartbeats 3200000 in
theorem lgAhead_any (o : Ord3) (a b T g cg go cgo ga ca gb cb : Nat) (ha : a < T) (hb : b < T) (hT : T ≤ 8) (sa : o.small a) (sb : o.small b) (w : World)
    (pa : w.cell? ⟨g, a, none⟩ = some (.int .i64 (o.p a))) (pb : w.cell? ⟨g, b, none⟩ = some (.int .i64 (o.p b)))
    (ra : w.cell? ⟨go, a, none⟩ = some (.slice (some ⟨ga, 0, none⟩) 2 ca)) (rb : w.cell? ⟨go, b, none⟩ = some (.slice (some ⟨gb, 0, none⟩) 2 cb))
    (fa : w.cell? ⟨ga, 0, none⟩ = some (.int .i64 (o.f a))) (aa : w.cell? ⟨ga, 1, none⟩ = some (.int .i64 (o.a a)))
    (fb : w.cell? ⟨gb, 0, none⟩ = some (.int .i64 (o.f b))) (ab : w.cell? ⟨gb, 1, none⟩ = some (.int .i64 (o.a b))) :
    Calls Try.prog 72 #[.slice (some ⟨g, 0, none⟩) T cg, .slice (some ⟨go, 0, none⟩) T cgo, .int .i64 a, .int .i64 b] w fun e w' => e = .returned (.bool (decide (o.ahead a b))) ∧ Below w.heap.size w w' := by
  have hd : decide (o.ahead a b) = decide (o.p b < o.p a ∨ (o.p a = o.p b ∧ (o.f b - o.a b < o.f a - o.a a ∨ (o.f a - o.a a = o.f b - o.a b ∧ o.f b < o.f a)))) := by
    rw [decide_eq_decide]; rfl
  obtain ⟨⟨x1, x2⟩, x3, x4⟩ := sa
  obtain ⟨⟨y1, y2⟩, y3, y4⟩ := sb
  rw [hd]; clear hd
  generalize o.p a = p1 at *
  generalize o.f a = f1 at *
  generalize o.a a = a1 at *
  generalize o.p b = p2 at *
  generalize o.f b = f2 at *
  generalize o.a b = a2 at *
  have w1 : IntKind.i64.wrap (f1 - a1) = f1 - a1 := by rw [IntKind.wrap_i64]; omega
  have w2 : IntKind.i64.wrap (f2 - a2) = f2 - a2 := by rw [IntKind.wrap_i64]; omega
  have ha' : (a : Int) < (T : Int) := by omega
  have hb' : (b : Int) < (T : Int) := by omega
  have hT2 : 0 < T := by omega
  clear x1 x2 x3 x4 y1 y2 y3 y4
  obtain ⟨d1, hd1⟩ : ∃ d1, d1 = f1 - a1 := ⟨_, rfl⟩
  obtain ⟨d2, hd2⟩ : ∃ d2, d2 = f2 - a2 := ⟨_, rfl⟩
  rw [← hd1] at w1 ⊢
  rw [← hd2] at w2 ⊢
  have e1 : f1 - a1 = d1 := hd1.symm
  have e2 : f2 - a2 = d2 := hd2.symm
  clear hd1 hd2
  by_cases q1 : p1 = p2
  · have b1 : (p1 != p2) = false := by simp [q1]
    by_cases q2 : d1 = d2
    · have b2 : (d1 != d2) = false := by simp [q2]
      rw [show decide (p2 < p1 ∨ (p1 = p2 ∧ (d2 < d1 ∨ (d1 = d2 ∧ f2 < f1)))) = decide (f2 < f1) from by rw [decide_eq_decide]; omega]
      clear q1 q2
      go_enter Try.func72, Try.ntmps72
      go_wp2_with fail
      go_quiet (fail)
      go_wp2_with fail
      go_quiet (fail)
      go_wp2_with fail
      go_quiet (fail)
      go_wp2_with fail
      go_ret
      exact ⟨rfl, by repeat (first | exact Below.refl _ _ | refine below_drewN ?_ _)⟩
    · have b2 : (d1 != d2) = true := by simp [q2]
      rw [show decide (p2 < p1 ∨ (p1 = p2 ∧ (d2 < d1 ∨ (d1 = d2 ∧ f2 < f1)))) = decide (d2 < d1) from by rw [decide_eq_decide]; omega]
      clear q1 q2
      go_enter Try.func72, Try.ntmps72
      go_wp2_with fail
      go_quiet (fail)
      go_wp2_with fail
      go_quiet (fail)
      go_wp2_with fail
      go_ret
      exact ⟨rfl, by repeat (first | exact Below.refl _ _ | refine below_drewN ?_ _)⟩
  · have b1 : (p1 != p2) = true := by simp [q1]
    rw [show decide (p2 < p1 ∨ (p1 = p2 ∧ (d2 < d1 ∨ (d1 = d2 ∧ f2 < f1)))) = decide (p2 < p1) from by rw [decide_eq_decide]; omega]
    clear q1
    go_enter Try.func72, Try.ntmps72
    go_wp2_with fail
    go_quiet (fail)
    go_wp2_with fail
    go_quiet (fail)
    go_wp2_with fail
    go_quiet (fail)
    go_wp2_with fail
    go_ret
    exact ⟨rfl, by repeat (first | exact Below.refl _ _ | refine below_drewN ?_ _)⟩
end Go.Proofs.Ythbkclgdoopbpaa
