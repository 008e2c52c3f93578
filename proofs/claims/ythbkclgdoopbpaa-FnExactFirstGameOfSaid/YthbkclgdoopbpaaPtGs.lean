/-
  Pins: the model's first game.
-/
import Derived.Test.YthbkclgdoopbpaaPtFo
namespace Go.Proofs.Ythbkclgdoopbpaa
open Go.RowKit
set_option linter.unusedVariables false
set_option linter.unusedSimpArgs false

theorem step_two (F : Nat) (g : St) (k : Nat) (hi : InvG F g) (ho : overG F g = false) (hk : (k : Int) ≤ leftP g.2) :
    (stepG F g (k : Int) = (g.1, g.2 ++ [(k : Int)]) ∧ openB (lastG F g) (g.2 ++ [(k : Int)])) ∨ (stepG F g (k : Int) = (g.1 ++ [g.2 ++ [(k : Int)]], []) ∧ endB (lastG F g) (g.2 ++ [(k : Int)])) := by
  have hop := inv_open hi ho
  cases he : endedF (lastG F g) (g.2 ++ [(k : Int)])
  · exact .inl ⟨by unfold stepG; rw [he]; rfl, step_open hop (Int.natCast_nonneg k) hk he⟩
  · exact .inr ⟨by unfold stepG; rw [he]; rfl, step_end hop (Int.natCast_nonneg k) hk he⟩
/-- How many games with the total go on from there. -/
theorem from_val {F m t : Nat} {g : St} (k : Nat) (hi : InvG F g) (ho : overG F g = false) (hm : g.1.length + m + 1 = F) (hk : (k : Int) ≤ leftP g.2) (hq : (fsG g.1).2 ≤ t) :
    addS (fun _ => 0) (valS F (stepG F g (k : Int))) (sumS (stepG F g (k : Int))) t = wyI m (fsG g.1).1 (g.2 ++ [(k : Int)]) (t - (fsG g.1).2) := by
  have hlg : lastG F g = decide (m = 0) := by unfold lastG; by_cases h : m = 0 <;> simp [h] <;> omega
  have hS : sumS (stepG F g (k : Int)) = (fsG g.1).2 + ptsF (fsG g.1).1 (toN (g.2 ++ [(k : Int)])) := by
    rcases step_two F g k hi ho hk with ⟨e, -⟩ | ⟨e, -⟩
    · rw [e]; rfl
    · rw [e]; unfold sumS; simp only; rw [fsG_snoc]; simp [toN, ptsF]
  unfold addS
  rw [hS]
  by_cases hle : (fsG g.1).2 + ptsF (fsG g.1).1 (toN (g.2 ++ [(k : Int)])) ≤ t
  · rw [if_pos hle]
    rcases step_two F g k hi ho hk with ⟨e, -⟩ | ⟨e, h2⟩
    · rw [e]
      have ho2 : overG F (g.1, g.2 ++ [(k : Int)]) = false := by simpa [overG] using ho
      unfold valS
      rw [ho2]
      simp only [Nat.zero_add]
      rw [show F - 1 - g.1.length = m by omega]
      simp
      congr 1; omega
    · rw [hlg] at h2
      rw [e, wyI_end h2]
      unfold partT
      rw [if_pos (by omega)]
      unfold valS
      by_cases hm0 : m = 0
      · have ho2 : overG F (g.1 ++ [g.2 ++ [(k : Int)]], []) = true := by simp [overG]; omega
        rw [ho2, hm0]
        simp only [Nat.zero_add, if_true]
        rw [tl_zero_s (bhF _ _)]
        congr 1; omega
      · have ho2 : overG F (g.1 ++ [g.2 ++ [(k : Int)]], []) = false := by simp [overG]; omega
        obtain ⟨m', rfl⟩ : ∃ m', m = m' + 1 := ⟨m - 1, by omega⟩
        rw [ho2]
        simp only [Nat.zero_add]
        rw [if_neg (by simp), wyI_nil, fsG_snoc]
        rw [show F - 1 - (g.1 ++ [g.2 ++ [(k : Int)]]).length + 1 = m' + 1 by simp; omega]
        simp only
        congr 1
        have : ptsF (bhF (fsG g.1).1 (toN (g.2 ++ [(k : Int)]))) (toN []) = 0 := by simp [toN, ptsF]
        rw [this]; omega
  · rw [if_neg hle, wyI_small (by omega)]
def PlanS (F t : Nat) (g : St) : Prop := (fsG g.1).2 ≤ t ∧ (gmF (F - g.1.length) (fsG g.1).1 (t - (fsG g.1).2)).map (toN g.1.flatten ++ ·) = gmF F 0 t ∧
  (overG F g = false → 0 < wyI (F - 1 - g.1.length) (fsG g.1).1 g.2 (t - (fsG g.1).2) ∧ ffI (F - 1 - g.1.length) (fsG g.1).1 (t - (fsG g.1).2) g.2 = (ffO (F - 1 - g.1.length) (fsG g.1).1 (t - (fsG g.1).2)).map bsI)
theorem PlanS.start {F t : Nat} (hF : 1 ≤ F) (h : 0 < tl F 0 t) : PlanS F t ([], []) := by
  refine ⟨Nat.zero_le _, ?_, fun _ => ⟨?_, ffI_nil _ _ _⟩⟩
  · show (gmF (F - 0) 0 (t - 0)).map _ = _
    rw [Nat.sub_zero, Nat.sub_zero]
    cases gmF F 0 t <;> simp [toN]
  · rw [wyI_nil]
    show 0 < tl (F - 1 - 0 + 1) 0 (t - 0)
    rw [show F - 1 - 0 + 1 = F by omega, Nat.sub_zero]; exact h
theorem toN_app (L M : List Int) : toN (L ++ M) = toN L ++ toN M := by simp [toN]
theorem PlanS.step {F m t : Nat} {g : St} (k : Nat) (h : PlanS F t g) (hi : InvG F g) (ho : overG F g = false) (hm : g.1.length + m + 1 = F) (hk : (k : Int) ≤ leftP g.2)
    (h1 : ∀ j, j < k → wyI m (fsG g.1).1 (g.2 ++ [(j : Int)]) (t - (fsG g.1).2) = 0) (h2 : 0 < wyI m (fsG g.1).1 (g.2 ++ [(k : Int)]) (t - (fsG g.1).2)) : PlanS F t (stepG F g (k : Int)) := by
  have hlg : lastG F g = decide (m = 0) := by unfold lastG; by_cases h : m = 0 <;> simp [h] <;> omega
  have hop := inv_open hi ho
  rw [hlg] at hop
  obtain ⟨p1, p2, p3⟩ := h
  obtain ⟨p4, p5⟩ := p3 ho
  rw [show F - 1 - g.1.length = m by omega] at p4 p5
  have hst := ffI_step (s := (fsG g.1).1) (p := t - (fsG g.1).2) hop hk h1 h2
  rcases step_two F g k hi ho hk with ⟨e, hx⟩ | ⟨e, hx⟩
  · rw [e]
    refine ⟨p1, p2, fun _ => ?_⟩
    simp only
    rw [show F - 1 - g.1.length = m by omega]
    exact ⟨h2, by rw [hst, p5]⟩
  · rw [hlg] at hx
    have he := ffI_end hx h2
    rw [hst, p5] at he
    cases hf : ffO m (fsG g.1).1 (t - (fsG g.1).2) with
    | none => rw [hf] at he; cases he
    | some f =>
      rw [hf] at he
      have hfe : bsI f = g.2 ++ [(k : Int)] := by simpa using he
      have hfn : toN (g.2 ++ [(k : Int)]) = f := by rw [← hfe, toN_bsI]
      obtain ⟨-, q2, q3⟩ := ff_mem hf
      rw [e]
      unfold PlanS
      simp only
      rw [fsG_snoc, hfn]
      simp only
      refine ⟨by omega, ?_, fun ho2 => ?_⟩
      · rw [← p2, show F - g.1.length = m + 1 by omega]
        simp only [gmF, hf]
        rw [show F - (g.1 ++ [g.2 ++ [(k : Int)]]).length = m by simp; omega, show t - ((fsG g.1).2 + ptsF (fsG g.1).1 f) = t - (fsG g.1).2 - ptsF (fsG g.1).1 f by omega]
        rw [List.flatten_append, toN_app]
        have : toN [g.2 ++ [(k : Int)]].flatten = f := by rw [← hfn]; simp
        rw [this]
        cases gmF m (bhF (fsG g.1).1 f) (t - (fsG g.1).2 - ptsF (fsG g.1).1 f) <;> simp
      · have hm1 : 1 ≤ m := by simp [overG] at ho2; omega
        have hl2 : F - 1 - (g.1 ++ [g.2 ++ [(k : Int)]]).length = m - 1 := by simp; omega
        rw [hl2]
        refine ⟨?_, ffI_nil _ _ _⟩
        rw [wyI_nil, show m - 1 + 1 = m by omega, show t - ((fsG g.1).2 + ptsF (fsG g.1).1 f) = t - (fsG g.1).2 - ptsF (fsG g.1).1 f by omega]
        exact q3
end Go.Proofs.Ythbkclgdoopbpaa
