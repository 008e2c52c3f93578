/-
  Leagues: the longest time without a loss: both sides.
-/
import Derived.Test.YthbkclgdoopbpaaLgWdl
namespace Go.Proofs.Ythbkclgdoopbpaa
open Go.RowKit
set_option linter.unusedVariables false
set_option linter.unusedSimpArgs false

/-- The longest run and the run under way, behind these games. -/
def UnbG (gs : List Gm) (a b : Int) : Prop := a = (unbL gs).1 ∧ b = (unbL gs).2
theorem UnbG.lost {gs : List Gm} {a b : Int} (h : UnbG gs a b) (g : Gm) (e : g.2.1 < g.2.2) : UnbG (gs ++ [g]) a 0 := by
  obtain ⟨rfl, rfl⟩ := h
  have := unbL_bd gs
  unfold UnbG
  rw [unbL_snoc]; unfold unbS; simp only [if_pos e]
  refine ⟨?_, trivial⟩
  omega
theorem UnbG.on {gs : List Gm} {a b : Int} (h : UnbG gs a b) (g : Gm) (e : ¬ g.2.1 < g.2.2) : UnbG (gs ++ [g]) (max a (b + 1)) (b + 1) := by
  obtain ⟨rfl, rfl⟩ := h
  unfold UnbG
  rw [unbL_snoc]; unfold unbS; simp only [if_neg e]
  exact ⟨trivial, trivial⟩
theorem UnbG.bd {gs : List Gm} {a b : Int} (h : UnbG gs a b) : (0 ≤ a ∧ a ≤ gs.length) ∧ (0 ≤ b ∧ b ≤ gs.length) := by
  obtain ⟨rfl, rfl⟩ := h
  have := unbL_bd gs
  omega
end Go.Proofs.Ythbkclgdoopbpaa
