/-
  Leagues: how many games are won, drawn and lost, and the longest time without a loss (the model's).
-/
import Derived.Test.YthbkclgdoopbpaaLgGame
namespace Go.Proofs.Ythbkclgdoopbpaa
open Go.RowKit
set_option linter.unusedVariables false
set_option linter.unusedSimpArgs false

def moreV : Option Gm → Int
  | some g => g.2.1 - g.2.2
  | none => 0
def WdlG (gs : List Gm) (a b c : Int) : Prop := a = wonL gs ∧ b = drawL gs ∧ c = lostL gs
theorem WdlG.won {gs : List Gm} {a b c : Int} (h : WdlG gs a b c) (g : Gm) (e : g.2.2 < g.2.1) : WdlG (gs ++ [g]) (a + 1) b c := by
  obtain ⟨rfl, rfl, rfl⟩ := h
  unfold WdlG
  rw [wonL_snoc, drawL_snoc, lostL_snoc, if_pos e, if_neg (by omega), if_neg (by omega)]; omega
theorem WdlG.lost {gs : List Gm} {a b c : Int} (h : WdlG gs a b c) (g : Gm) (e : g.2.1 < g.2.2) : WdlG (gs ++ [g]) a b (c + 1) := by
  obtain ⟨rfl, rfl, rfl⟩ := h
  unfold WdlG
  rw [wonL_snoc, drawL_snoc, lostL_snoc, if_neg (by omega), if_neg (by omega), if_pos e]; omega
theorem WdlG.draw {gs : List Gm} {a b c : Int} (h : WdlG gs a b c) (g : Gm) (e : g.2.1 = g.2.2) : WdlG (gs ++ [g]) a (b + 1) c := by
  obtain ⟨rfl, rfl, rfl⟩ := h
  unfold WdlG
  rw [wonL_snoc, drawL_snoc, lostL_snoc, if_neg (by omega), if_pos e, if_neg (by omega)]; omega
theorem WdlG.bd {gs : List Gm} {a b c : Int} (h : WdlG gs a b c) : (0 ≤ a ∧ a ≤ gs.length) ∧ (0 ≤ b ∧ b ≤ gs.length) ∧ (0 ≤ c ∧ c ≤ gs.length) := by
  obtain ⟨rfl, rfl, rfl⟩ := h
  exact ⟨wonL_bd gs, drawL_bd gs, lostL_bd gs⟩

end Go.Proofs.Ythbkclgdoopbpaa
