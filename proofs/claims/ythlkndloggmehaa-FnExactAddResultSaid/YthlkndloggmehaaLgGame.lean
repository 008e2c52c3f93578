/-
  Leagues: a team's game: won, lost, its points; how many games are won, drawn and lost (the program's).
-/
import Derived.Test.YthlkndloggmehaaLgTeam
namespace Go.Proofs.Ythlkndloggmehaa
open Go.RowKit
set_option linter.unusedVariables false
set_option linter.unusedSimpArgs false

theorem gtake_snoc (gs : List Gm) (k : Nat) (h : k < gs.length) : gs.take (k + 1) = gs.take k ++ [gs.getD k zG] := take_snoc zG gs k h

/-- What the counts are behind so many games. -/
def WdlAt (gs : List Gm) (k : Nat) (a b c : Int) : Prop := a = wonL (gs.take k) ∧ b = drawL (gs.take k) ∧ c = lostL (gs.take k)
theorem WdlAt.bd {gs : List Gm} {k : Nat} {a b c : Int} (h : WdlAt gs k a b c) : (0 ≤ a ∧ a ≤ k) ∧ (0 ≤ b ∧ b ≤ k) ∧ (0 ≤ c ∧ c ≤ k) := by
  obtain ⟨rfl, rfl, rfl⟩ := h
  have h1 := wonL_bd (gs.take k)
  have h2 := drawL_bd (gs.take k)
  have h3 := lostL_bd (gs.take k)
  rw [List.length_take] at h1 h2 h3
  omega
theorem WdlAt.won {gs : List Gm} {k : Nat} {a b c : Int} (h : WdlAt gs k a b c) (hk : k < gs.length) (e : (gs.getD k zG).2.2 < (gs.getD k zG).2.1) : WdlAt gs (k + 1) (a + 1) b c := by
  obtain ⟨rfl, rfl, rfl⟩ := h
  unfold WdlAt
  rw [gtake_snoc gs k hk, wonL_snoc, drawL_snoc, lostL_snoc, if_pos e, if_neg (by omega), if_neg (by omega)]
  omega
theorem WdlAt.lost {gs : List Gm} {k : Nat} {a b c : Int} (h : WdlAt gs k a b c) (hk : k < gs.length) (e : (gs.getD k zG).2.1 < (gs.getD k zG).2.2) : WdlAt gs (k + 1) a b (c + 1) := by
  obtain ⟨rfl, rfl, rfl⟩ := h
  unfold WdlAt
  rw [gtake_snoc gs k hk, wonL_snoc, drawL_snoc, lostL_snoc, if_neg (by omega), if_neg (by omega), if_pos e]
  omega
theorem WdlAt.draw {gs : List Gm} {k : Nat} {a b c : Int} (h : WdlAt gs k a b c) (hk : k < gs.length) (e : (gs.getD k zG).2.1 = (gs.getD k zG).2.2) : WdlAt gs (k + 1) a (b + 1) c := by
  obtain ⟨rfl, rfl, rfl⟩ := h
  unfold WdlAt
  rw [gtake_snoc gs k hk, wonL_snoc, drawL_snoc, lostL_snoc, if_neg (by omega), if_pos e, if_neg (by omega)]
  omega

end Go.Proofs.Ythlkndloggmehaa
