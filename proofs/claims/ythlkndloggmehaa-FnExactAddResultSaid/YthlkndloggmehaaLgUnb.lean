/-
  Leagues: the longest time without a loss: both sides.
-/
import Derived.Test.YthlkndloggmehaaLgWdl
namespace Go.Proofs.Ythlkndloggmehaa
open Go.RowKit
set_option linter.unusedVariables false
set_option linter.unusedSimpArgs false

/-- The longest run and the run under way, behind these games. -/
def UnbG (gs : List Gm) (a b : Int) : Prop := a = (unbL gs).1 ∧ b = (unbL gs).2
theorem UnbG.lost {gs : List Gm} {a b : Int} (h : UnbG gs a b) (g : Gm) (e : g.2.1 < g.2.2) : UnbG (gs ++ [g]) a 0 := by
  obtain ⟨rfl, rfl⟩ := h
  have := unbL_bd gs
  unfold UnbG
  rw [unbL_snoc]; unfold unbS; simp only [if_pos e]
  refine ⟨?_, trivial⟩
  omega
theorem UnbG.on {gs : List Gm} {a b : Int} (h : UnbG gs a b) (g : Gm) (e : ¬ g.2.1 < g.2.2) : UnbG (gs ++ [g]) (max a (b + 1)) (b + 1) := by
  obtain ⟨rfl, rfl⟩ := h
  unfold UnbG
  rw [unbL_snoc]; unfold unbS; simp only [if_neg e]
  exact ⟨trivial, trivial⟩
theorem UnbG.bd {gs : List Gm} {a b : Int} (h : UnbG gs a b) : (0 ≤ a ∧ a ≤ gs.length) ∧ (0 ≤ b ∧ b ≤ gs.length) := by
  obtain ⟨rfl, rfl⟩ := h
  have := unbL_bd gs
  omega
set_option maxHeartbeats 400000 in
theorem l1Most_any (a b : Int) (w : World) : Calls Try.prog 81 #[.int .i64 a, .int .i64 b] w fun e w' => e = .returned (.int .i64 (max a b)) ∧ w' = w := by
  by_cases h : b < a
  all_goals
    go_enter Try.func81, Try.ntmps81
    go_wp2
    go_ret
    exact ⟨ret_int (by omega), rfl⟩

end Go.Proofs.Ythlkndloggmehaa
