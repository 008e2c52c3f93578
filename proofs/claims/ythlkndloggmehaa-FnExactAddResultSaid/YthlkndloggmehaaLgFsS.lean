/-
  Leagues: in how many ways a team can be first: the model's.
-/
import Derived.Test.YthlkndloggmehaaLgFst
namespace Go.Proofs.Ythlkndloggmehaa
open Go.RowKit
set_option linter.unusedVariables false
set_option linter.unusedSimpArgs false

theorem pow_bd : ∀ n : Nat, n ≤ 7 → (3 : Int) ^ n ≤ 2187 := by
  intro n hn
  have : ∀ k : Fin 8, (3 : Int) ^ k.val ≤ 2187 := by decide
  exact this ⟨n, by omega⟩
theorem ways_bd (T : Nat) (wn M : Int) (L : List (Int × Int)) (f : Int → Int) (h : L.length ≤ 7) : 0 ≤ waysN T wn M L f ∧ waysN T wn M L f ≤ 2187 := by
  have h1 := waysN_bd T wn M L f
  have h2 := pow_bd L.length h
  omega
def GoodP (T : Nat) (p : Int × Int) : Prop := (0 ≤ p.1 ∧ p.1 < T) ∧ (0 ≤ p.2 ∧ p.2 < T) ∧ p.1 ≠ p.2
theorem addG_bd {wn : Int} (h : 2 ≤ wn ∧ wn ≤ 3) (x y m i : Int) : 0 ≤ addG wn x y m i ∧ addG wn x y m i ≤ 3 := by
  unfold addG; repeat' split
  all_goals omega
/-- The ways of the first so many endings of a game, as the model goes along them. -/
def sumW (W : Int → Int) : Nat → Int
  | 0 => 0
  | k + 1 => sumW W k + W ((k : Int) - 1)
theorem sumW_bd {W : Int → Int} (h : ∀ m, 0 ≤ W m ∧ W m ≤ 2187) : ∀ k : Nat, 0 ≤ sumW W k ∧ sumW W k ≤ 2187 * k
  | 0 => by simp [sumW]
  | k + 1 => by
    have := sumW_bd h k
    have := h ((k : Int) - 1)
    simp only [sumW]; omega

end Go.Proofs.Ythlkndloggmehaa
