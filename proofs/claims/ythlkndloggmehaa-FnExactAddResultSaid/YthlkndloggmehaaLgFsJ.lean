/-
  Leagues: in how many ways a team can be first: the program's recursion.
-/
import Derived.Test.YthlkndloggmehaaLgFsI
namespace Go.Proofs.Ythlkndloggmehaa
open Go.RowKit
set_option linter.unusedVariables false
set_option linter.unusedSimpArgs false

/-- The endings of a game as the program goes along them. -/
def endA (wn : Int) (k : Nat) : Int := if k = 0 then wn else if k = 1 then 0 else 1
def endB (wn : Int) (k : Nat) : Int := if k = 0 then 0 else if k = 1 then wn else 1
def endM (k : Nat) : Int := if k = 0 then 1 else if k = 1 then -1 else 0
def sumE (W : Int → Int) : Nat → Int
  | 0 => 0
  | k + 1 => sumE W k + W (endM k)
theorem sumE_bd {W : Int → Int} (h : ∀ m, 0 ≤ W m ∧ W m ≤ 2187) : ∀ k : Nat, 0 ≤ sumE W k ∧ sumE W k ≤ 2187 * k
  | 0 => by simp [sumE]
  | k + 1 => by
    have := sumE_bd h k
    have := h (endM k)
    simp only [sumE]; omega
theorem end_row (T : Nat) (f : Int → Int) (wn : Int) (X Y : Nat) (hX : X < T) (hY : Y < T) (hne : X ≠ Y) (k : Nat) (hk : k < 3) :
    ((rowF T f).set X (f X + endA wn k)).set Y (f Y + endB wn k) = rowF T (fun i => f i + addG wn X Y (endM k) i) := by
  rw [rowF_add hX, rowF_set hY]
  refine rowF_congr fun i _ _ => ?_
  rcases (show k = 0 ∨ k = 1 ∨ k = 2 by omega) with rfl | rfl | rfl
  all_goals
    simp only [endA, endB, endM, addG]
    by_cases e : i = (Y : Int)
    · subst e
      have : ¬ ((Y : Int) = (X : Int)) := by omega
      simp [this]
    · by_cases e2 : i = (X : Int)
      · subst e2
        simp [e]
      · simp [e, e2]

end Go.Proofs.Ythlkndloggmehaa
