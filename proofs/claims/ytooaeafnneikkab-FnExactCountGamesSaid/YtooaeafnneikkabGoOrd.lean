/-
  Goals, plain facts: counts of orders, the program's and the model's.
-/
import Derived.Test.YtooaeafnneikkabGoMath
namespace Go.Proofs.Ytooaeafnneikkab
set_option linter.unusedVariables false

def capG : Int := 1000000000000001
def atO (T : List Int) (i : Int) : Int := if i < 0 then 0 else T.getD i.toNat 0
def sumO (T : List Int) (s : Int) (ks : List Int) (b : Int) : Int := ks.foldl (fun sum p => sum + atO T (s - p)) b
def minO (x : Int) : Int := if x ≤ capG then x else capG
def ordP (ks : List Int) : Nat → List Int
  | 0 => [1]
  | n + 1 => ordP ks n ++ [minO (sumO (ordP ks n) ((n + 1 : Nat) : Int) ks 0)]
def stepO (T : List Int) (s : Int) (o p : Int) : Int := if p ≤ s then (if o + T.getD (s - p).toNat 0 < capG then o + T.getD (s - p).toNat 0 else capG) else o
theorem ordP_len (ks : List Int) : ∀ n, (ordP ks n).length = n + 1
  | 0 => rfl
  | n + 1 => by simp [ordP, ordP_len ks n]
theorem ordP_get (ks : List Int) {j n : Nat} (h : j ≤ n) : (ordP ks n).getD j 0 = (ordP ks j).getD j 0 := by
  induction n with
  | zero => obtain rfl : j = 0 := by omega
            rfl
  | succ n ih =>
    by_cases e : j = n + 1
    · subst e; rfl
    · rw [← ih (by omega)]
      simp only [ordP, List.getD_eq_getElem?_getD]
      rw [List.getElem?_append_left (by rw [ordP_len]; omega)]
theorem ordP_last (ks : List Int) (n : Nat) : (ordP ks (n + 1)).getD (n + 1) 0 = minO (sumO (ordP ks n) ((n + 1 : Nat) : Int) ks 0) := by
  simp only [ordP, List.getD_eq_getElem?_getD]
  rw [List.getElem?_append_right (by rw [ordP_len]; omega), ordP_len]; simp
theorem sumO_le (T : List Int) (s : Int) (hT : ∀ j : Nat, 0 ≤ T.getD j 0 ∧ T.getD j 0 ≤ capG) : ∀ (ks : List Int) (b : Int), b ≤ sumO T s ks b ∧ sumO T s ks b ≤ b + capG * ks.length
  | [], b => by simp [sumO]
  | p :: r, b => by
    have h := sumO_le T s hT r (b + atO T (s - p))
    have ha : 0 ≤ atO T (s - p) ∧ atO T (s - p) ≤ capG := by
      unfold atO; split
      · unfold capG; omega
      · exact hT _
    have e : sumO T s (p :: r) b = sumO T s r (b + atO T (s - p)) := rfl
    rw [e, List.length_cons]
    unfold capG at *
    omega
theorem ordP_bd (ks : List Int) : ∀ (n j : Nat), 0 ≤ (ordP ks n).getD j 0 ∧ (ordP ks n).getD j 0 ≤ capG := by
  intro n
  induction n with
  | zero =>
    intro j
    cases j with
    | zero => simp [ordP, capG]
    | succ j => simp [ordP, capG]
  | succ n ih =>
    intro j
    by_cases e : j ≤ n
    · rw [ordP_get ks (show j ≤ n + 1 by omega), ← ordP_get ks e]; exact ih j
    · by_cases e2 : j = n + 1
      · subst e2
        rw [ordP_last]
        have := (sumO_le (ordP ks n) ((n + 1 : Nat) : Int) ih ks 0).1
        unfold minO
        split
        · omega
        · unfold capG; omega
      · rw [List.getD_eq_getElem?_getD, List.getElem?_eq_none (by rw [ordP_len]; omega)]
        simp [capG]
/-- Held down at every step, or once at the end: the same. -/
theorem foldO (T : List Int) (s : Int) (hT : ∀ j : Nat, 0 ≤ T.getD j 0) : ∀ (ks : List Int) (b : Int), 0 ≤ b → ks.foldl (stepO T s) (minO b) = minO (sumO T s ks b)
  | [], b, _ => rfl
  | p :: r, b, hb => by
    have ha : 0 ≤ atO T (s - p) := by
      unfold atO; split
      · omega
      · exact hT _
    have e : stepO T s (minO b) p = minO (b + atO T (s - p)) := by
      unfold stepO atO minO capG
      by_cases h : p ≤ s
      · have h2 : ¬ s - p < 0 := by omega
        have := hT (s - p).toNat
        rw [if_pos h, if_neg h2]
        repeat' split
        all_goals omega
      · have h2 : s - p < 0 := by omega
        rw [if_neg h, if_pos h2, Int.add_zero]
    rw [List.foldl_cons, e]
    exact foldO T s hT r _ (by omega)
theorem stepO_bd (T : List Int) (s o p : Int) (hT : ∀ j : Nat, 0 ≤ T.getD j 0 ∧ T.getD j 0 ≤ capG) (h : 0 ≤ o ∧ o ≤ capG) : 0 ≤ stepO T s o p ∧ stepO T s o p ≤ capG := by
  unfold stepO
  have := hT (s - p).toNat
  unfold capG at *
  repeat' split
  all_goals omega
theorem foldO_zero (ks : List Int) (n : Nat) : ks.foldl (stepO (ordP ks n) ((n + 1 : Nat) : Int)) 0 = (ordP ks (n + 1)).getD (n + 1) 0 := by
  rw [ordP_last, ← foldO _ _ (fun j => (ordP_bd ks n j).1) ks 0 (Int.le_refl _)]
  rfl
def ordN (ks : List Int) (s : Nat) : Int := (ordP ks s).getD s 0
/-- What CountGoalOrders hands back. -/
def ordV (ks : List Int) (s : Int) : Int := if askedG ks s = true ∧ ordN ks s.toNat ≤ 1000000000000000 then ordN ks s.toNat else 0
def ordB (ks : List Int) (s : Int) : Bool := askedG ks s && decide (ordN ks s.toNat ≤ 1000000000000000)
end Go.Proofs.Ytooaeafnneikkab
