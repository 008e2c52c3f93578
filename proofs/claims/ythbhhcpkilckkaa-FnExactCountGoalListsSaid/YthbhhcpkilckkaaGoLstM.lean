/-
  Goals: lists of goals are counted, the way of both sides: cell by cell.
-/
import Derived.Test.YthbhhcpkilckkaaGoTabM
import Derived.IntWalk
namespace Go.Proofs.Ythbhhcpkilckkaa
set_option linter.unusedVariables false

def stepL (p : Nat) (L : List Int) (n : Nat) : List Int := L.set n (RowKit.wrap64 (L.getD n 0 + L.getD (n - p) 0))
def runL (p : Nat) : Nat → Nat → List Int → List Int
  | 0, _, L => L
  | c + 1, n, L => runL p c (n + 1) (stepL p L n)
def kindL (m : Nat) (L : List Int) (p : Int) : List Int := runL p.toNat (m + 1 - p.toNat) p.toNat L
def waysL (m : Nat) (ks : List Int) (L : List Int) : List Int := ks.foldl (kindL m) L
theorem stepL_len (p : Nat) (L : List Int) (n : Nat) : (stepL p L n).length = L.length := by simp [stepL]
theorem runL_len (p : Nat) : ∀ (c n : Nat) (L : List Int), (runL p c n L).length = L.length
  | 0, n, L => rfl
  | c + 1, n, L => by rw [runL, runL_len p c, stepL_len]
theorem kindL_len (m : Nat) (L : List Int) (p : Int) : (kindL m L p).length = L.length := runL_len _ _ _ _
theorem stepL_take {p m n : Nat} (L : List Int) (hn : n ≤ m) : (stepL p L n).take (m + 1) = stepL p (L.take (m + 1)) n := by
  have hg : ∀ j, j ≤ m → (L.take (m + 1)).getD j 0 = L.getD j 0 := fun j hj => by
    rw [List.getD_eq_getElem?_getD, List.getD_eq_getElem?_getD, List.getElem?_take_of_lt (by omega)]
  unfold stepL
  rw [hg n hn, hg (n - p) (by omega), List.take_set]
theorem runL_take {p m : Nat} : ∀ (c n : Nat) (L : List Int), n + c ≤ m + 1 → (runL p c n L).take (m + 1) = runL p c n (L.take (m + 1))
  | 0, n, L, _ => rfl
  | c + 1, n, L, h => by rw [runL, runL, runL_take c (n + 1) _ (by omega), stepL_take L (by omega)]
theorem kindL_take {m : Nat} (L : List Int) (p : Int) : (kindL m L p).take (m + 1) = kindL m (L.take (m + 1)) p := by
  unfold kindL
  by_cases h : p.toNat ≤ m + 1
  · exact runL_take _ _ _ (by omega)
  · rw [show m + 1 - p.toNat = 0 by omega]; rfl
theorem waysL_take {m : Nat} : ∀ (ks : List Int) (L : List Int), (waysL m ks L).take (m + 1) = waysL m ks (L.take (m + 1))
  | [], L => rfl
  | p :: r, L => by
    show (waysL m r (kindL m L p)).take (m + 1) = waysL m r (kindL m (L.take (m + 1)) p)
    rw [waysL_take r, kindL_take]
theorem waysL_len (m : Nat) : ∀ (ks : List Int) (L : List Int), (waysL m ks L).length = L.length
  | [], L => rfl
  | p :: r, L => by
    show (waysL m r (kindL m L p)).length = _
    rw [waysL_len m r, kindL_len]
/-- How many lists of goals reach a score. -/
def lstN (ks : List Int) (m : Nat) : Int := (waysL m ks (1 :: List.replicate m 0)).getD m 0
theorem lstN_more (ks : List Int) (m N : Nat) (h : m ≤ N) : (waysL m ks (1 :: List.replicate N 0)).getD m 0 = lstN ks m := by
  unfold lstN
  have e : (1 :: List.replicate N (0 : Int)).take (m + 1) = 1 :: List.replicate m 0 := by
    rw [List.take_succ_cons, List.take_replicate, Nat.min_eq_left h]
  rw [← e, ← waysL_take, List.getD_eq_getElem?_getD, List.getD_eq_getElem?_getD, List.getElem?_take_of_lt (by omega)]
def lstV (ks : List Int) (s : Int) : Int := if askedG ks s = true then lstN ks s.toNat else 0

/-- What is still to do of one kind. -/
theorem runL_step {p m n : Nat} {L T : List Int} (h : runL p (m + 1 - n) n L = T) (hn : n ≤ m) : runL p (m + 1 - (n + 1)) (n + 1) (stepL p L n) = T := by
  rw [show m + 1 - n = (m + 1 - (n + 1)) + 1 by omega, runL] at h
  exact h
theorem runL_end {p m n : Nat} {L T : List Int} (h : runL p (m + 1 - n) n L = T) (hn : ¬ n ≤ m) : L = T := by
  rw [show m + 1 - n = 0 by omega, runL] at h
  exact h
end Go.Proofs.Ythbhhcpkilckkaa
