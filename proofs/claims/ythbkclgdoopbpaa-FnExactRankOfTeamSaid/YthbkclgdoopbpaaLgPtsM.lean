/-
  Leagues: the points of all teams, result by result; what is left; who can be first. Plain facts.
-/
import Derived.Test.YthbkclgdoopbpaaLgMath
namespace Go.Proofs.Ythbkclgdoopbpaa
set_option linter.unusedVariables false
set_option linter.unusedSimpArgs false

/-- What a result of 'more' goals adds for Home h and Away a. -/
def addG (wn h a more i : Int) : Int := if i = h then (if more > 0 then wn else if more < 0 then 0 else 1) else if i = a then (if more < 0 then wn else if more > 0 then 0 else 1) else 0
def rowF (t : Nat) (f : Int → Int) : List Int := (List.range t).map fun (i : Nat) => f (i : Int)
theorem rowF_len (t : Nat) (f : Int → Int) : (rowF t f).length = t := by simp [rowF]
theorem rowF_get {t : Nat} {f : Int → Int} {i : Nat} (h : i < t) : (rowF t f).getD i 0 = f i := by simp [rowF, h]
theorem rowF_set {t : Nat} {f : Int → Int} {i : Nat} (h : i < t) (x : Int) : (rowF t f).set i x = rowF t (fun j => if j = (i : Int) then x else f j) := by
  apply List.ext_getElem
  · simp [rowF]
  intro j h1 h2
  simp only [rowF, List.getElem_set, List.getElem_map, List.getElem_range]
  by_cases e : i = j
  · subst e; simp
  · rw [if_neg e, if_neg (by omega)]
theorem rowF_congr {t : Nat} {f g : Int → Int} (h : ∀ i : Int, 0 ≤ i → i < t → f i = g i) : rowF t f = rowF t g := by
  apply List.ext_getElem
  · simp [rowF]
  intro j h1 h2
  simp [rowF] at h1
  simp only [rowF, List.getElem_map, List.getElem_range]
  exact h j (by omega) (by omega)
theorem rowF_zero (t : Nat) : List.replicate t (0 : Int) = rowF t fun _ => 0 := by
  apply List.ext_getElem
  · simp [rowF]
  intro j h1 h2
  simp [rowF]

/-- The points of team i. -/
def ptsT (wn : Int) (l : List Rs) (i : Int) : Int := ptsL wn (gamesL l i)
theorem ptsT_nil (wn i : Int) : ptsT wn [] i = 0 := rfl
theorem ptsT_snoc {t wn : Int} (l : List Rs) (k : Nat) (hk : k < l.length) (hg : goodR t (l.getD k zR) = true) (i : Int) :
    ptsT wn (l.take (k + 1)) i = ptsT wn (l.take k) i + addG wn (l.getD k zR).1 (l.getD k zR).2.1 ((l.getD k zR).2.2.1 - (l.getD k zR).2.2.2) i := by
  unfold ptsT
  rw [gamesL_snoc l i k hk]
  obtain ⟨-, -, hne, -, -⟩ := goodR_bd hg
  generalize l.getD k zR = r at *
  obtain ⟨h, a, g, s⟩ := r
  simp only at hne ⊢
  unfold ownG addG
  by_cases e1 : i = h
  · rw [if_pos e1, if_pos e1]
    simp only [Option.toList]
    rw [ptsL_snoc]; unfold ptsG; simp only
    congr 1
    repeat' split
    all_goals (first | rfl | omega)
  · rw [if_neg e1, if_neg e1]
    by_cases e2 : i = a
    · rw [if_pos e2, if_pos e2]
      simp only [Option.toList]
      rw [ptsL_snoc]; unfold ptsG; simp only
      congr 1
      repeat' split
      all_goals (first | rfl | omega)
    · rw [if_neg e2, if_neg e2]; simp
theorem ptsT_bd {wn : Int} (h : 2 ≤ wn ∧ wn ≤ 3) (l : List Rs) (i : Int) : 0 ≤ ptsT wn l i ∧ ptsT wn l i ≤ 3 * l.length := by
  have h1 := ptsL_bd h (gamesL l i)
  have h2 := gamesL_len l i
  unfold ptsT; omega

/-- The games that are left, told by n * Home + Away. -/
def leftB (l : List Rs) (h a : Int) : Bool := decide (h ≠ a) && !hasG l h a
/-- Most points: what a team has, and what it gets for the games that are left. -/
def cntHome (l : List Rs) (i : Int) : Nat := (gamesL l i).length

/-- In how many ways the games that are left can end so that no other team has more points. -/
def waysN (t : Nat) (wn team : Int) : List (Int × Int) → (Int → Int) → Int
  | [], f => if (List.range t).all fun (i : Nat) => decide (f (i : Int) ≤ f team) then 1 else 0
  | (h, a) :: r, f => waysN t wn team r (fun i => f i + addG wn h a (-1) i) + waysN t wn team r (fun i => f i + addG wn h a 0 i) + waysN t wn team r (fun i => f i + addG wn h a 1 i)
theorem waysN_bd (t : Nat) (wn team : Int) : ∀ (left : List (Int × Int)) (f : Int → Int), 0 ≤ waysN t wn team left f ∧ waysN t wn team left f ≤ 3 ^ left.length
  | [], f => by unfold waysN; split <;> simp
  | (h, a) :: r, f => by
    have h1 := waysN_bd t wn team r (fun i => f i + addG wn h a (-1) i)
    have h2 := waysN_bd t wn team r (fun i => f i + addG wn h a 0 i)
    have h3 := waysN_bd t wn team r (fun i => f i + addG wn h a 1 i)
    simp only [waysN, List.length_cons]
    have e : ((3 : Int) ^ (r.length + 1)) = 3 ^ r.length * 3 := by rw [Int.pow_succ]
    rw [e]
    omega

end Go.Proofs.Ythbkclgdoopbpaa
