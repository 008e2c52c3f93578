/-
  Puzzles as a number of points and a list of clues: what is a clue, what is a puzzle. Plain facts.
-/
import Derived.Test.YtbgdngfjeikheaaDoorBase
namespace Go.Proofs.YtbgdngfjeikheaaDoor
set_option linter.unusedSimpArgs false
set_option linter.unusedVariables false

/-- Kind, A, B. -/
abbrev Cl := Int × Int × Int
abbrev zC : Cl := (0, 0, 0)
def inP (n a b : Int) : Bool := decide (a ≤ n) && decide (n ≤ b)
/-- What a clue of its kind may be: the least A, the most A, the most B; none of no kind. -/
def bdC (p k : Int) : Option (Int × Int × Int) :=
  if k = 0 ∨ k = 3 ∨ k = 5 then some (0, 0, 8) else if k = 1 then some (0, p - 1, 1) else if k = 2 then some (1, 8, 3) else if k = 4 then some (1, 8, 8) else none
def goodC (p : Int) (c : Cl) : Bool :=
  match bdC p c.1 with
  | some (lo, hi, mb) => inP c.2.1 lo hi && inP c.2.2 0 mb
  | none => false
def goodCs (p : Int) (l : List Cl) : Bool := l.all fun c => goodC p c
def goodP (p : Int) (l : List Cl) : Bool := inP p 1 8 && (decide (l.length ≤ 6) && goodCs p l)

theorem inP_iff {n a b : Int} : inP n a b = true ↔ a ≤ n ∧ n ≤ b := by simp [inP]
theorem inP_not {n a b : Int} : inP n a b = false ↔ ¬ (a ≤ n ∧ n ≤ b) := by rw [← inP_iff]; simp

theorem bdC_none {p k : Int} : bdC p k = none ↔ ¬ (k = 0 ∨ k = 1 ∨ k = 2 ∨ k = 3 ∨ k = 4 ∨ k = 5) := by
  unfold bdC
  repeat' split
  all_goals simp
  all_goals omega

/-- The model's way to say it. -/
theorem goodC_model (p : Int) (c : Cl) : goodC p c = (inP c.2.2 0 8 && (if c.1 = 0 ∨ c.1 = 3 ∨ c.1 = 5 then decide (c.2.1 = 0) else if c.1 = 1 then inP c.2.1 0 (p - 1) && decide (c.2.2 < 2) else if c.1 = 2 then inP c.2.1 1 8 && decide (c.2.2 < 4) else if c.1 = 4 then inP c.2.1 1 8 else false)) := by
  obtain ⟨k, a, b⟩ := c
  unfold goodC bdC
  simp only
  have e : ∀ x y : Bool, (x = true ↔ y = true) → x = y := fun x y h => by cases x <;> cases y <;> simp_all
  apply e
  by_cases h0 : k = 0 ∨ k = 3 ∨ k = 5
  · simp only [h0, if_true, if_pos, Bool.and_eq_true, inP_iff, decide_eq_true_eq]; omega
  · simp only [h0, if_false]
    by_cases h1 : k = 1
    · simp only [h1, if_true, Bool.and_eq_true, inP_iff, decide_eq_true_eq]; omega
    · simp only [h1, if_false]
      by_cases h2 : k = 2
      · simp only [h2, if_true, Bool.and_eq_true, inP_iff, decide_eq_true_eq]; omega
      · simp only [h2, if_false]
        by_cases h4 : k = 4
        · simp only [h4, if_true, Bool.and_eq_true, inP_iff]; omega
        · simp [h4]

theorem ptake_snoc {α : Type} (z : α) (l : List α) (k : Nat) (h : k < l.length) : l.take (k + 1) = l.take k ++ [l.getD k z] := by
  rw [List.take_succ_eq_append_getElem h]; simp [h]
theorem goodCs_snoc (p : Int) (l : List Cl) (k : Nat) (hk : k < l.length) : goodCs p (l.take (k + 1)) = (goodCs p (l.take k) && goodC p (l.getD k zC)) := by
  rw [ptake_snoc zC l k hk]; simp [goodCs]
theorem goodCs_not {p : Int} {l : List Cl} {k : Nat} (hk : k < l.length) (e : goodC p (l.getD k zC) = false) : goodCs p l = false := by
  cases h : goodCs p l with
  | false => rfl
  | true =>
    simp only [goodCs, List.all_eq_true] at h
    have := h l[k] (List.getElem_mem hk)
    simp [hk] at e
    rw [e] at this; cases this
theorem goodCs_get {p : Int} {l : List Cl} (h : goodCs p l = true) (k : Nat) (hk : k < l.length) : goodC p (l.getD k zC) = true := by
  simp only [goodCs, List.all_eq_true] at h
  have := h l[k] (List.getElem_mem hk)
  simpa [hk] using this
theorem goodCs_sub {p : Int} {l m : List Cl} (h : goodCs p l = true) (hs : ∀ c ∈ m, c ∈ l) : goodCs p m = true := by
  simp only [goodCs, List.all_eq_true] at *
  exact fun c hc => h c (hs c hc)

theorem goodP_bd {p : Int} {l : List Cl} (h : goodP p l = true) : (1 ≤ p ∧ p ≤ 8) ∧ l.length ≤ 6 ∧ goodCs p l = true := by
  simp only [goodP, Bool.and_eq_true, inP_iff, decide_eq_true_eq] at h
  exact ⟨h.1, h.2.1, h.2.2⟩
theorem goodP_of {p : Int} {l : List Cl} (h1 : 1 ≤ p ∧ p ≤ 8) (h2 : l.length ≤ 6) (h3 : goodCs p l = true) : goodP p l = true := by
  simp only [goodP, Bool.and_eq_true, inP_iff, decide_eq_true_eq]; exact ⟨h1, h2, h3⟩
theorem goodC_bd {p : Int} {c : Cl} (hp : 1 ≤ p ∧ p ≤ 8) (h : goodC p c = true) : (0 ≤ c.1 ∧ c.1 ≤ 5) ∧ (0 ≤ c.2.1 ∧ c.2.1 ≤ 8) ∧ (0 ≤ c.2.2 ∧ c.2.2 ≤ 8) := by
  rw [goodC_model] at h
  simp only [Bool.and_eq_true, inP_iff] at h
  obtain ⟨h1, h2⟩ := h
  refine ⟨?_, ?_, h1⟩
  · split at h2
    · omega
    · split at h2
      · omega
      · split at h2
        · omega
        · split at h2
          · omega
          · cases h2
  · split at h2
    · simp at h2; omega
    · split at h2
      · simp [inP_iff] at h2; omega
      · split at h2
        · simp [inP_iff] at h2; omega
        · split at h2
          · rw [inP_iff] at h2; omega
          · cases h2
end Go.Proofs.YtbgdngfjeikheaaDoor
