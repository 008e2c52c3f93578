/-
  Leagues: the order of teams, the table. Plain facts.
-/
import Derived.Test.YthbkclgdoopbpaaLgPts
namespace Go.Proofs.Ythbkclgdoopbpaa

/-- The order of a table: points, difference, goals of a team. -/
structure Ord3 where
  p : Int → Int
  f : Int → Int
  a : Int → Int
def Ord3.d (o : Ord3) (x : Int) : Int := o.f x - o.a x
/-- x is ahead of y by points, difference or goals. -/
def Ord3.ahead (o : Ord3) (x y : Int) : Prop := o.p y < o.p x ∨ (o.p x = o.p y ∧ (o.d y < o.d x ∨ (o.d x = o.d y ∧ o.f y < o.f x)))
instance (o : Ord3) (x y : Int) : Decidable (o.ahead x y) := by unfold Ord3.ahead; infer_instance
/-- x comes before y. -/
def Ord3.bef (o : Ord3) (x y : Int) : Prop := o.ahead x y ∨ (¬ o.ahead y x ∧ x < y)
instance (o : Ord3) (x y : Int) : Decidable (o.bef x y) := by unfold Ord3.bef; infer_instance
theorem Ord3.bef_trans {o : Ord3} {x y z : Int} (h1 : o.bef x y) (h2 : o.bef y z) : o.bef x z := by
  unfold Ord3.bef Ord3.ahead at *
  omega
theorem Ord3.bef_irr {o : Ord3} {x y : Int} (h1 : o.bef x y) (h2 : o.bef y x) : False := by
  unfold Ord3.bef Ord3.ahead at *
  omega
theorem Ord3.bef_total {o : Ord3} {x y : Int} (h : x ≠ y) : o.bef x y ∨ o.bef y x := by
  unfold Ord3.bef Ord3.ahead at *
  omega
/-- A team is put behind all that it is not ahead of. -/
def Ord3.ins (o : Ord3) (x : Int) : List Int → List Int
  | [] => [x]
  | y :: l => if o.ahead x y then x :: y :: l else y :: o.ins x l
def Ord3.tab (o : Ord3) : Nat → List Int
  | 0 => []
  | n + 1 => o.ins n (o.tab n)
/-- How many it goes behind. -/
def Ord3.pos (o : Ord3) (x : Int) : List Int → Nat
  | [] => 0
  | y :: l => if o.ahead x y then 0 else o.pos x l + 1
theorem Ord3.ins_pos (o : Ord3) (x : Int) : ∀ l : List Int, o.ins x l = l.take (o.pos x l) ++ x :: l.drop (o.pos x l)
  | [] => rfl
  | y :: l => by
    unfold Ord3.ins Ord3.pos
    by_cases h : o.ahead x y
    · simp [h]
    · simp [h, Ord3.ins_pos o x l]
theorem Ord3.pos_le (o : Ord3) (x : Int) : ∀ l : List Int, o.pos x l ≤ l.length
  | [] => Nat.le_refl _
  | y :: l => by
    unfold Ord3.pos
    split
    · exact Nat.zero_le _
    · have := Ord3.pos_le o x l; simp only [List.length_cons]; omega
/-- The first one of the list that it is ahead of, if it is not behind all, stands there; it is ahead of none before. -/
theorem Ord3.pos_at (o : Ord3) (x : Int) : ∀ (l : List Int) (k : Nat), k < l.length → (k < o.pos x l → ¬ o.ahead x (l.getD k 0)) ∧ (k = o.pos x l → o.ahead x (l.getD k 0))
  | y :: l, 0, _ => by
    unfold Ord3.pos
    by_cases h : o.ahead x y
    · simp [h]
    · simp [h]
  | y :: l, k + 1, hk => by
    unfold Ord3.pos
    have ih := Ord3.pos_at o x l k (by simpa using hk)
    by_cases h : o.ahead x y
    · simp [h]
    · simp only [h, if_false]
      refine ⟨fun h2 => ?_, fun h2 => ?_⟩
      · have := ih.1 (by omega); simpa using this
      · have := ih.2 (by omega); simpa using this
theorem Ord3.mem_ins (o : Ord3) (x y : Int) : ∀ l : List Int, y ∈ o.ins x l ↔ y = x ∨ y ∈ l
  | [] => by simp [Ord3.ins]
  | z :: l => by
    unfold Ord3.ins
    by_cases h : o.ahead x z
    · simp [h]
    · simp only [h, if_false, List.mem_cons, Ord3.mem_ins o x y l]
      constructor
      · rintro (h | h | h) <;> simp [h]
      · rintro (h | h | h) <;> simp [h]
theorem Ord3.ins_len (o : Ord3) (x : Int) : ∀ l : List Int, (o.ins x l).length = l.length + 1
  | [] => rfl
  | z :: l => by
    unfold Ord3.ins
    by_cases h : o.ahead x z
    · simp [h]
    · simp [h, Ord3.ins_len o x l]
theorem Ord3.tab_len (o : Ord3) : ∀ n, (o.tab n).length = n
  | 0 => rfl
  | n + 1 => by rw [Ord3.tab, Ord3.ins_len, Ord3.tab_len o n]
theorem Ord3.mem_tab (o : Ord3) (y : Int) : ∀ n : Nat, y ∈ o.tab n ↔ 0 ≤ y ∧ y < n
  | 0 => by simp only [Ord3.tab, List.not_mem_nil, false_iff]; omega
  | n + 1 => by
    rw [Ord3.tab, Ord3.mem_ins, Ord3.mem_tab o y n]
    push_cast
    omega
theorem Ord3.ins_sorted (o : Ord3) (x : Int) : ∀ l : List Int, (∀ y ∈ l, y < x) → l.Pairwise o.bef → (o.ins x l).Pairwise o.bef
  | [], _, _ => by simp [Ord3.ins]
  | y :: l, hx, h => by
    unfold Ord3.ins
    rw [List.pairwise_cons] at h
    have hy := hx y (by simp)
    by_cases hh : o.ahead x y
    · rw [if_pos hh, List.pairwise_cons]
      have hb : o.bef x y := .inl hh
      refine ⟨fun z hz => ?_, List.pairwise_cons.2 h⟩
      rcases List.mem_cons.1 hz with rfl | hz
      · exact hb
      · exact Ord3.bef_trans hb (h.1 z hz)
    · rw [if_neg hh, List.pairwise_cons]
      refine ⟨fun z hz => ?_, Ord3.ins_sorted o x l (fun z hz => hx z (by simp [hz])) h.2⟩
      rcases (Ord3.mem_ins o x z l).1 hz with rfl | hz
      · exact .inr ⟨hh, hy⟩
      · exact h.1 z hz
theorem Ord3.tab_sorted (o : Ord3) : ∀ n, (o.tab n).Pairwise o.bef
  | 0 => List.Pairwise.nil
  | n + 1 => by
    rw [Ord3.tab]
    exact Ord3.ins_sorted o n _ (fun y hy => ((Ord3.mem_tab o y n).1 hy).2) (Ord3.tab_sorted o n)
/-- Of the teams that wait the first one is the head. -/
theorem Ord3.head_least {o : Ord3} {h : Int} {r : List Int} (hs : (h :: r).Pairwise o.bef) {t : Int} (ht : t ∈ h :: r) (hm : ∀ u ∈ h :: r, u = t ∨ o.bef t u) : t = h := by
  rcases List.mem_cons.1 ht with e | e
  · exact e
  · have hb := (List.pairwise_cons.1 hs).1 t e
    rcases hm h (by simp) with e2 | e2
    · exact e2.symm
    · exact (Ord3.bef_irr hb e2).elim
theorem Ord3.bef_ne {o : Ord3} {x y : Int} (h : o.bef x y) : x ≠ y := fun e => by subst e; exact Ord3.bef_irr h h
theorem Ord3.tab_drop (o : Ord3) {n k : Nat} (h : k < n) : ∃ r, (o.tab n).drop k = (o.tab n).getD k 0 :: r ∧ (o.tab n).drop (k + 1) = r ∧ ((o.tab n).getD k 0 :: r).Pairwise o.bef ∧ (∀ y ∈ (o.tab n).getD k 0 :: r, 0 ≤ y ∧ y < n) ∧ r.length + (k + 1) = n := by
  have hl := o.tab_len n
  have e : (o.tab n).drop k = (o.tab n).getD k 0 :: (o.tab n).drop (k + 1) := by
    rw [List.drop_eq_getElem_cons (by omega)]; simp [hl, h]
  refine ⟨_, e, rfl, ?_, fun y hy => ?_, by rw [List.length_drop]; omega⟩
  · rw [← e]; exact (o.tab_sorted n).sublist (List.drop_sublist _ _)
  · rw [← e] at hy
    exact (o.mem_tab y n).1 (List.mem_of_mem_drop hy)

def cmpI (a b : Int) : Int := if a < b then -1 else if b < a then 1 else 0
def orV : List Int → Int
  | [] => 0
  | x :: l => if x = 0 then orV l else x
def Ord3.cmp (o : Ord3) (x y : Int) : Int := orV [cmpI (o.p y) (o.p x), cmpI (o.d y) (o.d x), cmpI (o.f y) (o.f x), cmpI x y]
theorem Ord3.cmp_neg (o : Ord3) (x y : Int) : decide (o.cmp x y < 0) = decide (o.bef x y) := by
  rw [Bool.eq_iff_iff, decide_eq_true_eq, decide_eq_true_eq]
  unfold Ord3.cmp orV orV orV orV orV cmpI Ord3.bef Ord3.ahead
  repeat' split
  all_goals omega
theorem cmpI_bd (a b : Int) : -1 ≤ cmpI a b ∧ cmpI a b ≤ 1 := by unfold cmpI; repeat' split <;> omega

/-- The standings of a league. -/
def ordL (wn : Int) (l : List Rs) : Ord3 := ⟨ptsT wn l, fun i => forL (gamesL l i), fun i => agL (gamesL l i)⟩
end Go.Proofs.Ythbkclgdoopbpaa
