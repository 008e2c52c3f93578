/-
  Leagues: the games that are left, how many of a team; who has beaten whom; direct points. Plain facts.
-/
import Derived.Test.YthbkclgdoopbpaaLgPtsM
namespace Go.Proofs.Ythbkclgdoopbpaa
set_option linter.unusedVariables false
set_option linter.unusedSimpArgs false

def prs (t : Nat) : List (Int × Int) := (List.range t).flatMap fun (h : Nat) => (List.range t).map fun (a : Nat) => ((h : Int), (a : Int))
def leftL (t : Nat) (l : List Rs) : List (Int × Int) := (prs t).filter fun p => leftB l p.1 p.2
def hasT (team : Int) (p : Int × Int) : Bool := decide (p.1 = team) || decide (p.2 = team)
def cntT (t : Nat) (l : List Rs) (team : Int) : Nat := (leftL t l).countP (hasT team)

theorem countP_one {α : Type} [DecidableEq α] (P : α → Bool) (x : α) : ∀ L : List α, L.Nodup → x ∈ L → P x = true → L.countP (fun y => P y && !decide (y = x)) + 1 = L.countP P
  | [], _, h, _ => by cases h
  | y :: L, hn, hx, hp => by
    obtain ⟨h1, h2⟩ := List.nodup_cons.1 hn
    rcases List.mem_cons.1 hx with rfl | hx
    · have e : L.countP (fun y => P y && !decide (y = x)) = L.countP P := by
        apply List.countP_congr
        intro z hz
        have : z ≠ x := fun e => h1 (e ▸ hz)
        simp [this]
      simp [List.countP_cons, hp, e]
    · have ih := countP_one P x L h2 hx hp
      have hne : y ≠ x := fun e => h1 (e ▸ hx)
      simp only [List.countP_cons]
      rw [← ih]
      simp [hne]
      omega
theorem countP_same {α : Type} [DecidableEq α] (P : α → Bool) (x : α) (L : List α) (h : P x = false) : L.countP (fun y => P y && !decide (y = x)) = L.countP P := by
  apply List.countP_congr
  intro z _
  by_cases e : z = x
  · subst e; simp [h]
  · simp [e]

theorem prs_nodup : ∀ t : Nat, t ≤ 8 → (prs t).Nodup := by
  intro t ht
  have : ∀ n : Fin 9, (prs n.val).Nodup := by decide +kernel
  exact this ⟨t, by omega⟩
theorem prs_mem {t : Nat} {h a : Int} (h0 : 0 ≤ h ∧ h < t) (a0 : 0 ≤ a ∧ a < t) : (h, a) ∈ prs t := by
  simp only [prs, List.mem_flatMap, List.mem_range, List.mem_map, Prod.mk.injEq]
  exact ⟨h.toNat, by omega, a.toNat, by omega, by omega, by omega⟩
theorem prs_mem_bd {t : Nat} {p : Int × Int} (h : p ∈ prs t) : (0 ≤ p.1 ∧ p.1 < t) ∧ (0 ≤ p.2 ∧ p.2 < t) := by
  simp only [prs, List.mem_flatMap, List.mem_range, List.mem_map] at h
  obtain ⟨x, hx, y, hy, rfl⟩ := h
  simp only; omega
theorem cnt_base : ∀ t : Nat, 2 ≤ t → t ≤ 8 → ∀ team : Int, 0 ≤ team → team < t → cntT t [] team = 2 * (t - 1) := by
  intro t h2 h8 team h0 ht
  have : ∀ n : Fin 9, 2 ≤ n.val → ∀ m : Fin 8, m.val < n.val → cntT n.val [] (m.val : Int) = 2 * (n.val - 1) := by decide +kernel
  have := this ⟨t, by omega⟩ h2 ⟨team.toNat, by omega⟩ (by simp; omega)
  simp only at this
  rwa [Int.toNat_of_nonneg h0] at this
theorem leftB_snoc (l : List Rs) (k : Nat) (hk : k < l.length) (h a : Int) : leftB (l.take (k + 1)) h a = (leftB (l.take k) h a && !decide ((h, a) = ((l.getD k zR).1, (l.getD k zR).2.1))) := by
  unfold leftB
  rw [hasG_snoc l k hk]
  generalize l.getD k zR = r
  unfold pairR
  obtain ⟨x, y, g, s⟩ := r
  simp only [Prod.mk.injEq, Bool.decide_and]
  rw [show decide (x = h) = decide (h = x) from by congr 1; exact propext ⟨Eq.symm, Eq.symm⟩, show decide (y = a) = decide (a = y) from by congr 1; exact propext ⟨Eq.symm, Eq.symm⟩]
  cases decide (h ≠ a) <;> cases hasG (l.take k) h a <;> simp
theorem cntT_eq (t : Nat) (l : List Rs) (team : Int) : cntT t l team = (prs t).countP fun p => leftB l p.1 p.2 && hasT team p := by
  simp only [cntT, leftL, List.countP_filter]
  apply List.countP_congr
  intro p _
  simp [and_comm]
theorem cnt_step {t : Nat} {l : List Rs} (h8 : t ≤ 8) (k : Nat) (hk : k < l.length) (ok : okAt t l k = true) (team : Int) :
    cntT t (l.take (k + 1)) team + (gamesL (l.take (k + 1)) team).length = cntT t (l.take k) team + (gamesL (l.take k) team).length := by
  rw [gamesL_snoc l team k hk, List.length_append, cntT_eq, cntT_eq]
  simp only [okAt, Bool.and_eq_true] at ok
  obtain ⟨hg, hn⟩ := ok
  obtain ⟨b1, b2, hne, -, -⟩ := goodR_bd hg
  have hs := leftB_snoc l k hk
  generalize l.getD k zR = r at *
  have e : (fun p : Int × Int => leftB (l.take (k + 1)) p.1 p.2 && hasT team p) = fun p => (leftB (l.take k) p.1 p.2 && hasT team p) && !decide (p = (r.1, r.2.1)) := by
    funext p
    rw [hs]
    obtain ⟨p1, p2⟩ := p
    cases leftB (l.take k) p1 p2 <;> cases hasT team (p1, p2) <;> simp
  rw [e]
  have hlb : leftB (l.take k) r.1 r.2.1 = true := by simp only [leftB, hn]; simp [hne]
  by_cases ht : hasT team (r.1, r.2.1) = true
  · have hc := countP_one (fun p : Int × Int => leftB (l.take k) p.1 p.2 && hasT team p) (r.1, r.2.1) (prs t) (prs_nodup t h8) (prs_mem b1 b2) (by simp [hlb, ht])
    have ho : (ownG team r).toList.length = 1 := by
      simp only [hasT, Bool.or_eq_true, decide_eq_true_eq] at ht
      unfold ownG
      by_cases e1 : team = r.1
      · rw [if_pos e1]; rfl
      · rw [if_neg e1, if_pos (by rcases ht with h | h; exact absurd h.symm e1; exact h.symm)]; rfl
    rw [ho]; omega
  · have hc := countP_same (fun p : Int × Int => leftB (l.take k) p.1 p.2 && hasT team p) (r.1, r.2.1) (prs t) (by simp at ht; simp [ht])
    have ho : (ownG team r).toList.length = 0 := by
      simp only [hasT, Bool.or_eq_true, decide_eq_true_eq, not_or] at ht
      unfold ownG
      rw [if_neg (fun e => ht.1 e.symm), if_neg (fun e => ht.2 e.symm)]; rfl
    rw [hc, ho]; rfl
theorem cnt_all {t : Nat} {wn : Int} {l : List Rs} (h : goodL t wn l = true) (team : Int) (h0 : 0 ≤ team) (ht : team < t) : cntT t l team + (gamesL l team).length = 2 * (t - 1) := by
  obtain ⟨t2, t8, -, -, -⟩ := goodL_bd h
  have : ∀ k, k ≤ l.length → cntT t (l.take k) team + (gamesL (l.take k) team).length = 2 * (t - 1) := by
    intro k
    induction k with
    | zero => intro _; simpa [gamesL] using cnt_base t (by omega) (by omega) team h0 ht
    | succ k ih => intro hk; rw [cnt_step (by omega) k (by omega) (goodL_ok h k (by omega)) team]; exact ih (by omega)
  have := this l.length (Nat.le_refl _)
  rwa [List.take_length] at this

/-- a has won some game against b. -/
def beatR (r : Rs) (a b : Int) : Bool := (decide (r.1 = a) && (decide (r.2.1 = b) && decide (r.2.2.1 > r.2.2.2))) || (decide (r.1 = b) && (decide (r.2.1 = a) && decide (r.2.2.2 > r.2.2.1)))
def beatL (l : List Rs) (a b : Int) : Bool := l.any fun r => beatR r a b
def beatO (b : Int) : Option Gm → Bool
  | some g => decide (g.1 = b) && decide (g.2.1 > g.2.2)
  | none => false
def beatG (b : Int) (g : Gm) : Bool := decide (g.1 = b) && decide (g.2.1 > g.2.2)
theorem beat_one {t : Int} {r : Rs} (h : goodR t r = true) (a b : Int) : beatR r a b = beatO b (ownG a r) := by
  obtain ⟨-, -, hne, -, -⟩ := goodR_bd h
  obtain ⟨x, y, g, s⟩ := r
  simp only at hne
  unfold ownG beatR
  simp only
  by_cases e1 : a = x
  · subst e1
    rw [if_pos rfl]
    have f1 : decide (y = a) = false := by simpa using fun e : y = a => hne e.symm
    simp [beatO, f1]
  · rw [if_neg e1]
    by_cases e2 : a = y
    · subst e2
      rw [if_pos rfl]
      have f1 : decide (x = a) = false := by simpa using fun e : x = a => e1 e.symm
      simp [beatO, f1]
    · rw [if_neg e2]
      have f1 : decide (x = a) = false := by simpa using fun e : x = a => e1 e.symm
      have f2 : decide (y = a) = false := by simpa using fun e : y = a => e2 e.symm
      simp [beatO, f1, f2]
theorem beat_eq {t wn : Int} {l : List Rs} (h : goodL t wn l = true) (a b : Int) : beatL l a b = (gamesL l a).any (beatG b) := by
  have : ∀ r ∈ l, beatR r a b = beatO b (ownG a r) := by
    intro r hr
    obtain ⟨k, hk, rfl⟩ := List.getElem_of_mem hr
    have := goodL_get h k hk
    simp [hk] at this
    exact beat_one this a b
  unfold beatL gamesL
  clear h
  induction l with
  | nil => rfl
  | cons r l ih =>
    have ih := ih (fun x hx => this x (List.mem_cons_of_mem _ hx))
    have h0 := this r (List.mem_cons_self ..)
    simp only [List.any_cons, List.filterMap_cons, h0]
    cases ownG a r with
    | none => simp only [beatO, Bool.false_or]; exact ih
    | some g => simp only [List.any_cons, beatO, beatG]; rw [ih]

/-- The points that a has got against b. -/
def dirG (wn b : Int) (g : Gm) : Int := if g.1 = b then ptsG wn g else 0
def dirL (wn b : Int) (gs : List Gm) : Int := (gs.map (dirG wn b)).sum
theorem dirL_snoc (wn b : Int) (gs : List Gm) (g : Gm) : dirL wn b (gs ++ [g]) = dirL wn b gs + dirG wn b g := by simp [dirL]
theorem dirL_bd {wn : Int} (h : 2 ≤ wn ∧ wn ≤ 3) (b : Int) : ∀ gs : List Gm, 0 ≤ dirL wn b gs ∧ dirL wn b gs ≤ 3 * gs.length
  | [] => by simp [dirL]
  | g :: gs => by
    have h1 := dirL_bd h b gs
    have h2 := ptsG_bd h g
    have h3 : 0 ≤ dirG wn b g ∧ dirG wn b g ≤ 3 := by unfold dirG; split <;> omega
    simp only [dirL, List.map_cons, List.sum_cons, List.length_cons] at *
    omega
/-- Of one result, for both: what the model adds. -/
theorem dir_step {t wn : Int} (l : List Rs) (k : Nat) (hk : k < l.length) (hg : goodR t (l.getD k zR) = true) (a b : Int) (hab : a ≠ b) :
    dirL wn b (gamesL (l.take (k + 1)) a) = dirL wn b (gamesL (l.take k) a) + if ((l.getD k zR).1 = a ∧ (l.getD k zR).2.1 = b) ∨ ((l.getD k zR).1 = b ∧ (l.getD k zR).2.1 = a) then addG wn (l.getD k zR).1 (l.getD k zR).2.1 ((l.getD k zR).2.2.1 - (l.getD k zR).2.2.2) a else 0 := by
  rw [gamesL_snoc l a k hk]
  obtain ⟨-, -, hne, -, -⟩ := goodR_bd hg
  generalize l.getD k zR = r at *
  obtain ⟨x, y, g, s⟩ := r
  simp only at hne ⊢
  unfold ownG addG
  by_cases e1 : a = x
  · subst e1
    rw [if_pos rfl]
    simp only [Option.toList]
    rw [dirL_snoc]; unfold dirG ptsG; simp only
    by_cases e3 : y = b
    · rw [if_pos e3, if_pos (Or.inl ⟨trivial, e3⟩), if_pos trivial]
      congr 1
      repeat' split
      all_goals (first | rfl | omega)
    · rw [if_neg e3, if_neg (by rintro (⟨_, h⟩ | ⟨h, _⟩); exact e3 h; exact hab h)]
  · rw [if_neg e1]
    by_cases e2 : a = y
    · subst e2
      rw [if_pos rfl]
      simp only [Option.toList]
      rw [dirL_snoc]; unfold dirG ptsG; simp only
      by_cases e3 : x = b
      · rw [if_pos e3, if_pos (Or.inr ⟨e3, trivial⟩), if_neg e1, if_pos trivial]
        congr 1
        repeat' split
        all_goals (first | rfl | omega)
      · rw [if_neg e3, if_neg (by rintro (⟨h, _⟩ | ⟨h, _⟩); exact e1 h.symm; exact e3 h)]
    · rw [if_neg e2]
      rw [if_neg (by rintro (⟨h, _⟩ | ⟨_, h⟩); exact e1 h.symm; exact e2 h.symm)]
      simp

end Go.Proofs.Ythbkclgdoopbpaa
