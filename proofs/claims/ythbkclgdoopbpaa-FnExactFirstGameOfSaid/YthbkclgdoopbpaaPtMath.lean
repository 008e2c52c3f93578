/-
  Pins, plain facts: in how many ways frames that are left add a number of points.
-/
import Derived.Test.YthbkclgdoopbpaaPnFill
namespace Go.Proofs.Ythbkclgdoopbpaa

/-- How often the balls of the first frame count, by its state. -/
def oneT (s : Nat) : Nat := if s = 0 then 1 else if s = 3 then 3 else 2
def twoT (s : Nat) : Nat := if s < 2 then 1 else 2
/-- All frames that have ended, in order: but the last one; the last one. -/
def rowN (a : Nat) : List (List Nat) := (List.range (11 - a)).map fun b => [a, b]
def frN : List (List Nat) := ((List.range 10).flatMap rowN) ++ [[10]]
def cellL (a b : Nat) : List (List Nat) := if a < 10 ∧ a + b < 10 then [[a, b]] else if a = 10 ∧ b < 10 then (List.range (11 - b)).map fun c => [a, b, c] else (List.range 11).map fun c => [a, b, c]
def rowLa (a : Nat) : List (List Nat) := (List.range (if a = 10 then 11 else 11 - a)).flatMap (cellL a)
def frL : List (List Nat) := (List.range 11).flatMap rowLa
def frs (m : Nat) : List (List Nat) := if m = 0 then frL else frN
/-- What the balls of a frame add. -/
def ptsF (s : Nat) (f : List Nat) : Nat := f.getD 0 0 * oneT s + f.getD 1 0 * twoT s + f.getD 2 0
/-- The state behind a frame. -/
def bhF (s : Nat) (f : List Nat) : Nat := if f = [10] then twoT s + 1 else if f.getD 0 0 ≠ 10 ∧ f.getD 0 0 + f.getD 1 0 = 10 then 1 else 0
/-- One frame's part. -/
def partT (T : Nat → Nat → Nat) (s : Nat) (f : List Nat) (n : Nat) : Nat := if ptsF s f ≤ n then T (bhF s f) (n - ptsF s f) else 0
def sumT (T : Nat → Nat → Nat) (s : Nat) (L : List (List Nat)) (n : Nat) : Nat := (L.map fun f => partT T s f n).sum
/-- In how many ways m frames add n points. -/
def tl : Nat → Nat → Nat → Nat
  | 0, _, n => if n = 0 then 1 else 0
  | m + 1, s, n => sumT (tl m) s (frs m) n
theorem tl_succ (m s n : Nat) : tl (m + 1) s n = sumT (tl m) s (frs m) n := rfl
theorem sumT_nil (T : Nat → Nat → Nat) (s n : Nat) : sumT T s [] n = 0 := rfl
theorem sumT_app (T : Nat → Nat → Nat) (s : Nat) (L M : List (List Nat)) (n : Nat) : sumT T s (L ++ M) n = sumT T s L n + sumT T s M n := by simp [sumT]
theorem sumT_one (T : Nat → Nat → Nat) (s : Nat) (f : List Nat) (n : Nat) : sumT T s [f] n = partT T s f n := by simp [sumT]
theorem frN_len : frN.length = 66 := by decide +kernel
theorem frL_len : frL.length = 241 := by decide +kernel
theorem frs_len (m : Nat) : (frs m).length ≤ 241 := by unfold frs; split <;> simp [frN_len, frL_len]
def okF (m : Nat) (f : List Nat) : Bool := decide (f.getD 0 0 ≤ 10) && (decide (f.getD 1 0 ≤ 10) && (decide (f.getD 2 0 ≤ 10) && (if m = 0 then true else decide (f.getD 2 0 = 0) && (decide (f.getD 0 0 + f.getD 1 0 ≤ 10)))))
theorem frN_ok : ∀ f ∈ frN, okF 1 f = true := by decide +kernel
theorem frL_ok : ∀ f ∈ frL, okF 0 f = true := by decide +kernel
theorem frs_ok {m : Nat} {f : List Nat} (h : f ∈ frs m) : f.getD 0 0 ≤ 10 ∧ f.getD 1 0 ≤ 10 ∧ f.getD 2 0 ≤ 10 ∧ (m ≠ 0 → f.getD 2 0 = 0 ∧ f.getD 0 0 + f.getD 1 0 ≤ 10) := by
  unfold frs at h
  by_cases hm : m = 0
  · rw [if_pos hm] at h
    have := frL_ok f h
    simp only [okF, Bool.and_eq_true, decide_eq_true_eq] at this
    exact ⟨this.1, this.2.1, this.2.2.1, fun h => absurd hm h⟩
  · rw [if_neg hm] at h
    have := frN_ok f h
    simp only [okF, Bool.and_eq_true, decide_eq_true_eq, Nat.succ_ne_zero, if_false] at this
    exact ⟨this.1, this.2.1, this.2.2.1, fun _ => this.2.2.2⟩
theorem bhF_le (s : Nat) (f : List Nat) : bhF s f ≤ 3 := by unfold bhF twoT; split <;> (try split) <;> omega
/-- The most points that m frames add. -/
def topT (m s : Nat) : Nat := if m = 0 then 0 else 30 * m + 10 * (oneT s - 1) + 10 * (twoT s - 1)
theorem st_bd (s : Nat) : 1 ≤ oneT s ∧ oneT s ≤ 3 ∧ 1 ≤ twoT s ∧ twoT s ≤ 2 ∧ twoT s ≤ oneT s := by unfold oneT twoT; split <;> (try split) <;> (try split) <;> omega
theorem ptsF_bd {m s : Nat} {f : List Nat} (h : f ∈ frs m) : ptsF s f ≤ 60 := by
  obtain ⟨h0, h1, h2, -⟩ := frs_ok h
  obtain ⟨s1, s2, s3, s4, -⟩ := st_bd s
  unfold ptsF
  have e1 : f.getD 0 0 * oneT s ≤ 10 * 3 := Nat.mul_le_mul h0 s2
  have e2 : f.getD 1 0 * twoT s ≤ 10 * 2 := Nat.mul_le_mul h1 s4
  omega
theorem step_top {m s : Nat} (hs : s ≤ 3) {f : List Nat} (h : f ∈ frs m) : ptsF s f + topT m (bhF s f) ≤ topT (m + 1) s := by
  obtain ⟨h0, h1, h2, h3⟩ := frs_ok h
  by_cases hm : m = 0
  · subst hm
    unfold topT ptsF
    rw [if_pos rfl, if_neg (by omega)]
    obtain ⟨s1, s2, s3, s4, -⟩ := st_bd s
    have e1 : f.getD 0 0 * oneT s ≤ 10 * oneT s := Nat.mul_le_mul_right _ h0
    have e2 : f.getD 1 0 * twoT s ≤ 10 * twoT s := Nat.mul_le_mul_right _ h1
    omega
  · obtain ⟨h4, h5⟩ := h3 hm
    have hst : s = 0 ∨ s = 1 ∨ s = 2 ∨ s = 3 := by omega
    have e1 : topT m (bhF s f) = 30 * m + 10 * (oneT (bhF s f) - 1) + 10 * (twoT (bhF s f) - 1) := by unfold topT; rw [if_neg hm]
    have e2 : topT (m + 1) s = 30 * (m + 1) + 10 * (oneT s - 1) + 10 * (twoT s - 1) := by unfold topT; rw [if_neg (by omega)]
    rw [e1, e2]; clear e1 e2
    by_cases q1 : f = [10]
    · subst q1
      rcases hst with rfl | rfl | rfl | rfl <;> simp [oneT, twoT, bhF, ptsF] <;> omega
    · have hb : bhF s f = if f.getD 0 0 ≠ 10 ∧ f.getD 0 0 + f.getD 1 0 = 10 then 1 else 0 := by unfold bhF; rw [if_neg q1]
      rw [hb]; clear hb q1 h h3
      unfold ptsF
      generalize f.getD 0 0 = a at *
      generalize f.getD 1 0 = b at *
      generalize f.getD 2 0 = c at *
      by_cases q2 : a ≠ 10 ∧ a + b = 10
      · rw [if_pos q2]
        rcases hst with rfl | rfl | rfl | rfl <;> simp [oneT, twoT] <;> omega
      · rw [if_neg q2]
        rcases hst with rfl | rfl | rfl | rfl <;> simp [oneT, twoT] <;> omega
theorem tl_top : ∀ (m s n : Nat), s ≤ 3 → topT m s < n → tl m s n = 0
  | 0, s, n, _, h => by unfold topT at h; simp at h; simp [tl]; omega
  | m + 1, s, n, hs, h => by
    rw [tl_succ]
    unfold sumT
    have hz : ∀ L : List Nat, (∀ x ∈ L, x = 0) → L.sum = 0 := by
      intro L
      induction L with
      | nil => intro _; rfl
      | cons x L ih =>
        intro h
        rw [List.sum_cons, h x (by simp), ih (fun y hy => h y (by simp [hy]))]
    apply hz
    intro x hx
    obtain ⟨f, hf, rfl⟩ := List.mem_map.1 hx
    unfold partT
    split
    · have := step_top hs hf
      exact tl_top m _ _ (bhF_le s f) (by omega)
    · rfl
/-- No number is too great. -/
def bigT : Nat → Nat
  | 0 => 1
  | m + 1 => (frs m).length * bigT m
theorem sum_le {L : List Nat} {B : Nat} (h : ∀ x ∈ L, x ≤ B) : L.sum ≤ L.length * B := by
  induction L with
  | nil => simp
  | cons x L ih =>
    have h1 := h x (by simp)
    have h2 := ih (fun y hy => h y (by simp [hy]))
    simp only [List.sum_cons, List.length_cons, Nat.succ_mul]
    omega
theorem tl_big : ∀ (m s n : Nat), tl m s n ≤ bigT m
  | 0, s, n => by unfold tl bigT; split <;> omega
  | m + 1, s, n => by
    rw [tl_succ]
    unfold sumT bigT
    have := sum_le (L := (frs m).map fun f => partT (tl m) s f n) (B := bigT m) (fun x hx => by
      obtain ⟨f, hf, rfl⟩ := List.mem_map.1 hx
      unfold partT
      split
      · exact tl_big m _ _
      · exact Nat.zero_le _)
    rwa [List.length_map] at this
theorem sum_part {T : Nat → Nat → Nat} {B s n : Nat} (h : ∀ s n, T s n ≤ B) (L : List (List Nat)) : sumT T s L n ≤ L.length * B := by
  unfold sumT
  have := sum_le (L := L.map fun f => partT T s f n) (B := B) (fun x hx => by
    obtain ⟨f, hf, rfl⟩ := List.mem_map.1 hx
    unfold partT
    split
    · exact h _ _
    · exact Nat.zero_le _)
  rwa [List.length_map] at this
theorem bigT_mono : ∀ m : Nat, bigT m ≤ bigT (m + 1)
  | m => by
    show bigT m ≤ (frs m).length * bigT m
    have : 1 ≤ (frs m).length := by unfold frs; split <;> simp [frN_len, frL_len]
    exact Nat.le_mul_of_pos_left _ this
theorem bigT_10 : bigT 10 ≤ 5800000000000000000 := by
  have e0 : (frs 0).length = 241 := frL_len
  have e : ∀ m, (frs (m + 1)).length = 66 := fun m => frN_len
  simp [bigT, e0, e]
theorem bigT_le {m : Nat} (h : m ≤ 10) : bigT m ≤ 5800000000000000000 := by
  have h2 : ∀ k, bigT m ≤ bigT (m + k) := by
    intro k
    induction k with
    | zero => exact Nat.le_refl _
    | succ k ih => exact Nat.le_trans ih (bigT_mono (m + k))
  have := h2 (10 - m)
  rw [show m + (10 - m) = 10 by omega] at this
  exact Nat.le_trans this bigT_10
end Go.Proofs.Ythbkclgdoopbpaa
