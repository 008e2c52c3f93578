/-
  Pins, plain facts: the first game ball by ball is the first game frame by frame.
-/
import Derived.Test.YthbkclgdoopbpaaPtFg
namespace Go.Proofs.Ythbkclgdoopbpaa
set_option linter.unusedVariables false
set_option linter.unusedSimpArgs false

def toN (bs : List Int) : List Nat := bs.map Int.toNat
theorem toN_bsI (f : List Nat) : toN (bsI f) = f := by
  unfold toN bsI
  rw [List.map_map]
  conv => rhs; rw [← List.map_id f]
  exact List.map_congr_left fun x _ => by simp
/-- The frames that begin so and have ended, m frames behind them. -/
def exN (m : Nat) (bs : List Int) : List (List Int) := endN (decide (m = 0)) (3 - bs.length) bs
theorem exN_nil (m : Nat) : exN m [] = (frs m).map bsI := by
  unfold exN frs
  by_cases h : m = 0
  · rw [decide_eq_true h, if_pos h]; exact endN_frs.2
  · rw [decide_eq_false h, if_neg h]; exact endN_frs.1
/-- In how many ways the frame and what is behind it add n points, the balls bs rolled. -/
def wyI (m s : Nat) (bs : List Int) (n : Nat) : Nat := ((exN m bs).map fun e => partT (tl m) s (toN e) n).sum
theorem wyI_nil (m s n : Nat) : wyI m s [] n = tl (m + 1) s n := by
  unfold wyI
  rw [exN_nil, tl_succ]
  unfold sumT
  rw [List.map_map]
  congr 1
  exact List.map_congr_left fun f _ => by simp [toN_bsI]
theorem exN_open {m : Nat} {bs : List Int} (h : openB (decide (m = 0)) bs) : exN m bs = (List.range (leftP bs + 1).toNat).flatMap fun (p : Nat) => exN m (bs ++ [(p : Int)]) := by
  have hl := open_len h
  have h1 := leftP_bd bs
  have h2 := stF_open h
  unfold exN
  rw [show 3 - bs.length = (2 - bs.length) + 1 by omega]
  conv => lhs; unfold endN
  rw [h2, if_neg (by omega)]
  congr 1
  funext p
  rw [List.length_append, List.length_singleton, show 3 - (bs.length + 1) = 2 - bs.length by omega]
theorem exN_end {m : Nat} {bs : List Int} (h : endB (decide (m = 0)) bs) : exN m bs = [bs] := by
  unfold exN
  generalize 3 - bs.length = k
  cases k with
  | zero => rfl
  | succ k => unfold endN; rw [stF_end h, if_pos rfl]
theorem wyI_end {m s : Nat} {bs : List Int} (h : endB (decide (m = 0)) bs) (n : Nat) : wyI m s bs n = partT (tl m) s (toN bs) n := by
  unfold wyI; rw [exN_end h]; simp
def wyK (m s : Nat) (bs : List Int) (k n : Nat) : Nat := ((List.range k).map fun (p : Nat) => wyI m s (bs ++ [(p : Int)]) n).sum
theorem sum_flat (f : List Int → Nat) : ∀ (L : List Nat) (g : Nat → List (List Int)), ((L.flatMap g).map f).sum = (L.map fun p => ((g p).map f).sum).sum
  | [], g => rfl
  | x :: L, g => by
    rw [List.flatMap_cons, List.map_append, List.sum_append, sum_flat f L g]; simp
theorem wyI_open {m s : Nat} {bs : List Int} (h : openB (decide (m = 0)) bs) (n : Nat) : wyI m s bs n = wyK m s bs (leftP bs + 1).toNat n := by
  unfold wyK wyI
  rw [exN_open h, sum_flat]
theorem wyK_succ (m s : Nat) (bs : List Int) (k n : Nat) : wyK m s bs (k + 1) n = wyK m s bs k n + wyI m s (bs ++ [(k : Int)]) n := by
  unfold wyK; rw [List.range_succ, List.map_append, List.sum_append]; simp
/-- The first of them with which the points can be added. -/
def ffI (m s p : Nat) (bs : List Int) : Option (List Int) := (exN m bs).find? fun e => okFf m s p (toN e)
theorem ffI_nil (m s p : Nat) : ffI m s p [] = (ffO m s p).map bsI := by
  unfold ffI ffO
  rw [exN_nil, List.find?_map]
  congr 1
  congr 1
  funext f
  simp [toN_bsI]
theorem part_ok {m s p : Nat} {f : List Nat} : 0 < partT (tl m) s f p ↔ okFf m s p f = true := by
  unfold partT okFf
  by_cases h : ptsF s f ≤ p
  · rw [if_pos h, decide_eq_true h]; simp
  · rw [if_neg h, decide_eq_false h]; simp
theorem sum_zero {L : List Nat} : L.sum = 0 ↔ ∀ x ∈ L, x = 0 := by
  induction L with
  | nil => simp
  | cons x L ih => simp [ih]
theorem wyI_zero {m s p : Nat} {bs : List Int} : wyI m s bs p = 0 ↔ ffI m s p bs = none := by
  unfold wyI ffI
  rw [sum_zero, List.find?_eq_none]
  constructor
  · intro h e he hk
    have h1 := h _ (List.mem_map_of_mem (f := fun e => partT (tl m) s (toN e) p) he)
    have h2 := part_ok.2 hk
    omega
  · intro h x hx
    obtain ⟨e, he, rfl⟩ := List.mem_map.1 hx
    have h1 := h e he
    have h2 := mt part_ok.1 h1
    omega
theorem find_flat {α : Type} {P : α → Bool} {g : Nat → List α} : ∀ (n k : Nat), k < n → (∀ j, j < k → (g j).find? P = none) → (g k).find? P ≠ none → ((List.range n).flatMap g).find? P = (g k).find? P := by
  intro n k hk h1 h2
  have h3 : ∀ k, (∀ j, j < k → (g j).find? P = none) → ((List.range k).flatMap g).find? P = none := by
    intro k h
    rw [List.find?_eq_none]
    intro x hx
    obtain ⟨j, hj, hx⟩ := List.mem_flatMap.1 hx
    exact List.find?_eq_none.1 (h j (List.mem_range.1 hj)) x hx
  have e : n = k + (1 + (n - k - 1)) := by omega
  rw [e, List.range_add, List.flatMap_append, List.find?_append, h3 k h1, Option.none_or]
  rw [Nat.add_comm 1, List.range_succ_eq_map]
  simp only [List.map_cons, List.flatMap_cons, List.find?_append, Nat.add_zero]
  cases hq : (g k).find? P with
  | none => exact absurd hq h2
  | some x => rfl
/-- The least ball behind which the points can be added still. -/
theorem ffI_step {m s p k : Nat} {bs : List Int} (h : openB (decide (m = 0)) bs) (hk : (k : Int) ≤ leftP bs) (h1 : ∀ j, j < k → wyI m s (bs ++ [(j : Int)]) p = 0) (h2 : 0 < wyI m s (bs ++ [(k : Int)]) p) : ffI m s p (bs ++ [(k : Int)]) = ffI m s p bs := by
  have h3 := leftP_bd bs
  have e : ffI m s p bs = ((List.range (leftP bs + 1).toNat).flatMap fun (p : Nat) => exN m (bs ++ [(p : Int)])).find? fun e => okFf m s p (toN e) := by
    unfold ffI; rw [exN_open h]
  rw [e, find_flat (P := fun e => okFf m s p (toN e)) (g := fun (p : Nat) => exN m (bs ++ [(p : Int)])) _ k (by omega) (fun j hj => wyI_zero.1 (h1 j hj)) (fun q => by
    have := wyI_zero.2 q
    omega)]
  rfl
theorem ffI_end {m s p : Nat} {bs : List Int} (h : endB (decide (m = 0)) bs) (h2 : 0 < wyI m s bs p) : ffI m s p bs = some bs := by
  unfold ffI
  rw [exN_end h]
  rw [wyI_end h] at h2
  have := part_ok.1 h2
  simp [this]
theorem wyI_some {m s p : Nat} {bs : List Int} (h : openB (decide (m = 0)) bs) (h2 : 0 < wyI m s bs p) : ∃ k : Nat, (k : Int) ≤ leftP bs ∧ 0 < wyI m s (bs ++ [(k : Int)]) p ∧ ∀ j, j < k → wyI m s (bs ++ [(j : Int)]) p = 0 := by
  have h3 := leftP_bd bs
  rw [wyI_open h] at h2
  have h4 : ∀ n, 0 < wyK m s bs n p → ∃ k, k < n ∧ 0 < wyI m s (bs ++ [(k : Int)]) p ∧ ∀ j, j < k → wyI m s (bs ++ [(j : Int)]) p = 0 := by
    intro n
    induction n with
    | zero => intro h; simp [wyK] at h
    | succ n ih =>
      intro h
      rw [wyK_succ] at h
      by_cases hz : wyK m s bs n p = 0
      · refine ⟨n, by omega, by omega, fun j hj => ?_⟩
        have := sum_zero.1 hz
        exact this _ (List.mem_map_of_mem (f := fun (q : Nat) => wyI m s (bs ++ [(q : Int)]) p) (List.mem_range.2 hj))
      · obtain ⟨k, hk, hr⟩ := ih (by omega)
        exact ⟨k, by omega, hr⟩
  obtain ⟨k, hk, hr⟩ := h4 _ h2
  exact ⟨k, by omega, hr⟩
theorem gmF_some : ∀ (m s p : Nat), (gmF m s p).isSome = true → 0 < m → 0 < tl m s p
  | 0, _, _, _, h => by omega
  | m + 1, s, p, h, _ => by
    cases hf : ffO m s p with
    | none => simp [gmF, hf] at h
    | some f =>
      rw [← wyI_nil]
      refine Nat.pos_of_ne_zero (fun e => ?_)
      have := wyI_zero.1 e
      rw [ffI_nil, hf] at this
      cases this
theorem tl_gmF : ∀ (m s p : Nat), 0 < tl m s p → (gmF m s p).isSome = true
  | 0, _, _, _ => rfl
  | m + 1, s, p, h => by
    cases hf : ffO m s p with
    | none =>
      exfalso
      have e : ffI m s p [] = none := by rw [ffI_nil, hf]; rfl
      have := wyI_zero.2 e
      rw [wyI_nil] at this
      omega
    | some f =>
      obtain ⟨-, -, h3⟩ := ff_mem hf
      have := tl_gmF m _ _ h3
      simp only [gmF, hf]
      simpa using this
/-- What the balls of a frame that begins so add. -/
theorem exN_pre {last : Bool} : ∀ (k : Nat) (bs e : List Int), e ∈ endN last k bs → ∃ t, e = bs ++ t
  | 0, bs, e, h => ⟨[], by simp [endN] at h; simp [h]⟩
  | k + 1, bs, e, h => by
    unfold endN at h
    split at h
    · simp at h; exact ⟨[], by simp [h]⟩
    · obtain ⟨p, -, hp⟩ := List.mem_flatMap.1 h
      obtain ⟨t, rfl⟩ := exN_pre k _ _ hp
      exact ⟨(p : Int) :: t, by simp⟩
theorem getD_pre (f t : List Nat) (i : Nat) : f.getD i 0 ≤ (f ++ t).getD i 0 := by
  rw [List.getD_eq_getElem?_getD, List.getD_eq_getElem?_getD]
  by_cases h : i < f.length
  · rw [List.getElem?_append_left h]; exact Nat.le_refl _
  · rw [List.getElem?_eq_none (by omega)]; simp
theorem pts_pre (s : Nat) (f t : List Nat) : ptsF s f ≤ ptsF s (f ++ t) := by
  unfold ptsF
  have h0 := Nat.mul_le_mul_right (oneT s) (getD_pre f t 0)
  have h1 := Nat.mul_le_mul_right (twoT s) (getD_pre f t 1)
  have h2 := getD_pre f t 2
  omega
theorem wyI_small {m s n : Nat} {bs : List Int} (h : n < ptsF s (toN bs)) : wyI m s bs n = 0 := by
  unfold wyI
  rw [sum_zero]
  intro x hx
  obtain ⟨e, he, rfl⟩ := List.mem_map.1 hx
  obtain ⟨t, rfl⟩ := exN_pre _ _ _ he
  have h1 := pts_pre s (toN bs) (toN t)
  unfold partT
  rw [show toN (bs ++ t) = toN bs ++ toN t by simp [toN], if_neg (by omega)]
theorem wyK_le {m s : Nat} {bs : List Int} (h : openB (decide (m = 0)) bs) {k : Nat} (hk : (k : Int) ≤ leftP bs + 1) (n : Nat) : wyK m s bs k n ≤ wyI m s bs n := by
  rw [wyI_open h]
  have hm : ∀ d, wyK m s bs k n ≤ wyK m s bs (k + d) n := by
    intro d
    induction d with
    | zero => exact Nat.le_refl _
    | succ d ih => rw [← Nat.add_assoc, wyK_succ]; omega
  have h3 := leftP_bd bs
  have := hm ((leftP bs + 1).toNat - k)
  rwa [show k + ((leftP bs + 1).toNat - k) = (leftP bs + 1).toNat by omega] at this
theorem wyI_le {m s : Nat} {bs : List Int} (h : openB (decide (m = 0)) bs) {k : Nat} (hk : (k : Int) ≤ leftP bs) (n : Nat) : wyI m s (bs ++ [(k : Int)]) n ≤ wyI m s bs n := by
  have h1 := wyK_le (s := s) h (k := k + 1) (by push_cast; omega) n
  rw [wyK_succ] at h1
  omega
/-- How often the next ball counts. -/
def oneB (s : Nat) (bs : List Int) : Nat := if bs.length = 0 then oneT s else if bs.length = 1 then twoT s else 1
theorem pts_next (s : Nat) {bs : List Int} (h : bs.length ≤ 2) (k : Nat) : ptsF s (toN (bs ++ [(k : Int)])) = ptsF s (toN bs) + k * oneB s bs := by
  match bs, h with
  | [], _ => simp [toN, ptsF, oneB]
  | [x], _ => simp [toN, ptsF, oneB]
  | [x, y], _ => simp [toN, ptsF, oneB]
theorem wy_end {m s : Nat} {bs : List Int} (h : endB (decide (m = 0)) bs) : (fun n => wyI m s bs (n + ptsF s (toN bs))) = tl m (bhF s (toN bs)) := by
  funext n
  rw [wyI_end h]
  unfold partT
  rw [if_pos (by omega), show n + ptsF s (toN bs) - ptsF s (toN bs) = n by omega]
end Go.Proofs.Ythbkclgdoopbpaa
