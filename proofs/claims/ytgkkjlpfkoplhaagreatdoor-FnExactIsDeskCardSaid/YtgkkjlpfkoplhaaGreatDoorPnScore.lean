/-
  Pins, plain facts: scores of frames.
-/
import Derived.Test.YtgkkjlpfkoplhaaGreatDoorPnMath
namespace Go.Proofs.YtgkkjlpfkoplhaaGreatDoor.Pn

def begunG (s : St) : List (List Int) := if s.2 = [] then s.1 else s.1 ++ [s.2]
theorem sheet_begun {F : Nat} {s : St} (h : InvG F s) : ∃ k, sheetG F s = begunG s ++ List.replicate k [] := by
  have hl := h.1
  by_cases hF : s.1.length = F
  · have h2 := h.2.2
    rw [if_pos hF] at h2
    exact ⟨0, by simp [sheetG, begunG, h2, hF]⟩
  · obtain ⟨k, hk⟩ : ∃ k, F - s.1.length = k + 1 := ⟨F - s.1.length - 1, by omega⟩
    have e : sheetG F s = s.1 ++ (s.2 :: List.replicate k []) := by
      simp only [sheetG, hk, List.take_succ_cons, List.take_replicate]
      rw [Nat.min_eq_left (by omega)]
    by_cases h2 : s.2 = []
    · refine ⟨k + 1, ?_⟩
      rw [e, begunG, if_pos h2, h2]; rfl
    · refine ⟨k, ?_⟩
      rw [e, begunG, if_neg h2]; simp
theorem begun_ne {F : Nat} {s : St} (h : InvG F s) : ∀ bs ∈ begunG s, bs ≠ [] := by
  have hd : ∀ bs ∈ s.1, bs ≠ [] := by
    intro bs hb
    obtain ⟨i, hi, rfl⟩ := List.getElem_of_mem hb
    have := h.2.1 i hi
    have hx : s.1.getD i [] = s.1[i] := by simp [hi]
    rw [hx] at this
    exact end_ne this
  intro bs hb
  unfold begunG at hb
  split at hb
  · exact hd bs hb
  · rename_i hn
    rcases List.mem_append.1 hb with hb | hb
    · exact hd bs hb
    · simp at hb; subst hb; exact hn
theorem begun_small {F : Nat} {s : St} (h : InvG F s) : ∀ bs ∈ begunG s, smallB bs := by
  have hd : ∀ bs ∈ s.1, smallB bs := by
    intro bs hb
    obtain ⟨i, hi, rfl⟩ := List.getElem_of_mem hb
    have := h.2.1 i hi
    have hx : s.1.getD i [] = s.1[i] := by simp [hi]
    rw [hx] at this
    exact small_end this
  intro bs hb
  unfold begunG at hb
  split at hb
  · exact hd bs hb
  · rename_i hn
    rcases List.mem_append.1 hb with hb | hb
    · exact hd bs hb
    · simp at hb; subst hb
      by_cases hF : s.1.length = F
      · have h2 := h.2.2
        rw [if_pos hF] at h2; exact absurd h2 hn
      · exact small_open (inv_open h (by simp [overG]; omega))
theorem begun_len {F : Nat} {s : St} (h : InvG F s) : (begunG s).length ≤ F := by
  obtain ⟨k, hk⟩ := sheet_begun h
  have := sheet_len h.1
  rw [hk] at this
  simp at this; omega
theorem begun_step {F : Nat} {s : St} {p : Int} : begunG (stepG F s p) = s.1 ++ [s.2 ++ [p]] := by
  unfold stepG begunG
  split
  · simp
  · simp
theorem sheet_filter {F : Nat} {s : St} (h : InvG F s) : (sheetG F s).filter (fun bs => decide (bs ≠ [])) = begunG s := by
  obtain ⟨k, hk⟩ := sheet_begun h
  rw [hk, List.filter_append]
  have h1 : (List.replicate k ([] : List Int)).filter (fun bs => decide (bs ≠ [])) = [] := by
    apply List.filter_eq_nil_iff.2
    intro a ha
    have := List.eq_of_mem_replicate ha
    simp [this]
  have h2 : (begunG s).filter (fun bs => decide (bs ≠ [])) = begunG s := by
    apply List.filter_eq_self.2
    intro a ha
    simpa using begun_ne h a ha
  rw [h1, h2, List.append_nil]

def rollsG (s : St) : List Int := s.1.flatten ++ s.2
theorem rolls_begun (s : St) : (begunG s).flatten = rollsG s := by
  unfold begunG rollsG
  split
  · rename_i h; simp [h]
  · simp
theorem rolls_step (F : Nat) (s : St) (p : Int) : rollsG (stepG F s p) = rollsG s ++ [p] := by
  rw [← rolls_begun, begun_step]; simp [rollsG]
theorem game_rolls {F : Nat} : ∀ (l : List Int) (s t : St), gameG F s l = some t → rollsG t = rollsG s ++ l
  | [], s, t, h => by simp [gameG] at h; subst h; simp
  | p :: l, s, t, h => by
    simp only [gameG] at h
    split at h
    · have := game_rolls l _ t h
      rw [this, rolls_step]; simp
    · cases h
theorem game_inv {F : Nat} : ∀ (l : List Int) (s t : St), InvG F s → gameG F s l = some t → InvG F t
  | [], s, t, hi, h => by simp [gameG] at h; subst h; exact hi
  | p :: l, s, t, hi, h => by
    simp only [gameG] at h
    split at h
    · rename_i hf; exact game_inv l _ t (inv_step hi hf) h
    · cases h
theorem game_append {F : Nat} : ∀ (l m : List Int) (s : St), gameG F s (l ++ m) = (gameG F s l).bind fun t => gameG F t m
  | [], m, s => by simp [gameG]
  | p :: l, m, s => by
    simp only [List.cons_append, gameG]
    split
    · exact game_append l m _
    · rfl
theorem game_fits {F : Nat} : ∀ (l : List Int) (s t : St), gameG F s l = some t → ∀ x ∈ l, 0 ≤ x ∧ x ≤ 10
  | [], _, _, _ => by simp
  | p :: l, s, t, h => by
    simp only [gameG] at h
    split at h
    · rename_i hf
      obtain ⟨_, h0, h1⟩ := fits_parts hf
      have := leftP_bd s.2
      intro x hx
      rcases List.mem_cons.1 hx with rfl | hx
      · omega
      · exact game_fits l _ t h x hx
    · cases h
theorem flat_len {F : Nat} {s : St} (h : InvG F s) : (rollsG s).length ≤ 3 * F := by
  rw [← rolls_begun]
  have h1 := begun_small h
  have h2 := begun_len h
  have : ∀ L : List (List Int), (∀ bs ∈ L, smallB bs) → L.flatten.length ≤ 3 * L.length := by
    intro L
    induction L with
    | nil => simp
    | cons b L ih =>
      intro hh
      have := (hh b (by simp)).1
      have := ih (fun x hx => hh x (by simp [hx]))
      simp only [List.flatten_cons, List.length_append, List.length_cons]; omega
  have := this _ h1
  omega

def scoreL : List (List Int) → List Int → List Int
  | [], _ => []
  | bs :: fs, rest => if rest.length < cntF bs then [] else (rest.take (cntF bs)).sum :: scoreL fs (rest.drop bs.length)
theorem score_nil (k : Nat) : scoreL (List.replicate k []) [] = [] := by
  cases k with
  | zero => rfl
  | succ k =>
    rw [List.replicate_succ, scoreL, if_pos]
    simp only [List.length_nil, cntF]; split <;> omega
theorem score_pad : ∀ (A : List (List Int)) (k : Nat), scoreL (A ++ List.replicate k []) A.flatten = scoreL A A.flatten
  | [], k => by simpa [scoreL] using score_nil k
  | bs :: A, k => by
    simp only [List.cons_append, scoreL, List.flatten_cons, List.drop_left]
    rw [score_pad A k]
def scoresG (s : St) : List Int := scoreL (begunG s) (rollsG s)
theorem scores_sheet {F : Nat} {s : St} (h : InvG F s) : scoreL (sheetG F s) (rollsG s) = scoresG s := by
  obtain ⟨k, hk⟩ := sheet_begun h
  rw [hk, ← rolls_begun, score_pad]
  simp [scoresG, rolls_begun]
theorem cntF_bd (bs : List Int) : 2 ≤ cntF bs ∧ cntF bs ≤ 3 := by unfold cntF; split <;> omega
theorem score_step {L : List (List Int)} {R : List Int} {k from' : Nat} (hk : k < L.length) (hf : from' ≤ R.length) :
    scoreL (L.drop k) (R.drop from') = if R.length < from' + cntF (L.getD k []) then [] else ((R.drop from').take (cntF (L.getD k []))).sum :: scoreL (L.drop (k + 1)) (R.drop (from' + (L.getD k []).length)) := by
  rw [List.drop_eq_getElem_cons hk, scoreL]
  have : L.getD k [] = L[k] := by simp [hk]
  rw [this, List.length_drop, List.drop_drop]
  by_cases h : R.length - from' < cntF L[k]
  · rw [if_pos h, if_pos (by omega)]
  · rw [if_neg h, if_neg (by omega)]
/-- The last frame, open: its score is not known. -/
theorem score_open {F : Nat} {s : St} (h : InvG F s) (ho : overG F s = false) (hk : F - 1 < (begunG s).length) (hF : 1 ≤ F) : (rollsG s).length < ((begunG s).take (F - 1)).flatten.length + cntF ((begunG s).getD (F - 1) []) := by
  have hl := h.1
  have hop := inv_open h ho
  simp [overG] at ho
  unfold begunG at hk ⊢
  by_cases h2 : s.2 = []
  · rw [if_pos h2] at hk; omega
  · rw [if_neg h2] at hk ⊢
    simp at hk
    have hd : s.1.length = F - 1 := by omega
    have hlast : lastG F s = true := by simp [lastG]; omega
    rw [hlast] at hop
    have hn := open_not hop
    simp only [inF, if_true] at hn
    have e1 : (s.1 ++ [s.2]).getD (F - 1) [] = s.2 := by rw [getD_snoc]; simp [← hd]
    have e2 : (s.1 ++ [s.2]).take (F - 1) = s.1 := by rw [← hd]; simp
    rw [e1, e2]
    simp only [rollsG, List.length_append]; omega
theorem take_flat : ∀ (L : List (List Int)) (k : Nat), k < L.length → (L.take (k + 1)).flatten.length = (L.take k).flatten.length + (L.getD k []).length
  | b :: L, 0, _ => by simp
  | b :: L, k + 1, h => by
    have := take_flat L k (by simpa using h)
    simp only [List.take_succ_cons, List.flatten_cons, List.length_append, List.getD_cons_succ] at *
    omega
theorem take_flat_le (L : List (List Int)) (k : Nat) : (L.take k).flatten.length ≤ L.flatten.length := by
  have : L.flatten = (L.take k).flatten ++ (L.drop k).flatten := by rw [← List.flatten_append, List.take_append_drop]
  rw [this]; simp
theorem sum_take_bd : ∀ (R : List Int) (k : Nat), (∀ x ∈ R, 0 ≤ x ∧ x ≤ 10) → 0 ≤ (R.take k).sum ∧ (R.take k).sum ≤ 10 * (k : Int)
  | [], k, _ => by simp; omega
  | a :: R, 0, _ => by simp
  | a :: R, k + 1, h => by
    have h1 := h a (by simp)
    have := sum_take_bd R k (fun x hx => h x (by simp [hx]))
    simp only [List.take_succ_cons, List.sum_cons]; omega
theorem score_bd : ∀ (L : List (List Int)) (R : List Int), (∀ x ∈ R, 0 ≤ x ∧ x ≤ 10) → ∀ x ∈ scoreL L R, 0 ≤ x ∧ x ≤ 30
  | [], R, _ => by simp [scoreL]
  | bs :: L, R, h => by
    intro x hx
    simp only [scoreL] at hx
    split at hx
    · cases hx
    · rcases List.mem_cons.1 hx with rfl | hx
      · have := sum_take_bd R (cntF bs) h
        have := cntF_bd bs
        omega
      · exact score_bd L _ (fun y hy => h y (List.mem_of_mem_drop hy)) x hx
theorem score_len : ∀ (L : List (List Int)) (R : List Int), (scoreL L R).length ≤ L.length
  | [], R => by simp [scoreL]
  | bs :: L, R => by
    simp only [scoreL]
    split
    · simp
    · have := score_len L (R.drop bs.length)
      simp; omega
def bd30 (l : List Int) : Prop := l.length ≤ 30 ∧ ∀ x ∈ l, 0 ≤ x ∧ x ≤ 30
theorem sum_bd30 : ∀ (l : List Int), (∀ x ∈ l, 0 ≤ x ∧ x ≤ 30) → 0 ≤ l.sum ∧ l.sum ≤ 30 * (l.length : Int)
  | [], _ => by simp
  | a :: l, h => by
    have h1 := h a (by simp)
    have := sum_bd30 l (fun x hx => h x (by simp [hx]))
    simp only [List.sum_cons, List.length_cons]; omega
theorem scores_bd30 {F : Nat} {s : St} (h : InvG F s) (hF : F ≤ 10) (hr : ∀ x ∈ rollsG s, 0 ≤ x ∧ x ≤ 10) : bd30 (scoresG s) := by
  refine ⟨?_, score_bd _ _ hr⟩
  have := score_len (begunG s) (rollsG s)
  have := begun_len h
  unfold scoresG; omega
end Go.Proofs.YtgkkjlpfkoplhaaGreatDoor.Pn
