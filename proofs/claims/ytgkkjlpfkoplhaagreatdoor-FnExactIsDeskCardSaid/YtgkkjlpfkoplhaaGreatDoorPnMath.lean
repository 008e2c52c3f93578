/-
  Pins, plain facts: frames as lists of balls, games as what is done and what is open.
-/
namespace Go.Proofs.YtgkkjlpfkoplhaaGreatDoor.Pn

def strikeB (bs : List Int) : Bool := bs.getD 0 (-1) == 10
def spareB (bs : List Int) : Bool := !strikeB bs && (bs.getD 0 (-1) + bs.getD 1 (-1) == 10)
def cntF (bs : List Int) : Nat := if strikeB bs || spareB bs then 3 else 2
def inF (last : Bool) (bs : List Int) : Nat := if last then cntF bs else if strikeB bs then 1 else 2
def leftP (bs : List Int) : Int := 10 - bs.sum % 10
def stF (last : Bool) (bs : List Int) : Int := if bs.length = inF last bs then 0 else leftP bs
def endedF (last : Bool) (bs : List Int) : Bool := decide (bs.length = inF last bs)

/-- A frame in which there is a ball left. -/
def openB (last : Bool) : List Int → Prop
  | [] => True
  | [a] => 0 ≤ a ∧ (if last then a ≤ 10 else a < 10)
  | [a, b] => last = true ∧ 0 ≤ a ∧ a ≤ 10 ∧ 0 ≤ b ∧ b ≤ 10 ∧ (a = 10 ∨ a + b = 10)
  | _ => False
/-- A frame that has ended. -/
def endB (last : Bool) : List Int → Prop
  | [a] => last = false ∧ a = 10
  | [a, b] => 0 ≤ a ∧ a < 10 ∧ 0 ≤ b ∧ (if last then a + b < 10 else a + b ≤ 10)
  | [a, b, c] => last = true ∧ 0 ≤ a ∧ 0 ≤ b ∧ b ≤ 10 ∧ 0 ≤ c ∧ c ≤ 10 ∧ ((a = 10 ∧ (b < 10 → b + c ≤ 10)) ∨ (a < 10 ∧ a + b = 10))
  | _ => False

def smallB (bs : List Int) : Prop := bs.length ≤ 3 ∧ ∀ x ∈ bs, 0 ≤ x ∧ x ≤ 10

theorem small_open {last : Bool} {bs : List Int} (h : openB last bs) : smallB bs := by
  match bs, h with
  | [], _ => exact ⟨by simp, by simp⟩
  | [a], h => simp only [openB] at h; cases last <;> simp at h <;> exact ⟨by simp, by simp; omega⟩
  | [a, b], h => simp only [openB] at h; exact ⟨by simp, by simp; omega⟩
theorem small_end {last : Bool} {bs : List Int} (h : endB last bs) : smallB bs := by
  match bs, h with
  | [a], h => simp only [endB] at h; exact ⟨by simp, by simp; omega⟩
  | [a, b], h => simp only [endB] at h; cases last <;> simp at h <;> exact ⟨by simp, by simp; omega⟩
  | [a, b, c], h => simp only [endB] at h; exact ⟨by simp, by simp; omega⟩
theorem end_ne {last : Bool} {bs : List Int} (h : endB last bs) : bs ≠ [] := by
  match bs, h with
  | [a], _ => simp
  | [a, b], _ => simp
  | [a, b, c], _ => simp
theorem end_len {last : Bool} {bs : List Int} (h : endB last bs) : 1 ≤ bs.length := by
  match bs, h with
  | [a], _ => simp
  | [a, b], _ => simp
  | [a, b, c], _ => simp
theorem end_ended {last : Bool} {bs : List Int} (h : endB last bs) : bs.length = inF last bs := by
  match bs, h with
  | [a], h => obtain ⟨rfl, rfl⟩ := h; rfl
  | [a, b], h =>
    simp only [endB] at h
    have h10 : (a == 10) = false := by simp; omega
    cases last
    · simp [inF, strikeB, h10]
    · simp at h
      have : (a + b == 10) = false := by simp; omega
      simp [inF, cntF, strikeB, spareB, h10, this]
  | [a, b, c], h =>
    simp only [endB] at h
    obtain ⟨rfl, h1, h2, h3, h4, h5, h | ⟨h, h6⟩⟩ := h
    · simp [inF, cntF, strikeB, spareB, h.1]
    · simp [inF, cntF, strikeB, spareB, h6]
theorem open_not {last : Bool} {bs : List Int} (h : openB last bs) : bs.length < inF last bs := by
  match bs, h with
  | [], _ => cases last <;> decide
  | [a], h =>
    simp only [openB] at h
    cases last
    · simp at h
      have : (a == 10) = false := by simp; omega
      simp [inF, strikeB, this]
    · simp [inF, cntF]; split <;> omega
  | [a, b], h =>
    simp only [openB] at h
    obtain ⟨rfl, h1, h2, h3, h4, rfl | h5⟩ := h
    · simp [inF, cntF, strikeB, spareB]
    · simp [inF, cntF, strikeB, spareB, h5]
theorem stF_end {last : Bool} {bs : List Int} (h : endB last bs) : stF last bs = 0 := by simp [stF, end_ended h]
theorem stF_open {last : Bool} {bs : List Int} (h : openB last bs) : stF last bs = leftP bs := by
  have := open_not h
  simp [stF]; omega
theorem leftP_bd (bs : List Int) : 1 ≤ leftP bs ∧ leftP bs ≤ 10 := by unfold leftP; omega
theorem sum_bd {bs : List Int} (h : smallB bs) : 0 ≤ bs.sum ∧ bs.sum ≤ 30 := by
  match bs, h with
  | [], _ => simp
  | [a], h => have := h.2; simp at this ⊢; omega
  | [a, b], h => have := h.2; simp at this ⊢; omega
  | [a, b, c], h => have := h.2; simp at this ⊢; omega

theorem step_end {last : Bool} {bs : List Int} {p : Int} (h : openB last bs) (h0 : 0 ≤ p) (h1 : p ≤ leftP bs) (he : endedF last (bs ++ [p]) = true) : endB last (bs ++ [p]) := by
  simp only [endedF, decide_eq_true_eq] at he
  match bs, h with
  | [], _ =>
    cases last
    · simp [inF, strikeB] at he
      have : p = 10 := by
        by_cases hp : p = 10
        · exact hp
        · simp [hp] at he
      exact ⟨rfl, this⟩
    · simp [inF, cntF] at he; split at he <;> omega
  | [a], h =>
    simp only [openB] at h
    simp [leftP] at h1
    cases last
    · simp at h
      refine ⟨h.1, h.2, h0, ?_⟩
      simp; omega
    · simp at h
      simp [inF, cntF, strikeB, spareB] at he
      have hn : ¬ a = 10 := by intro hh; simp [hh] at he
      have hs : ¬ a + p = 10 := by intro hh; simp [hh] at he
      refine ⟨h.1, by omega, h0, ?_⟩
      simp; omega
  | [a, b], h =>
    simp only [openB] at h
    simp [leftP] at h1
    obtain ⟨rfl, h2, h3, h4, h5, h6⟩ := h
    refine ⟨rfl, h2, h4, h5, h0, by omega, ?_⟩
    omega

theorem step_open {last : Bool} {bs : List Int} {p : Int} (h : openB last bs) (h0 : 0 ≤ p) (h1 : p ≤ leftP bs) (he : endedF last (bs ++ [p]) = false) : openB last (bs ++ [p]) := by
  simp only [endedF, decide_eq_false_iff_not] at he
  match bs, h with
  | [], _ =>
    simp [leftP] at h1
    refine ⟨h0, ?_⟩
    cases last
    · simp [inF, strikeB] at he
      simp; have : ¬ p = 10 := by intro hh; simp [hh] at he
      omega
    · simp; omega
  | [a], h =>
    simp only [openB] at h
    simp [leftP] at h1
    cases last
    · simp at h
      have : (a == 10) = false := by simp; omega
      simp [inF, strikeB, this] at he
    · simp at h
      simp [inF, cntF, strikeB, spareB] at he
      refine ⟨rfl, h.1, h.2, h0, by omega, ?_⟩
      by_cases h10 : a = 10
      · exact .inl h10
      · by_cases hs : a + p = 10
        · exact .inr hs
        · simp [h10, hs] at he
  | [a, b], h =>
    simp only [openB] at h
    obtain ⟨rfl, h2, h3, h4, h5, h6⟩ := h
    exfalso; apply he
    rcases h6 with rfl | h6
    · simp [inF, cntF, strikeB, spareB]
    · simp [inF, cntF, strikeB, spareB, h6]

/-- What somebody has rolled: frames that have ended, and the balls of the one that is open. -/
abbrev St := List (List Int) × List Int
def lastG (F : Nat) (s : St) : Bool := decide (s.1.length + 1 = F)
def stepG (F : Nat) (s : St) (p : Int) : St := if endedF (lastG F s) (s.2 ++ [p]) then (s.1 ++ [s.2 ++ [p]], []) else (s.1, s.2 ++ [p])
def overG (F : Nat) (s : St) : Bool := decide (s.1.length = F)
def fitsG (F : Nat) (s : St) (p : Int) : Bool := !overG F s && decide (0 ≤ p) && decide (p ≤ leftP s.2)
def gameG (F : Nat) : St → List Int → Option St
  | s, [] => some s
  | s, p :: l => if fitsG F s p then gameG F (stepG F s p) l else none
def InvG (F : Nat) (s : St) : Prop :=
  s.1.length ≤ F ∧ (∀ i, i < s.1.length → endB (decide (i + 1 = F)) (s.1.getD i [])) ∧ (if s.1.length = F then s.2 = [] else openB (lastG F s) s.2)
theorem inv_start {F : Nat} (h : 1 ≤ F) : InvG F ([], []) := by
  refine ⟨by simp, by simp, ?_⟩
  have : ¬ (0 = F) := by omega
  simp [this, openB]
theorem inv_open {F : Nat} {s : St} (h : InvG F s) (ho : overG F s = false) : openB (lastG F s) s.2 := by
  have := h.2.2
  simp [overG] at ho
  rw [if_neg ho] at this; exact this
theorem fits_parts {F : Nat} {s : St} {p : Int} (h : fitsG F s p = true) : overG F s = false ∧ 0 ≤ p ∧ p ≤ leftP s.2 := by
  simp [fitsG] at h; exact ⟨h.1.1, h.1.2, h.2⟩
theorem getD_snoc {α : Type} (l : List α) (x d : α) (i : Nat) : (l ++ [x]).getD i d = if i < l.length then l.getD i d else if i = l.length then x else d := by
  by_cases h : i < l.length
  · rw [if_pos h]; simp [h, List.getElem?_append_left]
  · rw [if_neg h]
    by_cases h2 : i = l.length
    · subst h2; simp
    · rw [if_neg h2]
      have : (l ++ [x])[i]? = none := by simp; omega
      simp [this]
theorem inv_step {F : Nat} {s : St} {p : Int} (h : InvG F s) (hf : fitsG F s p = true) : InvG F (stepG F s p) := by
  obtain ⟨ho, h0, h1⟩ := fits_parts hf
  have hop := inv_open h ho
  obtain ⟨hl, hd, hc⟩ := h
  simp [overG] at ho
  unfold stepG
  cases he : endedF (lastG F s) (s.2 ++ [p])
  · simp only [Bool.false_eq_true, if_false]
    refine ⟨hl, hd, ?_⟩
    simp only
    rw [if_neg ho]
    exact step_open hop h0 h1 he
  · simp only [if_true]
    have hend := step_end hop h0 h1 he
    refine ⟨by simp; omega, fun i hi => ?_, ?_⟩
    · simp only at hi ⊢
      rw [getD_snoc]
      by_cases hil : i < s.1.length
      · rw [if_pos hil]; exact hd i hil
      · have : i = s.1.length := by simp at hi; omega
        subst this
        rw [if_neg hil, if_pos rfl]
        exact hend
    · simp only [List.length_append, List.length_cons, List.length_nil]
      by_cases hF : s.1.length + (0 + 1) = F
      · rw [if_pos hF]; trivial
      · rw [if_neg hF]; simp [openB]

/-- The model's place: frame, balls, pins that stand, over. -/
def frA (F : Nat) (s : St) : Nat := if overG F s then F - 1 else s.1.length
def bsA (F : Nat) (s : St) : List Int := if overG F s then s.1.getLastD [] else s.2
def stA (F : Nat) (s : St) : Int := leftP (bsA F s)
theorem bsA_small {F : Nat} {s : St} (h : InvG F s) (hF : 1 ≤ F) : smallB (bsA F s) := by
  unfold bsA
  cases ho : overG F s
  · exact small_open (inv_open h ho)
  · simp only [if_true]
    simp [overG] at ho
    have h1 := h.2.1 (s.1.length - 1) (by omega)
    have : s.1.getLastD [] = s.1.getD (s.1.length - 1) [] := by
      rw [List.getLastD_eq_getLast?, List.getLast?_eq_getElem?]; simp
    rw [this]; exact small_end h1
theorem stA_open {F : Nat} {s : St} (ho : overG F s = false) : stA F s = leftP s.2 := by simp [stA, bsA, ho]

/-- boRoll, ball by ball. -/
theorem roll_mid {F : Nat} {s : St} {p : Int} (h : InvG F s) (hf : fitsG F s p = true) (hl : lastG F s = false) :
    (leftP s.2 - p = 0 ∨ s.2.length + 1 = 2 → stepG F s p = (s.1 ++ [s.2 ++ [p]], []) ∧ overG F (stepG F s p) = false) ∧
    (¬ (leftP s.2 - p = 0 ∨ s.2.length + 1 = 2) → stepG F s p = (s.1, s.2 ++ [p]) ∧ leftP (s.2 ++ [p]) = leftP s.2 - p) := by
  obtain ⟨ho, h0, h1⟩ := fits_parts hf
  have hop := inv_open h ho
  rw [hl] at hop
  simp [overG] at ho
  have hl2 : ¬ s.1.length + 1 = F := by simpa [lastG] using hl
  have h9 := h.1
  generalize hb : s.2 = bs at *
  match bs, hop with
  | _ :: _ :: _ :: _, hop => exact absurd hop (by simp [openB])
  | [_, _], hop => exact absurd hop.1 (by simp)
  | [], _ =>
    simp only [leftP, List.sum_nil] at *
    refine ⟨fun hh => ?_, fun hh => ?_⟩
    · have : p = 10 := by simp at hh; omega
      subst this
      have e : stepG F s 10 = (s.1 ++ [[] ++ [10]], []) := by simp [stepG, hl, hb, endedF, inF, strikeB]
      rw [e]; refine ⟨rfl, ?_⟩
      simp [overG]; omega
    · have : ¬ p = 10 := by simp at hh; omega
      have e : stepG F s p = (s.1, [] ++ [p]) := by simp [stepG, hl, hb, endedF, inF, strikeB, this]
      rw [e]; refine ⟨rfl, ?_⟩
      simp; simp at h1; omega
  | [a], hop =>
    simp only [openB] at hop
    simp at hop
    have h10 : (a == 10) = false := by simp; omega
    have e : stepG F s p = (s.1 ++ [[a] ++ [p]], []) := by simp [stepG, hl, hb, endedF, inF, strikeB, h10]
    rw [e]
    refine ⟨fun _ => ⟨rfl, ?_⟩, fun hh => absurd (Or.inr rfl) hh⟩
    simp [overG]; omega

theorem roll_last {F : Nat} {s : St} {p : Int} (h : InvG F s) (hf : fitsG F s p = true) (hl : lastG F s = true) :
    (overG F (stepG F s p) = decide (s.2.length + 1 = 3 ∨ (s.2.length + 1 = 2 ∧ (s.2 ++ [p]).getD 0 0 < 10 ∧ (s.2 ++ [p]).getD 0 0 + (s.2 ++ [p]).getD 1 0 < 10))) ∧
    frA F (stepG F s p) = s.1.length ∧ bsA F (stepG F s p) = s.2 ++ [p] ∧ stA F (stepG F s p) = (if leftP s.2 - p = 0 then 10 else leftP s.2 - p) := by
  obtain ⟨ho, h0, h1⟩ := fits_parts hf
  have hop := inv_open h ho
  rw [hl] at hop
  have hl2 : s.1.length + 1 = F := by simpa [lastG] using hl
  have hbs : bsA F (stepG F s p) = s.2 ++ [p] := by
    unfold stepG bsA
    cases endedF (lastG F s) (s.2 ++ [p])
    · simp [overG]; omega
    · simp [overG, hl2]
  have hov : overG F (stepG F s p) = endedF true (s.2 ++ [p]) := by
    unfold stepG
    rw [hl]
    cases endedF true (s.2 ++ [p])
    · simp [overG]; omega
    · simp [overG]; omega
  refine ⟨?_, ?_, hbs, ?_⟩
  · rw [hov]
    generalize s.2 = bs at *
    match bs, hop with
    | [], _ => simp [endedF, inF, cntF]; split <;> omega
    | [a], hop =>
      simp only [openB] at hop; simp at hop
      simp only [leftP] at h1; simp at h1
      simp [endedF, inF, cntF, strikeB, spareB]
      by_cases ha : a = 10
      · simp [ha]
      · by_cases hs : a + p = 10
        · simp [hs]
        · simp [ha, hs]; omega
    | [a, b], hop =>
      simp only [openB] at hop
      obtain ⟨-, h2, h3, h4, h5, rfl | h6⟩ := hop
      · simp [endedF, inF, cntF, strikeB, spareB]
      · simp [endedF, inF, cntF, strikeB, spareB, h6]
  · unfold frA
    split
    · omega
    · rename_i hno
      unfold stepG at hno ⊢
      cases he : endedF (lastG F s) (s.2 ++ [p])
      · simp
      · exfalso
        apply hno
        simp [he, overG]; omega
  · unfold stA
    rw [hbs]
    generalize s.2 = bs at *
    match bs, hop with
    | [], _ => simp only [leftP] at *; simp at *; split <;> omega
    | [a], hop =>
      simp only [openB] at hop; simp at hop
      simp only [leftP] at *; simp at *; split <;> omega
    | [a, b], hop =>
      simp only [openB] at hop
      simp only [leftP] at *; simp at *; split <;> omega

/-- The program's sheet. -/
def sheetG (F : Nat) (s : St) : List (List Int) := s.1 ++ (s.2 :: List.replicate F []).take (F - s.1.length)
theorem sheet_len {F : Nat} {s : St} (h : s.1.length ≤ F) : (sheetG F s).length = F := by
  simp [sheetG]; omega
theorem sheet_done {F : Nat} {s : St} {i : Nat} (h : i < s.1.length) : (sheetG F s).getD i [] = s.1.getD i [] := by
  simp [sheetG, h, List.getElem?_append_left]
theorem sheet_cur {F : Nat} {s : St} (h : s.1.length < F) : (sheetG F s).getD s.1.length [] = s.2 := by
  simp [sheetG, List.getElem?_append_right, List.getElem?_take]
  rw [if_pos (by omega)]
  simp
theorem sheet_rest {F : Nat} {s : St} {i : Nat} (h : s.1.length < i) : (sheetG F s).getD i [] = [] := by
  simp only [sheetG, List.getD_eq_getElem?_getD]
  rw [List.getElem?_append_right (by omega), List.getElem?_take]
  split
  · rw [show i - s.1.length = (i - s.1.length - 1) + 1 from by omega, List.getElem?_cons_succ, List.getElem?_replicate]
    split <;> simp
  · rfl
theorem sheet_start (F : Nat) (h : 1 ≤ F) : sheetG F ([], []) = List.replicate F [] := by
  obtain ⟨k, rfl⟩ : ∃ k, F = k + 1 := ⟨F - 1, by omega⟩
  simp only [sheetG, List.nil_append, List.length_nil, Nat.sub_zero, List.take_succ_cons, List.take_replicate, Nat.min_eq_left (Nat.le_succ k)]
  rfl
theorem ext_getD {l m : List (List Int)} (h : l.length = m.length) (hh : ∀ i, i < l.length → l.getD i [] = m.getD i []) : l = m := by
  apply List.ext_getElem h
  intro i h1 h2
  have := hh i h1
  simpa [h1, h2] using this
theorem getD_set (l : List (List Int)) (i j : Nat) (x : List Int) (h : i < l.length) : (l.set i x).getD j [] = if i = j then x else l.getD j [] := by
  by_cases e : i = j
  · subst e; simp [h]
  · simp [e]
theorem sheet_step {F : Nat} {s : St} {p : Int} (h : InvG F s) (ho : overG F s = false) : (sheetG F s).set s.1.length (s.2 ++ [p]) = sheetG F (stepG F s p) := by
  have h1 := h.1
  simp [overG] at ho
  have hlt : s.1.length < F := by omega
  have hl2 : (stepG F s p).1.length ≤ F := by unfold stepG; split <;> simp <;> omega
  have hlen := sheet_len (F := F) (s := s) h1
  apply ext_getD
  · rw [List.length_set, sheet_len h1, sheet_len hl2]
  · intro i hi
    rw [List.length_set, sheet_len h1] at hi
    rw [getD_set _ _ _ _ (by rw [hlen]; exact hlt)]
    by_cases e : s.1.length = i
    · subst e
      rw [if_pos rfl]
      unfold stepG
      split
      · rw [sheet_done (by simp), getD_snoc]; simp
      · rw [sheet_cur (s := (s.1, s.2 ++ [p])) hlt]
    · rw [if_neg e]
      by_cases hil : i < s.1.length
      · rw [sheet_done hil]
        unfold stepG
        split
        · rw [sheet_done (by simp; omega), getD_snoc, if_pos hil]
        · rw [sheet_done (by simpa using hil)]
      · rw [sheet_rest (by omega)]
        unfold stepG
        split
        · by_cases e2 : i = s.1.length + 1
          · subst e2
            have := sheet_cur (F := F) (s := (s.1 ++ [s.2 ++ [p]], [])) (by simp; omega)
            simpa using this.symm
          · rw [sheet_rest (by simp; omega)]
        · rw [sheet_rest (by simp; omega)]
/-- Where the next ball belongs. -/
theorem sheet_small {F : Nat} {s : St} (h : InvG F s) (i : Nat) : smallB ((sheetG F s).getD i []) := by
  by_cases h1 : i < s.1.length
  · rw [sheet_done h1]; exact small_end (h.2.1 i h1)
  · by_cases h2 : s.1.length < i
    · rw [sheet_rest h2]; exact ⟨by simp, by simp⟩
    · have : i = s.1.length := by omega
      subst this
      by_cases h3 : s.1.length < F
      · rw [sheet_cur h3]
        exact small_open (inv_open h (by simp [overG]; omega))
      · have hl := sheet_len h.1
        have : (sheetG F s).getD s.1.length [] = [] := by
          have : (sheetG F s)[s.1.length]? = none := by simp; omega
          simp [this]
        rw [this]; exact ⟨by simp, by simp⟩
theorem next_done {F : Nat} {s : St} (h : InvG F s) {i : Nat} (hi : i < s.1.length) : stF (decide (i + 1 = F)) ((sheetG F s).getD i []) = 0 := by
  rw [sheet_done hi]; exact stF_end (h.2.1 i hi)
theorem next_cur {F : Nat} {s : St} (h : InvG F s) (ho : overG F s = false) : stF (decide (s.1.length + 1 = F)) ((sheetG F s).getD s.1.length []) = leftP s.2 := by
  have h1 := h.1
  have hop := inv_open h ho
  simp [overG] at ho
  rw [sheet_cur (by omega)]
  exact stF_open hop
end Go.Proofs.YtgkkjlpfkoplhaaGreatDoor.Pn
