/-
  Pins, plain facts: the text of rolls.
-/
import Derived.Test.YtgkkjlpfkoplhaaDoorPnScore
namespace Go.Proofs.YtgkkjlpfkoplhaaDoor
set_option linter.unusedVariables false
set_option linter.unusedSimpArgs false

/-- How many pins stand in a frame, and whether they have just been set up. -/
def stepP (q : Int × Bool) (p : Int) : Int × Bool := if q.1 - p = 0 then (10, true) else (q.1 - p, false)
def digP (p : Int) : List UInt8 := [UInt8.ofNat (48 + p.toNat)]
def signP (q : Int × Bool) (p : Int) : List UInt8 := if p = 0 then [45] else if p < q.1 then digP p else if q.2 then [88] else [47]
def sgL : Int × Bool → List Int → List UInt8
  | _, [] => []
  | q, p :: r => signP q p ++ sgL (stepP q p) r
def stL (q : Int × Bool) (bs : List Int) : Int × Bool := bs.foldl stepP q
def sgF (bs : List Int) : List UInt8 := sgL (10, true) bs
theorem sgL_snoc (bs : List Int) (p : Int) : ∀ q, sgL q (bs ++ [p]) = sgL q bs ++ signP (stL q bs) p := by
  induction bs with
  | nil => intro q; simp [sgL, stL]
  | cons a r ih => intro q; simp only [List.cons_append, sgL, ih, List.append_assoc]; rfl
theorem sign_len (q : Int × Bool) (p : Int) : (signP q p).length = 1 := by
  unfold signP digP
  by_cases h1 : p = 0
  · simp [h1]
  · by_cases h2 : p < q.1
    · simp [h1, h2]
    · cases h3 : q.2 <;> simp [h1, h2]
theorem sgL_len (bs : List Int) : ∀ q, (sgL q bs).length = bs.length := by
  induction bs with
  | nil => intro q; rfl
  | cons a r ih => intro q; simp only [sgL, List.length_append, sign_len, ih, List.length_cons]; omega
theorem sgF_len (bs : List Int) : (sgF bs).length = bs.length := sgL_len bs _

def freshB (bs : List Int) : Bool := decide (bs.length = 0) || (decide (leftP bs = 10) && ((decide (bs.length = 1) && decide (bs.getD 0 0 = 10)) || (decide (bs.length = 2) && decide (0 < bs.getD 1 0))))
def signM (bs : List Int) (p : Int) : List UInt8 := if p = 0 then [45] else if p = 10 ∧ freshB bs = true then [88] else if p = leftP bs then [47] else digP p
theorem sign_eq {last : Bool} {bs : List Int} {p : Int} (h : openB last bs) (h0 : 0 ≤ p) (h1 : p ≤ leftP bs) : signM bs p = signP (stL (10, true) bs) p := by
  match bs, h with
  | [], _ =>
    simp [leftP] at h1
    simp only [signM, signP, stL, List.foldl_nil, freshB, List.length_nil, decide_true, Bool.true_or, leftP, List.sum_nil]
    by_cases e : p = 0
    · simp [e]
    · by_cases e2 : p = 10
      · simp [e2]
      · have : p < 10 := by omega
        simp [e, e2, this]
  | [a], h =>
    simp only [openB] at h
    have hl : leftP [a] = 10 - a % 10 := by simp [leftP]
    rw [hl] at h1
    have ha : 0 ≤ a ∧ a ≤ 10 := by cases last <;> simp at h <;> omega
    simp only [signM, signP, stL, List.foldl_cons, List.foldl_nil, stepP, freshB, hl]
    by_cases e : p = 0
    · simp [e]
    · by_cases ea : a = 10
      · subst ea
        by_cases e2 : p = 10
        · simp [e2]
        · have : p < 10 := by omega
          simp [e, e2, this]
      · have hm : a % 10 = a := by omega
        rw [hm] at h1 ⊢
        have h10 : ¬ (10 - a = 0) := by omega
        by_cases e2 : p = 10 - a
        · subst e2
          simp [e, h10, ea]
        · have : p < 10 - a := by omega
          simp [e, e2, this, h10, ea]
  | [a, b], h =>
    simp only [openB] at h
    obtain ⟨-, ha0, ha1, hb0, hb1, h⟩ := h
    have hl : leftP [a, b] = 10 - (a + b) % 10 := by simp [leftP]
    rw [hl] at h1
    simp only [signM, signP, stL, List.foldl_cons, List.foldl_nil, stepP, freshB, hl]
    by_cases e : p = 0
    · simp [e]
    · by_cases ea : a = 10
      · subst ea
        by_cases eb : b = 10
        · subst eb
          by_cases e2 : p = 10
          · simp [e2]
          · have : p < 10 := by omega
            simp [e, e2, this]
        · have hm : (10 + b) % 10 = b := by omega
          rw [hm] at h1 ⊢
          have h10 : ¬ (10 - b = 0) := by omega
          by_cases e2 : p = 10 - b
          · subst e2
            by_cases e3 : b = 0
            · subst e3; simp
            · have : ¬ (10 - b = 10) := by omega
              simp [e, h10, this, e3]
          · have : p < 10 - b := by omega
            have h11 : ¬ p = 10 := by omega
            simp [e, e2, this, h10, h11]
      · have hab : a + b = 10 := by omega
        have h10 : ¬ (10 - a = 0) := by omega
        have hb : 10 - a - b = 0 := by omega
        have hm : (a + b) % 10 = 0 := by omega
        rw [hm] at h1 ⊢
        have hb2 : 0 < b := by omega
        by_cases e2 : p = 10
        · subst e2; simp [h10, hb, hb2]
        · have : p < 10 := by omega
          simp [e, e2, this, h10, hb]

def textG (s : St) : List UInt8 := s.1.flatMap sgF ++ sgF s.2
theorem text_step {F : Nat} {s : St} {p : Int} (hi : InvG F s) (hf : fitsG F s p = true) : textG (stepG F s p) = textG s ++ signM s.2 p := by
  obtain ⟨ho, hp0, hp1⟩ := fits_parts hf
  rw [sign_eq (inv_open hi ho) hp0 hp1]
  have hs := sgL_snoc s.2 p (10, true)
  unfold stepG textG
  split
  · simp only [List.flatMap_append, List.flatMap_cons, List.flatMap_nil, List.append_nil]
    rw [show sgF (s.2 ++ [p]) = sgF s.2 ++ signP (stL (10, true) s.2) p from hs, show sgF [] = [] from rfl]
    simp
  · rw [show sgF (s.2 ++ [p]) = sgF s.2 ++ signP (stL (10, true) s.2) p from hs]
    simp
theorem text_begun {s : St} : (begunG s).flatMap sgF = textG s := by
  unfold begunG textG
  split
  · rename_i h; rw [h]; simp [sgF, sgL]
  · simp
theorem text_sheet {F : Nat} {s : St} (h : InvG F s) : (sheetG F s).flatMap sgF = textG s := by
  obtain ⟨k, hk⟩ := sheet_begun h
  rw [hk, List.flatMap_append, text_begun]
  have : (List.replicate k ([] : List Int)).flatMap sgF = [] := by
    induction k with
    | zero => rfl
    | succ k ih => simp [List.replicate_succ, sgF, sgL]
  rw [this, List.append_nil]
theorem text_len (s : St) : (textG s).length = (rollsG s).length := by
  unfold textG rollsG
  simp only [List.length_append, sgF_len]
  congr 1
  induction s.1 with
  | nil => rfl
  | cons a r ih => simp [sgF_len, ih]
end Go.Proofs.YtgkkjlpfkoplhaaDoor
