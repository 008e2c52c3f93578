/-
  Frames are read back: the model.
-/
import Derived.Test.YtlehhkijigglgaaDoorFrText
import Derived.Test.YtlehhkijigglgaaDoorRead
import Derived.Deep.RegionHeld3
namespace Go.Proofs.YtlehhkijigglgaaDoor
open Go.RowKit
set_option linter.unusedVariables false

/-- The frame that a text may tell. -/
def pR (l : List UInt8) : Int := readL (l.take (l.length - 2))
def pC (l : List UInt8) : Bool := decide (l[l.length - 2]? = some 99)
def pL (l : List UInt8) : Int := readL (l.drop (l.length - 1))
def pOk (l : List UInt8) : Bool := decide (3 ≤ l.length) && decide (l.length ≤ 4) && (frG (pR l) (pC l) (pL l) && decide (textAB (pR l).toNat (pL l).toNat (pC l) = l))

/-- Each frame's text tells it. -/
theorem p_text : ∀ n, n ≤ 36 → pOk (textL n) = true ∧ pR (textL n) = frR n ∧ pC (textL n) = frC n ∧ pL (textL n) = frL n := by decide +kernel

/-- The frame with a text, looked for from 15 red balls on. -/
def findN (l : List UInt8) : Nat → Option Nat
  | 0 => if textL 0 = l then some 0 else none
  | n + 1 => if textL (n + 1) = l then some (n + 1) else findN l n

theorem find_some : ∀ (l : List UInt8) (n m : Nat), findN l n = some m → m ≤ n ∧ textL m = l
  | l, 0, m, h => by
    unfold findN at h
    split at h
    · rename_i ht; simp at h; subst h; exact ⟨Nat.le_refl _, ht⟩
    · cases h
  | l, n + 1, m, h => by
    unfold findN at h
    split at h
    · rename_i ht; simp at h; subst h; exact ⟨Nat.le_refl _, ht⟩
    · have := find_some l n m h; exact ⟨by omega, this.2⟩
theorem find_none : ∀ (l : List UInt8) (n m : Nat), findN l n = none → m ≤ n → textL m ≠ l
  | l, 0, m, h, hm => by
    unfold findN at h
    split at h
    · cases h
    · rename_i ht; obtain rfl : m = 0 := by omega
      exact ht
  | l, n + 1, m, h, hm => by
    unfold findN at h
    split at h
    · cases h
    · rename_i ht
      by_cases he : m = n + 1
      · subst he; exact ht
      · exact find_none l n m h (by omega)

/-- What the model finds is what the program finds. -/
theorem p_find (l : List UInt8) : (pOk l = true → ∃ m, m ≤ 36 ∧ findN l 36 = some m ∧ pR l = frR m ∧ pC l = frC m ∧ pL l = frL m) ∧ (pOk l = false → findN l 36 = none) := by
  constructor
  · intro h
    cases hf : findN l 36 with
    | none =>
      exfalso
      unfold pOk at h
      simp only [Bool.and_eq_true, decide_eq_true_eq] at h
      obtain ⟨_, hg, ht⟩ := h
      obtain ⟨n, hn, e1, e2, e3⟩ := frG_n hg
      refine find_none l 36 n hf hn ?_
      rw [← ht, e1, e2, e3]
      unfold textL
      rw [frR_N, frL_N]; rfl
    | some m =>
      obtain ⟨hm, ht⟩ := find_some l 36 m hf
      have := p_text m hm
      rw [ht] at this
      exact ⟨m, hm, rfl, this.2⟩
  · intro h
    cases hf : findN l 36 with
    | none => rfl
    | some m =>
      obtain ⟨hm, ht⟩ := find_some l 36 m hf
      have := (p_text m hm).1
      rw [ht, h] at this; cases this

end Go.Proofs.YtlehhkijigglgaaDoor
