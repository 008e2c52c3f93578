/-
  Tennis: plain facts on plays of a race, and on sets that are played.
-/
import Derived.Test.YtgkkjlpfkoplhaaGreatDoorTnMath
namespace Go.Proofs.YtgkkjlpfkoplhaaGreatDoor

/-- Who has won a race to so many points with a lead of 2: 0 nobody, 1 a, 2 b. -/
def wonN (to a b : Int) : Nat := if to ≤ a ∧ 2 ≤ a - b then 1 else if to ≤ b ∧ 2 ≤ b - a then 2 else 0
def overR (to a b : Int) : Bool := decide (to ≤ maxI a b) && decide (2 ≤ maxI (a - b) (-(a - b)))
theorem overR_won (to a b : Int) : overR to a b = !(wonN to a b == 0) := by
  unfold overR wonN
  rw [maxI_eq, maxI_eq]
  by_cases h1 : to ≤ a ∧ 2 ≤ a - b
  · rw [if_pos h1]; simp; omega
  · rw [if_neg h1]
    by_cases h2 : to ≤ b ∧ 2 ≤ b - a
    · rw [if_pos h2]; simp; omega
    · rw [if_neg h2]; simp; omega
theorem overR_false {to a b : Int} : overR to a b = false ↔ wonN to a b = 0 := by rw [overR_won]; simp
theorem overR_true {to a b : Int} : overR to a b = true ↔ wonN to a b ≠ 0 := by rw [overR_won]; simp

def upA (c : UInt8) : Int := if c = 97 then 1 else 0
def upB (c : UInt8) : Int := if c = 97 then 0 else 1

/-- The program's look at points: the first letter that cannot stand at its place, counted from here; true: it stands behind the end. -/
def stray (to a b : Int) : List UInt8 → Option (Nat × Bool)
  | [] => none
  | c :: r => if wonN to a b ≠ 0 then some (0, true) else if c = 97 ∨ c = 98 then (stray to (a + upA c) (b + upB c) r).map fun x => (x.1 + 1, x.2) else some (0, false)
/-- The model's: points of both, how many letters, whether it has ended. -/
def playS (to a b : Int) : List UInt8 → Int × Int × Nat × Bool
  | [] => (a, b, 0, false)
  | c :: r => if overR to (a + upA c) (b + upB c) then (a + upA c, b + upB c, 1, true) else
      ((playS to (a + upA c) (b + upB c) r).1, (playS to (a + upA c) (b + upB c) r).2.1, (playS to (a + upA c) (b + upB c) r).2.2.1 + 1, (playS to (a + upA c) (b + upB c) r).2.2.2)

def cntA (l : List UInt8) : Int := (l.count 97 : Nat)
def cntB (l : List UInt8) : Int := (l.count 98 : Nat)
theorem cntA_nil : cntA [] = 0 := rfl
theorem cntB_nil : cntB [] = 0 := rfl
theorem cntA_cons (c : UInt8) (l : List UInt8) : cntA (c :: l) = upA c + cntA l := by
  unfold cntA upA; rw [List.count_cons]; by_cases h : c = 97 <;> simp [h]; omega
theorem cntB_cons {c : UInt8} (h : c = 97 ∨ c = 98) (l : List UInt8) : cntB (c :: l) = upB c + cntB l := by
  unfold cntB upB; rw [List.count_cons]; rcases h with rfl | rfl <;> simp; omega
theorem abL_cons {c : UInt8} {l : List UInt8} : abL (c :: l) = true ↔ (c = 97 ∨ c = 98) ∧ abL l = true := by simp [abL]
theorem abL_append {l m : List UInt8} : abL (l ++ m) = true ↔ abL l = true ∧ abL m = true := by simp [abL]

/-- A race that is not won with no points: what both looks say of valid points. -/
theorem play_stray : ∀ (l : List UInt8) (to a b : Int), abL l = true → wonN to a b = 0 →
    (playS to a b l).2.2.1 ≤ l.length ∧
    (playS to a b l).1 = a + cntA (l.take (playS to a b l).2.2.1) ∧ (playS to a b l).2.1 = b + cntB (l.take (playS to a b l).2.2.1) ∧
    (wonN to (playS to a b l).1 (playS to a b l).2.1 ≠ 0 ↔ (playS to a b l).2.2.2 = true) ∧
    ((playS to a b l).2.2.2 = false → (playS to a b l).2.2.1 = l.length) ∧
    ((playS to a b l).2.2.2 = true → 0 < (playS to a b l).2.2.1) ∧
    stray to a b l = if (playS to a b l).2.2.1 = l.length then none else some ((playS to a b l).2.2.1, true)
  | [], to, a, b, _, hw => by simp [playS, stray, cntA_nil, cntB_nil, hw]
  | c :: r, to, a, b, hl, hw => by
    obtain ⟨hc, hr⟩ := abL_cons.1 hl
    cases ho : overR to (a + upA c) (b + upB c)
    · have hw' := overR_false.1 ho
      obtain ⟨i1, i2, i3, i4, i5, i6, i7⟩ := play_stray r to (a + upA c) (b + upB c) hr hw'
      have hp : playS to a b (c :: r) = ((playS to (a + upA c) (b + upB c) r).1, (playS to (a + upA c) (b + upB c) r).2.1, (playS to (a + upA c) (b + upB c) r).2.2.1 + 1, (playS to (a + upA c) (b + upB c) r).2.2.2) := by
        rw [playS, if_neg (by simp [ho])]
      have hs : stray to a b (c :: r) = (stray to (a + upA c) (b + upB c) r).map fun x => (x.1 + 1, x.2) := by
        rw [stray, if_neg (by simp [hw]), if_pos hc]
      rw [hp, hs, i7]
      generalize playS to (a + upA c) (b + upB c) r = x at *
      obtain ⟨x1, x2, n, e⟩ := x
      simp only at *
      refine ⟨by simp; omega, ?_, ?_, i4, fun he => by simp; exact i5 he, fun _ => by omega, ?_⟩
      · rw [List.take_succ_cons, cntA_cons]; omega
      · rw [List.take_succ_cons, cntB_cons hc]; omega
      · by_cases hn : n = r.length <;> simp [hn]
    · have hw' := overR_true.1 ho
      have hp : playS to a b (c :: r) = (a + upA c, b + upB c, 1, true) := by rw [playS, if_pos ho]
      have hs : stray to a b (c :: r) = (stray to (a + upA c) (b + upB c) r).map fun x => (x.1 + 1, x.2) := by
        rw [stray, if_neg (by simp [hw]), if_pos hc]
      rw [hp, hs]
      refine ⟨by simp, ?_, ?_, by simpa using hw', by simp, by simp, ?_⟩
      · simp [cntA_cons, cntA_nil]
      · simp [cntB_cons hc, cntB_nil]
      · cases r with
        | nil => simp [stray]
        | cons d q => rw [stray, if_pos hw']; simp

/-- Points with a letter that is none: neither look takes them to the end. -/
theorem stray_bad : ∀ (l : List UInt8) (to a b : Int), abL l = false → stray to a b l ≠ none
  | [], _, _, _, h => by simp [abL] at h
  | c :: r, to, a, b, h => by
    unfold stray
    split
    · simp
    · split
      · rename_i hc
        have hr : abL r = false := by
          cases hr : abL r
          · rfl
          · rw [abL_cons.2 ⟨hc, hr⟩] at h; exact h
        have := stray_bad r to (a + upA c) (b + upB c) hr
        simpa using this
      · simp
/-- Where the stray letter stands behind the end, what is ahead of it is a play that is won. -/
theorem stray_end : ∀ (l : List UInt8) (to a b : Int) (k : Nat), stray to a b l = some (k, true) → k < l.length ∧ abL (l.take k) = true
  | [], _, _, _, _, h => by simp [stray] at h
  | c :: r, to, a, b, k, h => by
    unfold stray at h
    split at h
    · simp at h; subst h; simp [abL]
    · split at h
      · rename_i hc
        rw [Option.map_eq_some_iff] at h
        obtain ⟨⟨j, e⟩, hj, he⟩ := h
        simp at he
        obtain ⟨rfl, rfl⟩ := he
        obtain ⟨h1, h2⟩ := stray_end r to _ _ j hj
        exact ⟨by simp; omega, by rw [List.take_succ_cons]; exact abL_cons.2 ⟨hc, h2⟩⟩
      · simp at h

end Go.Proofs.YtgkkjlpfkoplhaaGreatDoor
