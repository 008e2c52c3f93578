/-
  Races: plain facts on points, who has won, and plays.
-/
import Derived.Test.YtbgdngfjeikheaaDoorBase
import Derived.Lib.Strings
namespace Go.Proofs.YtbgdngfjeikheaaDoor
open Go.RowKit

def inR (n a b : Int) : Bool := decide (a ≤ n) && decide (n ≤ b)
theorem inR_true {n a b : Int} : inR n a b = true ↔ a ≤ n ∧ n ≤ b := by simp [inR]
def goodR (tq ld : Int) : Bool := inR tq 1 30 && inR ld 1 5
theorem goodR_bd {tq ld : Int} : goodR tq ld = true ↔ (1 ≤ tq ∧ tq ≤ 30) ∧ (1 ≤ ld ∧ ld ≤ 5) := by simp [goodR, inR]

/-- Who has won a race: 0 nobody, 1 a, 2 b. -/
def wonN (tq ld a b : Int) : Nat := if tq ≤ a ∧ ld ≤ a - b then 1 else if tq ≤ b ∧ ld ≤ b - a then 2 else 0
/-- The model's number for it. -/
def wonI (tq ld a b : Int) : Int := if tq ≤ a ∧ ld ≤ a - b then 1 else if tq ≤ b ∧ ld ≤ b - a then -1 else 0
theorem wonI_eq (tq ld a b : Int) : (wonN tq ld a b = 0 ∧ wonI tq ld a b = 0) ∨ (wonN tq ld a b = 1 ∧ wonI tq ld a b = 1) ∨ (wonN tq ld a b = 2 ∧ wonI tq ld a b = -1) := by
  unfold wonN wonI
  by_cases h1 : tq ≤ a ∧ ld ≤ a - b
  · rw [if_pos h1, if_pos h1]; simp
  · rw [if_neg h1, if_neg h1]
    by_cases h2 : tq ≤ b ∧ ld ≤ b - a
    · rw [if_pos h2, if_pos h2]; simp
    · rw [if_neg h2, if_neg h2]; simp
theorem won_zero {tq ld a b : Int} : wonI tq ld a b = 0 ↔ wonN tq ld a b = 0 := by
  rcases wonI_eq tq ld a b with ⟨h, g⟩ | ⟨h, g⟩ | ⟨h, g⟩ <;> rw [h, g] <;> simp
theorem won_swap {tq ld a b : Int} (h : 1 ≤ ld) : wonI tq ld b a = - wonI tq ld a b := by
  unfold wonI
  by_cases h1 : tq ≤ a ∧ ld ≤ a - b
  · rw [if_pos h1, if_neg (by omega), if_pos h1]
  · rw [if_neg h1]
    by_cases h2 : tq ≤ b ∧ ld ≤ b - a
    · rw [if_pos h2, if_neg h1, if_pos h2]; rfl
    · rw [if_neg h2, if_neg h1, if_neg h2]; rfl

def upA (c : UInt8) : Int := if c = 97 then 1 else 0
def upB (c : UInt8) : Int := if c = 97 then 0 else 1
def abL (l : List UInt8) : Bool := l.all fun c => c == 97 || c == 98
def cntA (l : List UInt8) : Int := (l.count 97 : Nat)
def cntB (l : List UInt8) : Int := (l.count 98 : Nat)
theorem cntA_nil : cntA [] = 0 := rfl
theorem cntB_nil : cntB [] = 0 := rfl
theorem cntA_cons (c : UInt8) (l : List UInt8) : cntA (c :: l) = upA c + cntA l := by
  unfold cntA upA; rw [List.count_cons]; by_cases h : c = 97 <;> simp [h]; omega
theorem cntB_cons {c : UInt8} (h : c = 97 ∨ c = 98) (l : List UInt8) : cntB (c :: l) = upB c + cntB l := by
  unfold cntB upB; rw [List.count_cons]; rcases h with rfl | rfl <;> simp; omega
theorem abL_cons {c : UInt8} {l : List UInt8} : abL (c :: l) = true ↔ (c = 97 ∨ c = 98) ∧ abL l = true := by simp [abL]
theorem count_bd (l : List UInt8) (c : UInt8) : 0 ≤ ((l.count c : Nat) : Int) ∧ ((l.count c : Nat) : Int) ≤ l.length :=
  ⟨by omega, by have := List.count_le_length (a := c) (l := l); omega⟩
theorem cntA_bd (l : List UInt8) : 0 ≤ cntA l ∧ cntA l ≤ l.length := count_bd l 97
theorem cntB_bd (l : List UInt8) : 0 ≤ cntB l ∧ cntB l ≤ l.length := count_bd l 98
theorem cnt_all : ∀ l : List UInt8, cntA l + cntB l ≤ l.length ∧ (cntA l + cntB l = l.length ↔ abL l = true)
  | [] => by simp [cntA, cntB, abL]
  | c :: r => by
    obtain ⟨i1, i2⟩ := cnt_all r
    by_cases h1 : c = 97
    · subst h1
      rw [cntA_cons, cntB_cons (.inl rfl), abL_cons, ← i2]; simp [upA, upB]; omega
    · by_cases h2 : c = 98
      · subst h2
        rw [cntA_cons, cntB_cons (.inr rfl), abL_cons, ← i2]; simp [upA, upB]; omega
      · rw [cntA_cons, abL_cons, show cntB (c :: r) = cntB r from by unfold cntB; rw [List.count_cons]; simp [h2]]
        simp [upA, h1, h2]; omega
def isAB (c : UInt8) : Bool := c == 97 || c == 98
def sideS (n : Nat) : ByteArray := if n = 1 then ⟨#[97]⟩ else if n = 2 then ⟨#[98]⟩ else ⟨#[]⟩

/-- Points: at most 100 letters a and b. -/
def ptsB (s : ByteArray) : Bool := decide (s.data.toList.length ≤ 100) && abL s.data.toList
theorem ptsB_true {s : ByteArray} : ptsB s = true ↔ s.size ≤ 100 ∧ abL s.data.toList = true := by simp [ptsB]

/-- Whether no side had won ahead of the last one of these points. -/
def playL (tq ld a b : Int) : List UInt8 → Bool
  | [] => true
  | c :: r => if wonN tq ld a b ≠ 0 then false else playL tq ld (a + upA c) (b + upB c) r
/-- The model's look: points of both at the stop, and whether it came to the end. -/
def cntS (tq ld a b : Int) : List UInt8 → Int × Int × Bool
  | [] => (a, b, true)
  | c :: r => if wonN tq ld a b ≠ 0 then (a, b, false) else cntS tq ld (a + upA c) (b + upB c) r
theorem cntS_ok : ∀ (l : List UInt8) (tq ld a b : Int), (cntS tq ld a b l).2.2 = playL tq ld a b l
  | [], _, _, _, _ => rfl
  | c :: r, tq, ld, a, b => by
    unfold cntS playL
    by_cases h : wonN tq ld a b ≠ 0
    · rw [if_pos h, if_pos h]
    · rw [if_neg h, if_neg h]; exact cntS_ok r tq ld _ _
theorem cntS_full : ∀ (l : List UInt8) (tq ld a b : Int), abL l = true → playL tq ld a b l = true → cntS tq ld a b l = (a + cntA l, b + cntB l, true)
  | [], _, _, _, _, _, _ => by simp [cntS, cntA_nil, cntB_nil]
  | c :: r, tq, ld, a, b, hl, h => by
    obtain ⟨hc, hr⟩ := abL_cons.1 hl
    unfold playL at h
    unfold cntS
    by_cases hw : wonN tq ld a b ≠ 0
    · rw [if_pos hw] at h; exact absurd h (by simp)
    · rw [if_neg hw] at h; rw [if_neg hw, cntS_full r tq ld _ _ hr h, cntA_cons, cntB_cons hc]
      simp; omega
/-- The program's look: the first letter that cannot stand at its place; true: it stands behind the end. -/
def stray (tq ld a b : Int) : List UInt8 → Option (Nat × Bool)
  | [] => none
  | c :: r => if wonN tq ld a b ≠ 0 then some (0, true) else if c = 97 ∨ c = 98 then (stray tq ld (a + upA c) (b + upB c) r).map fun x => (x.1 + 1, x.2) else some (0, false)
theorem stray_play : ∀ (l : List UInt8) (tq ld a b : Int), abL l = true → (stray tq ld a b l).isNone = playL tq ld a b l
  | [], _, _, _, _, _ => rfl
  | c :: r, tq, ld, a, b, hl => by
    obtain ⟨hc, hr⟩ := abL_cons.1 hl
    unfold stray playL
    by_cases h : wonN tq ld a b ≠ 0
    · rw [if_pos h, if_pos h]; rfl
    · rw [if_neg h, if_neg h, if_pos hc, ← stray_play r tq ld _ _ hr]; simp

/-- A play of a race. -/
def isP (tq ld : Int) (s : ByteArray) : Bool := goodR tq ld && ptsB s && playL tq ld 0 0 s.data.toList
theorem isP_true {tq ld : Int} {s : ByteArray} : isP tq ld s = true ↔ goodR tq ld = true ∧ ptsB s = true ∧ playL tq ld 0 0 s.data.toList = true := by simp [isP, and_assoc]
theorem isP_cnt {tq ld : Int} {s : ByteArray} (h : isP tq ld s = true) : cntS tq ld 0 0 s.data.toList = (cntA s.data.toList, cntB s.data.toList, true) := by
  obtain ⟨_, h2, h3⟩ := isP_true.1 h
  rw [cntS_full _ _ _ _ _ (ptsB_true.1 h2).2 h3]; simp
theorem isP_bd {tq ld : Int} {s : ByteArray} (h : isP tq ld s = true) : 0 ≤ cntA s.data.toList ∧ 0 ≤ cntB s.data.toList ∧ cntA s.data.toList + cntB s.data.toList = s.size ∧ s.size ≤ 100 ∧ (1 ≤ tq ∧ tq ≤ 30) ∧ (1 ≤ ld ∧ ld ≤ 5) := by
  obtain ⟨h1, h2, _⟩ := isP_true.1 h
  obtain ⟨h4, h5⟩ := ptsB_true.1 h2
  have := (cnt_all s.data.toList).2.2 h5
  rw [show s.data.toList.length = s.size from by simp] at this
  exact ⟨(cntA_bd _).1, (cntB_bd _).1, this, h4, goodR_bd.1 h1⟩

theorem drop_cons (s : ByteArray) (k : Nat) (h : k < s.size) : s.data.toList.drop k = s[k] :: s.data.toList.drop (k + 1) := by
  rw [List.drop_eq_getElem_cons (by simpa using h)]; rfl
theorem take_snoc (s : ByteArray) (k : Nat) (h : k < s.size) : s.data.toList.take (k + 1) = s.data.toList.take k ++ [s[k]] := by
  rw [List.take_succ_eq_append_getElem (by simpa using h)]; rfl
theorem drop_all (s : ByteArray) : s.data.toList.drop s.size = [] := List.drop_of_length_le (by simp)
theorem take_all (s : ByteArray) : s.data.toList.take s.size = s.data.toList := List.take_of_length_le (by simp)
theorem len_list (s : ByteArray) : s.data.toList.length = s.size := by simp
theorem byte_eq {c : UInt8} (n : Nat) (hn : n < 256) : ((c.toNat : Int) == (n : Int)) = decide (c = UInt8.ofNat n) := by
  rw [Bool.eq_iff_iff]; simp only [beq_iff_eq, decide_eq_true_eq]
  constructor
  · intro h
    have : c.toNat = n := by omega
    rw [← this]; simp
  · intro h; rw [h]; simp; omega
theorem b97 (c : UInt8) : ((c.toNat : Int) == 97) = decide (c = 97) := byte_eq 97 (by decide)
theorem b98 (c : UInt8) : ((c.toNat : Int) == 98) = decide (c = 98) := byte_eq 98 (by decide)
theorem n97 (c : UInt8) : ((c.toNat : Int) != 97) = !decide (c = 97) := by rw [bne, b97]
theorem n98 (c : UInt8) : ((c.toNat : Int) != 98) = !decide (c = 98) := by rw [bne, b98]
theorem size_bd (s : ByteArray) (h : ptsB s = true) : s.size ≤ 100 := (ptsB_true.1 h).1

end Go.Proofs.YtbgdngfjeikheaaDoor
