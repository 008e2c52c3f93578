/-
  Frames: a frame is told by how many balls are left, 0..36.
-/
import Derived.Test.YtaplkciomagmiabDoorBase
namespace Go.Proofs.YtaplkciomagmiabDoor
open Go.RowKit

def inR (n a b : Int) : Bool := decide (a ≤ n) && decide (n ≤ b)

def frG (r : Int) (c : Bool) (l : Int) : Bool :=
  if c then inR r 0 14 && decide (l = 2) else if r = 0 then inR l 2 8 else inR r 1 15 && decide (l = 2)

def frR (n : Nat) : Int := ((n - 6) / 2 : Nat)
def frC (n : Nat) : Bool := decide (6 < n ∧ n % 2 = 1)
def frL (n : Nat) : Int := if n ≤ 6 then 8 - n else 2

theorem frG_n {r : Int} {c : Bool} {l : Int} (h : frG r c l = true) : ∃ n : Nat, n ≤ 36 ∧ r = frR n ∧ c = frC n ∧ l = frL n := by
  unfold frG inR at h
  cases c with
  | true =>
    simp only [if_true, Bool.and_eq_true, decide_eq_true_eq] at h
    refine ⟨7 + 2 * r.toNat, by omega, by unfold frR; omega, ?_, ?_⟩
    · unfold frC; symm; simp; omega
    · unfold frL; rw [if_neg (by omega)]; omega
  | false =>
    simp only [Bool.false_eq_true, if_false] at h
    split at h
    · simp only [Bool.and_eq_true, decide_eq_true_eq] at h
      refine ⟨(8 - l).toNat, by omega, by unfold frR; omega, ?_, ?_⟩
      · unfold frC; symm; simp; omega
      · unfold frL; rw [if_pos (by omega)]; omega
    · simp only [Bool.and_eq_true, decide_eq_true_eq] at h
      refine ⟨6 + 2 * r.toNat, by omega, by unfold frR; omega, ?_, ?_⟩
      · unfold frC; symm; simp
      · unfold frL; rw [if_neg (by omega)]; omega

theorem frG_of {n : Nat} (h : n ≤ 36) : frG (frR n) (frC n) (frL n) = true := by
  have : ∀ m, m ≤ 36 → frG (frR m) (frC m) (frL m) = true := by decide +kernel
  exact this n h

theorem fr_shape (n : Nat) : n = 0 ∨ (1 ≤ n ∧ n ≤ 6) ∨ (∃ r, n = 7 + 2 * r) ∨ (∃ r, n = 8 + 2 * r) := by
  by_cases h : n ≤ 6
  · omega
  · by_cases h2 : n % 2 = 1
    · exact .inr (.inr (.inl ⟨(n - 7) / 2, by omega⟩))
    · exact .inr (.inr (.inr ⟨(n - 8) / 2, by omega⟩))

theorem frC_last {n : Nat} (h : n ≤ 6) : frC n = false := by unfold frC; simp; omega
theorem frR_last {n : Nat} (h : n ≤ 6) : frR n = 0 := by unfold frR; omega
theorem frL_last {n : Nat} (h : n ≤ 6) : frL n = 8 - n := by unfold frL; rw [if_pos h]
theorem frC_col (r : Nat) : frC (7 + 2 * r) = true := by unfold frC; simp; omega
theorem frR_col (r : Nat) : frR (7 + 2 * r) = r := by unfold frR; omega
theorem frL_col (r : Nat) : frL (7 + 2 * r) = 2 := by unfold frL; rw [if_neg (by omega)]
theorem frC_red (r : Nat) : frC (8 + 2 * r) = false := by unfold frC; simp
theorem frR_red (r : Nat) : frR (8 + 2 * r) = r + 1 := by unfold frR; omega
theorem frL_red (r : Nat) : frL (8 + 2 * r) = 2 := by unfold frL; rw [if_neg (by omega)]

/-- The balls that may be potted, increasing. -/
def nextL (n : Nat) : List UInt8 :=
  if n = 0 then [] else if n ≤ 6 then [UInt8.ofNat (56 - n)] else if n % 2 = 1 then [50, 51, 52, 53, 54, 55] else [49]
def nextS (n : Nat) : ByteArray := ⟨(nextL n).toArray⟩

theorem nextL_0 : nextL 0 = [] := rfl
theorem nextL_last {n : Nat} (h : 1 ≤ n) (h6 : n ≤ 6) : nextL n = [UInt8.ofNat (56 - n)] := by unfold nextL; rw [if_neg (by omega), if_pos h6]
theorem nextL_col (r : Nat) : nextL (7 + 2 * r) = [50, 51, 52, 53, 54, 55] := by unfold nextL; rw [if_neg (by omega), if_neg (by omega), if_pos (by omega)]
theorem nextL_red (r : Nat) : nextL (8 + 2 * r) = [49] := by unfold nextL; rw [if_neg (by omega), if_neg (by omega), if_neg (by omega)]

/-- The frame behind a break, if it is one. -/
def after : Nat → List UInt8 → Option Nat
  | n, [] => some n
  | 0, _ :: _ => none
  | n + 1, c :: cs => if c ∈ nextL (n + 1) then after n cs else none

theorem after_len : ∀ (n : Nat) (l : List UInt8) (m : Nat), after n l = some m → l.length + m = n
  | n, [], m, h => by simp [after] at h; simpa using h.symm
  | 0, _ :: _, m, h => by simp [after] at h
  | n + 1, c :: cs, m, h => by
    unfold after at h
    split at h
    · have := after_len n cs m h
      simp only [List.length_cons]; omega
    · cases h

theorem after_snoc : ∀ (n : Nat) (l : List UInt8) (m : Nat) (c : UInt8), after n l = some (m + 1) → after n (l ++ [c]) = if c ∈ nextL (m + 1) then some m else none
  | n, [], m, c, h => by
    simp only [after, Option.some.injEq] at h; subst h
    simp [after]
  | 0, _ :: _, m, c, h => by simp [after] at h
  | n + 1, d :: cs, m, c, h => by
    unfold after at h
    split at h
    · rename_i hd
      rw [List.cons_append, after, if_pos hd, after_snoc n cs m c h]
    · cases h

theorem after_dead : ∀ (n : Nat) (l k : List UInt8), after n l = none → after n (l ++ k) = none
  | n, [], k, h => by simp [after] at h
  | 0, _ :: _, k, h => by simp [after]
  | n + 1, d :: cs, k, h => by
    unfold after at h
    rw [List.cons_append, after]
    split at h
    · rename_i hd; rw [if_pos hd, after_dead n cs k h]
    · rename_i hd; rw [if_neg hd]

theorem after_over (n : Nat) (l : List UInt8) (c : UInt8) (k : List UInt8) (h : after n l = some 0) : after n (l ++ c :: k) = none := by
  have : ∀ (n : Nat) (l : List UInt8), after n l = some 0 → after n (l ++ c :: k) = none := by
    intro n
    induction n with
    | zero =>
      intro l h
      match l, h with
      | [], _ => simp [after]
      | _ :: _, h => simp [after] at h
    | succ n ih =>
      intro l h
      match l, h with
      | [], h => simp [after] at h
      | d :: cs, h =>
        unfold after at h
        split at h
        · rename_i hd
          rw [List.cons_append, after, if_pos hd]
          exact ih cs h
        · cases h
  exact this n l h

/-- The points of balls. -/
def pts (l : List UInt8) : Int := (l.map fun c => (c.toNat : Int) - 48).sum
theorem pts_snoc (l : List UInt8) (c : UInt8) : pts (l ++ [c]) = pts l + ((c.toNat : Int) - 48) := by simp [pts]
theorem pts_bd (l : List UInt8) : -(48 * l.length) ≤ pts l ∧ pts l ≤ 207 * l.length := by
  induction l with
  | nil => simp [pts]
  | cons c cs ih =>
    have h : pts (c :: cs) = ((c.toNat : Int) - 48) + pts cs := by simp [pts]
    have h2 := c.toNat_lt
    rw [h]; simp only [List.length_cons]; omega

def digB (c : UInt8) : Bool := decide (49 ≤ c.toNat) && decide (c.toNat ≤ 55)
def digL (l : List UInt8) : Bool := l.all digB
theorem digL_cons (c : UInt8) (l : List UInt8) : digL (c :: l) = (digB c && digL l) := by simp [digL]

theorem next_dig {n : Nat} (hn : n ≤ 36) : ∀ c ∈ nextL n, digB c = true := by
  have : ∀ m, m ≤ 36 → ∀ c ∈ nextL m, digB c = true := by decide +kernel
  exact this n hn

theorem after_dig : ∀ (n : Nat) (l : List UInt8) (m : Nat), n ≤ 36 → after n l = some m → digL l = true
  | n, [], m, _, h => rfl
  | 0, _ :: _, m, _, h => by simp [after] at h
  | n + 1, c :: cs, m, hn, h => by
    unfold after at h
    split at h
    · rename_i hc
      rw [digL_cons, next_dig hn c hc, after_dig n cs m (by omega) h]; rfl
    · cases h

/-- All balls potted, each time the last, or the first, of those that may be. -/
def highL : Nat → List UInt8
  | 0 => []
  | n + 1 => (nextL (n + 1)).getLast?.getD 0 :: highL n
def lowL : Nat → List UInt8
  | 0 => []
  | n + 1 => (nextL (n + 1)).head?.getD 0 :: lowL n
theorem highL_len : ∀ n, (highL n).length = n
  | 0 => rfl
  | n + 1 => by simp [highL, highL_len n]
theorem lowL_len : ∀ n, (lowL n).length = n
  | 0 => rfl
  | n + 1 => by simp [lowL, lowL_len n]
theorem highL_dig {n : Nat} (h : n ≤ 36) : digL (highL n) = true := by
  have : ∀ m, m ≤ 36 → digL (highL m) = true := by decide +kernel
  exact this n h
theorem lowL_dig {n : Nat} (h : n ≤ 36) : digL (lowL n) = true := by
  have : ∀ m, m ≤ 36 → digL (lowL m) = true := by decide +kernel
  exact this n h
theorem high_pts {n : Nat} (h : n ≤ 36) : 0 ≤ pts (highL n) ∧ pts (highL n) ≤ 147 := by
  have : ∀ m, m ≤ 36 → 0 ≤ pts (highL m) ∧ pts (highL m) ≤ 147 := by decide +kernel
  exact this n h

/-- How many breaks of just k balls there are. -/
def cntBr : Nat → Nat → Nat
  | _, 0 => 1
  | 0, _ + 1 => 0
  | n + 1, k + 1 => (nextL (n + 1)).length * cntBr n k
theorem cntBr_step {n k : Nat} (hn : n ≤ 36) (hk : k < n) : cntBr n (k + 1) = cntBr n k * (nextL (n - k)).length := by
  have : ∀ m, m ≤ 36 → ∀ j, j < m → cntBr m (j + 1) = cntBr m j * (nextL (m - j)).length := by decide +kernel
  exact this n hn k hk
theorem cntBr_bd {n k : Nat} (hn : n ≤ 36) (hk : k ≤ 36) : cntBr n k ≤ 1000000000000 := by
  have : ∀ m, m ≤ 36 → ∀ j, j ≤ 36 → cntBr m j ≤ 1000000000000 := by decide +kernel
  exact this n hn k hk
theorem cntBr_over : ∀ {n k : Nat}, n < k → cntBr n k = 0
  | 0, k + 1, _ => rfl
  | n + 1, k + 1, h => by rw [cntBr, cntBr_over (by omega : n < k), Nat.mul_zero]
theorem next_len_bd (n : Nat) : (nextL n).length ≤ 6 := by unfold nextL; repeat' split
                                                           all_goals simp
theorem next_len_pos {n : Nat} (h : 1 ≤ n) : 1 ≤ (nextL n).length := by
  unfold nextL; rw [if_neg (by omega)]; repeat' split
  all_goals simp

end Go.Proofs.YtaplkciomagmiabDoor
