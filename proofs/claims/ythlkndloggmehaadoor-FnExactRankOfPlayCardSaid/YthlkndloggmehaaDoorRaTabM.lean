/-
  Races, plain facts: plays from a score to another one: how many, forwards and backwards, and told no further than some cap.
-/
import Derived.Test.YthlkndloggmehaaDoorRaMath
namespace Go.Proofs.YthlkndloggmehaaDoor
set_option linter.unusedVariables false

/-- How many ways of n points lead from x, y to A, B, if none goes on where one has won. -/
def ways (tq ld : Int) : Nat → Int → Int → Int → Int → Nat
  | 0, x, y, A, B => if x = A ∧ y = B then 1 else 0
  | n + 1, x, y, A, B => if wonN tq ld x y = 0 then ways tq ld n (x + 1) y A B + ways tq ld n x (y + 1) A B else 0
/-- The last point apart. -/
theorem ways_last (tq ld : Int) : ∀ (n : Nat) (x y A B : Int), ways tq ld (n + 1) x y A B =
    (if wonN tq ld (A - 1) B = 0 then ways tq ld n x y (A - 1) B else 0) + (if wonN tq ld A (B - 1) = 0 then ways tq ld n x y A (B - 1) else 0)
  | 0, x, y, A, B => by
    have e1 : (x + 1 = A ∧ y = B) ↔ (x = A - 1 ∧ y = B) := by omega
    have e2 : (x = A ∧ y + 1 = B) ↔ (x = A ∧ y = B - 1) := by omega
    simp only [ways, e1, e2]
    by_cases h1 : x = A - 1 ∧ y = B
    · obtain ⟨rfl, rfl⟩ := h1
      rw [if_neg (show ¬ (A - 1 = A ∧ y = y - 1) by omega)]; simp
    · rw [if_neg h1]
      by_cases h2 : x = A ∧ y = B - 1
      · obtain ⟨rfl, rfl⟩ := h2; simp
      · rw [if_neg h2]; simp
  | n + 1, x, y, A, B => by
    rw [ways, ways_last tq ld n (x + 1) y A B, ways_last tq ld n x (y + 1) A B, ways, ways]
    split <;> split <;> split <;> omega
theorem ways_off (tq ld : Int) : ∀ (n : Nat) (x y A B : Int), (A < x ∨ B < y) → ways tq ld n x y A B = 0
  | 0, x, y, A, B, h => by rw [ways, if_neg (by omega)]
  | n + 1, x, y, A, B, h => by
    rw [ways, ways_off tq ld n (x + 1) y A B (by omega), ways_off tq ld n x (y + 1) A B (by omega)]; split <;> rfl

def capR : Int := 1000000000000001
def capM (n : Int) : Int := if n < capR then n else capR
theorem capM_bd {n : Int} (h : 0 ≤ n) : 0 ≤ capM n ∧ capM n ≤ capR := by unfold capM capR; split <;> omega
theorem capM_add {m n : Int} (h : 0 ≤ m) (h' : 0 ≤ n) : capM (capM m + capM n) = capM (m + n) := by
  unfold capM capR; repeat' split
  all_goals omega

/-- Plays on from x, y to A, B. -/
def onR (tq ld A B x y : Int) : Int := capM (ways tq ld (A + B - x - y).toNat x y A B)
/-- Plays that lead to x, y. -/
def upR (tq ld x y : Int) : Int := capM (ways tq ld (x + y).toNat 0 0 x y)
theorem onR_bd (tq ld A B x y : Int) : 0 ≤ onR tq ld A B x y ∧ onR tq ld A B x y ≤ capR := capM_bd (by omega)
theorem upR_bd (tq ld x y : Int) : 0 ≤ upR tq ld x y ∧ upR tq ld x y ≤ capR := capM_bd (by omega)
theorem on_up (tq ld A B : Int) : onR tq ld A B 0 0 = upR tq ld A B := by unfold onR upR; rw [show A + B - 0 - 0 = A + B from by omega]
theorem onR_off (tq ld A B x y : Int) (h : A < x ∨ B < y) : onR tq ld A B x y = 0 := by unfold onR; rw [ways_off _ _ _ _ _ _ _ h]; rfl
theorem onR_end (tq ld A B : Int) : onR tq ld A B A B = 1 := by
  unfold onR; rw [show (A + B - A - B).toNat = 0 from by omega]; unfold ways; rw [if_pos ⟨rfl, rfl⟩]; rfl
theorem onR_won {tq ld A B x y : Int} (h : wonN tq ld x y ≠ 0) (hx : x ≤ A) (hy : y ≤ B) (hn : ¬ (x = A ∧ y = B)) : onR tq ld A B x y = 0 := by
  unfold onR
  obtain ⟨n, hn⟩ : ∃ n, (A + B - x - y).toNat = n + 1 := ⟨(A + B - x - y).toNat - 1, by omega⟩
  rw [hn, ways, if_neg h]; rfl
theorem onR_open {tq ld A B x y : Int} (h : wonN tq ld x y = 0) (hx : x ≤ A) (hy : y ≤ B) (hn : ¬ (x = A ∧ y = B)) :
    onR tq ld A B x y = capM (onR tq ld A B (x + 1) y + onR tq ld A B x (y + 1)) := by
  unfold onR
  obtain ⟨n, hn⟩ : ∃ n, (A + B - x - y).toNat = n + 1 := ⟨(A + B - x - y).toNat - 1, by omega⟩
  rw [hn, show (A + B - (x + 1) - y).toNat = n from by omega, show (A + B - x - (y + 1)).toNat = n from by omega, ways, if_pos h, capM_add (by omega) (by omega)]
  rw [Int.natCast_add]
/-- A score that is reached from here: it is open or the end. -/
theorem onR_pos {tq ld A B x y : Int} (h : 0 < onR tq ld A B x y) : x ≤ A ∧ y ≤ B ∧ (wonN tq ld x y = 0 ∨ x = A ∧ y = B) := by
  have h1 : x ≤ A := by
    by_cases h2 : A < x
    · rw [onR_off _ _ _ _ _ _ (.inl h2)] at h; omega
    · omega
  have h3 : y ≤ B := by
    by_cases h2 : B < y
    · rw [onR_off _ _ _ _ _ _ (.inr h2)] at h; omega
    · omega
  refine ⟨h1, h3, ?_⟩
  by_cases h4 : x = A ∧ y = B
  · exact .inr h4
  · by_cases h5 : wonN tq ld x y = 0
    · exact .inl h5
    · rw [onR_won h5 h1 h3 h4] at h; omega
/-- The model's way forward. -/
theorem upR_zero (tq ld : Int) : upR tq ld 0 0 = 1 := by
  unfold upR; rw [show ((0 : Int) + 0).toNat = 0 from rfl]; unfold ways; rw [if_pos ⟨rfl, rfl⟩]; rfl
def upA1 (tq ld x y : Int) : Int := if 0 < x ∧ wonN tq ld (x - 1) y = 0 then upR tq ld (x - 1) y else 0
def upB1 (tq ld x y : Int) : Int := if 0 < y ∧ wonN tq ld x (y - 1) = 0 then upR tq ld x (y - 1) else 0
theorem ways_neg (tq ld : Int) : ∀ (n : Nat) (x y : Int), (x < 0 ∨ y < 0) → ways tq ld n 0 0 x y = 0 := fun n x y h => ways_off tq ld n 0 0 x y h
theorem upR_step {tq ld x y : Int} (hx : 0 ≤ x) (hy : 0 ≤ y) (hn : ¬ (x = 0 ∧ y = 0)) : upR tq ld x y = capM (upA1 tq ld x y + upB1 tq ld x y) := by
  unfold upA1 upB1 upR
  obtain ⟨n, hn⟩ : ∃ n, (x + y).toNat = n + 1 := ⟨(x + y).toNat - 1, by omega⟩
  rw [hn, show (x - 1 + y).toNat = n from by omega, show (x + (y - 1)).toNat = n from by omega, ways_last]
  have ea : (if 0 < x ∧ wonN tq ld (x - 1) y = 0 then capM (ways tq ld n 0 0 (x - 1) y) else 0) = capM ((if wonN tq ld (x - 1) y = 0 then ways tq ld n 0 0 (x - 1) y else 0 : Nat) : Int) := by
    by_cases h1 : wonN tq ld (x - 1) y = 0
    · by_cases h2 : 0 < x
      · rw [if_pos ⟨h2, h1⟩, if_pos h1]
      · rw [if_neg (by omega), if_pos h1, ways_neg _ _ _ _ _ (.inl (by omega))]; rfl
    · rw [if_neg (by simp [h1]), if_neg h1]; rfl
  have eb : (if 0 < y ∧ wonN tq ld x (y - 1) = 0 then capM (ways tq ld n 0 0 x (y - 1)) else 0) = capM ((if wonN tq ld x (y - 1) = 0 then ways tq ld n 0 0 x (y - 1) else 0 : Nat) : Int) := by
    by_cases h1 : wonN tq ld x (y - 1) = 0
    · by_cases h2 : 0 < y
      · rw [if_pos ⟨h2, h1⟩, if_pos h1]
      · rw [if_neg (by omega), if_pos h1, ways_neg _ _ _ _ _ (.inr (by omega))]; rfl
    · rw [if_neg (by simp [h1]), if_neg h1]; rfl
  rw [ea, eb, capM_add (by omega) (by omega), Int.natCast_add]

/-- The play from x, y to A, B before which r others come. -/
def rankP (tq ld A B : Int) : Nat → Int → Int → Int → List UInt8
  | 0, _, _, _ => []
  | n + 1, x, y, r => if r < onR tq ld A B (x + 1) y then 97 :: rankP tq ld A B n (x + 1) y r else 98 :: rankP tq ld A B n x (y + 1) (r - onR tq ld A B (x + 1) y)
theorem rank_a {tq ld A B x y r : Int} {n : Nat} (h : r < onR tq ld A B (x + 1) y) : rankP tq ld A B (n + 1) x y r = 97 :: rankP tq ld A B n (x + 1) y r := by rw [rankP, if_pos h]
theorem rank_b {tq ld A B x y r : Int} {n : Nat} (h : ¬ r < onR tq ld A B (x + 1) y) : rankP tq ld A B (n + 1) x y r = 98 :: rankP tq ld A B n x (y + 1) (r - onR tq ld A B (x + 1) y) := by rw [rankP, if_neg h]
theorem rank_keep {tq ld A B x y r : Int} (h0 : 0 ≤ r) (h : r < onR tq ld A B x y) (hn : ¬ (x = A ∧ y = B)) (h2 : ¬ r < onR tq ld A B (x + 1) y) : r - onR tq ld A B (x + 1) y < onR tq ld A B x (y + 1) := by
  obtain ⟨h3, h4, h5⟩ := onR_pos (show 0 < onR tq ld A B x y by omega)
  rcases h5 with h5 | h5
  · rw [onR_open h5 h3 h4 hn] at h
    have : ∀ z : Int, capM z ≤ z := fun z => by unfold capM; split <;> omega
    have := this (onR tq ld A B (x + 1) y + onR tq ld A B x (y + 1))
    omega
  · exact absurd h5 hn
/-- How many plays come before these points, from x, y on. -/
def beforeP (tq ld A B : Int) : Int → Int → List UInt8 → Int
  | _, _, [] => 0
  | x, y, c :: r => if c = 97 then beforeP tq ld A B (x + 1) y r else onR tq ld A B (x + 1) y + beforeP tq ld A B x (y + 1) r
theorem before_bd (tq ld A B : Int) : ∀ (l : List UInt8) (x y : Int), 0 ≤ beforeP tq ld A B x y l ∧ beforeP tq ld A B x y l ≤ capR * l.length
  | [], _, _ => by simp [beforeP]
  | c :: r, x, y => by
    have h1 := before_bd tq ld A B r (x + 1) y
    have h2 := before_bd tq ld A B r x (y + 1)
    have h3 := onR_bd tq ld A B (x + 1) y
    unfold beforeP
    rw [List.length_cons, Int.natCast_succ, Int.mul_add, Int.mul_one]
    split <;> unfold capR at * <;> omega

/-- A table of which the rows from k on, and of the row ahead of these the cells from j on, are done. -/
def doneF (tq ld A B : Int) (k j a b : Int) : Int := if k ≤ a ∨ (a = k - 1 ∧ j ≤ b) then onR tq ld A B a b else if a = A ∧ b = B then 1 else 0
theorem done_start {tq ld A B a b : Int} (ha : a ≤ A + 1) (hb : b ≤ B + 1) : doneF tq ld A B (A + 1) (B + 1) a b = if a = A ∧ b = B then 1 else 0 := by
  unfold doneF
  by_cases h : A + 1 ≤ a ∨ (a = A + 1 - 1 ∧ B + 1 ≤ b)
  · rw [if_pos h, if_neg (by omega), onR_off _ _ _ _ _ _ (by omega)]
  · rw [if_neg h]
theorem done_put {tq ld A B k j : Int} (a b : Int) : doneF tq ld A B k (j - 1) a b = if a = k - 1 ∧ b = j - 1 then onR tq ld A B (k - 1) (j - 1) else doneF tq ld A B k j a b := by
  unfold doneF
  by_cases e : a = k - 1 ∧ b = j - 1
  · obtain ⟨rfl, rfl⟩ := e
    rw [if_pos (.inr ⟨rfl, by omega⟩), if_pos ⟨rfl, rfl⟩]
  · rw [if_neg e]
    by_cases e2 : k ≤ a ∨ (a = k - 1 ∧ j ≤ b)
    · rw [if_pos e2, if_pos (by omega)]
    · rw [if_neg e2, if_neg (by omega)]
theorem done_row {tq ld A B k : Int} {a b : Int} (hb0 : 0 ≤ b) (hb : b ≤ B + 1) : doneF tq ld A B (k - 1) (B + 1) a b = doneF tq ld A B k 0 a b := by
  unfold doneF
  by_cases e : k ≤ a ∨ (a = k - 1 ∧ 0 ≤ b)
  · rw [if_pos e, if_pos (by omega)]
  · rw [if_neg e]
    by_cases e2 : k - 1 ≤ a ∨ (a = k - 1 - 1 ∧ B + 1 ≤ b)
    · rw [if_pos e2, if_neg (by omega), onR_off _ _ _ _ _ _ (by omega)]
    · rw [if_neg e2]
theorem done_all {tq ld A B : Int} {a b : Int} (ha : 0 ≤ a) : doneF tq ld A B 0 (B + 1) a b = onR tq ld A B a b := by
  unfold doneF; rw [if_pos (.inl ha)]
/-- What is read ahead of a step. -/
theorem done_here {tq ld A B k j : Int} : doneF tq ld A B k j (k - 1) (j - 1) = if k - 1 = A ∧ j - 1 = B then 1 else 0 := by
  unfold doneF; rw [if_neg (by omega)]
theorem done_a {tq ld A B k j : Int} : doneF tq ld A B k j (k - 1 + 1) (j - 1) = onR tq ld A B (k - 1 + 1) (j - 1) := by
  unfold doneF; rw [if_pos (by omega)]
theorem done_b {tq ld A B k j : Int} : doneF tq ld A B k j (k - 1) (j - 1 + 1) = onR tq ld A B (k - 1) (j - 1 + 1) := by
  unfold doneF; rw [if_pos (by omega)]
theorem step_open {tq ld A B x y : Int} (h : wonN tq ld x y = 0) (hx : x ≤ A) (hy : y ≤ B) :
    capM ((if x = A ∧ y = B then 1 else 0) + onR tq ld A B (x + 1) y + onR tq ld A B x (y + 1)) = onR tq ld A B x y := by
  by_cases e : x = A ∧ y = B
  · obtain ⟨rfl, rfl⟩ := e
    rw [if_pos ⟨rfl, rfl⟩, onR_off _ _ _ _ _ _ (.inl (by omega)), onR_off _ _ _ _ _ _ (.inr (by omega)), onR_end]; rfl
  · rw [if_neg e, onR_open h hx hy e, Int.zero_add]
theorem step_won {tq ld A B x y : Int} (h : wonN tq ld x y ≠ 0) (hx : x ≤ A) (hy : y ≤ B) : (if x = A ∧ y = B then 1 else 0) = onR tq ld A B x y := by
  by_cases e : x = A ∧ y = B
  · obtain ⟨rfl, rfl⟩ := e; rw [if_pos ⟨rfl, rfl⟩, onR_end]
  · rw [if_neg e, onR_won h hx hy e]

end Go.Proofs.YthlkndloggmehaaDoor
