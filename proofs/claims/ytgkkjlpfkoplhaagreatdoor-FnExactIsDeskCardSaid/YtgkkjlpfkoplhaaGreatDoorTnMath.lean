/-
  Tennis: plain facts on games of sets, and on orders of games.
-/
import Derived.Test.YtgkkjlpfkoplhaaGreatDoorBase
namespace Go.Proofs.YtgkkjlpfkoplhaaGreatDoor

def inR (n a b : Int) : Bool := decide (a ≤ n) && decide (n ≤ b)
theorem inR_true {n a b : Int} : inR n a b = true ↔ a ≤ n ∧ n ≤ b := by simp [inR]
def setScoreB (a b : Int) : Bool := (decide (a = 6) && inR b 0 4) || (decide (a = 7) && inR b 5 6)
def maxI (a b : Int) : Int := if b < a then a else b
theorem maxI_eq (a b : Int) : maxI a b = max a b := by unfold maxI; split <;> omega
def overB (a b : Int) : Bool := (decide (6 ≤ maxI a b) && decide (2 ≤ maxI (a - b) (-(a - b)))) || decide (maxI a b = 7)
/-- Who has won a set by numbers of games: 0 nobody, 1 a, 2 b. -/
def winN (a b : Int) : Nat := if setScoreB a b then 1 else if setScoreB b a then 2 else 0
def nearB (a b : Int) : Bool := inR a 0 7 && inR b 0 7 && decide (a + b ≤ 13) && ((winN a b == 0) == !overB a b) && (overB a b || (inR a 0 6 && inR b 0 6))

theorem near_00 : nearB 0 0 = true := by decide
theorem near_fin : ∀ a b : Fin 8, nearB (a.val : Int) (b.val : Int) = true → overB (a.val : Int) (b.val : Int) = false → nearB ((a.val : Int) + 1) (b.val : Int) = true ∧ nearB (a.val : Int) ((b.val : Int) + 1) = true := by decide +kernel
theorem near_bd {a b : Int} (h : nearB a b = true) : 0 ≤ a ∧ a ≤ 7 ∧ 0 ≤ b ∧ b ≤ 7 ∧ a + b ≤ 13 := by
  simp only [nearB, Bool.and_eq_true, inR_true, decide_eq_true_eq] at h; omega
theorem near_win {a b : Int} (h : nearB a b = true) : (winN a b = 0 ↔ overB a b = false) := by
  simp only [nearB, Bool.and_eq_true] at h
  have := h.1.2
  cases ho : overB a b <;> simp_all
theorem near_open {a b : Int} (h : nearB a b = true) (ho : overB a b = false) : 0 ≤ a ∧ a ≤ 6 ∧ 0 ≤ b ∧ b ≤ 6 := by
  simp only [nearB, Bool.and_eq_true, Bool.or_eq_true, inR_true, ho] at h
  have := h.2; simp at this; omega
theorem near_step {a b : Int} (h : nearB a b = true) (ho : overB a b = false) : nearB (a + 1) b = true ∧ nearB a (b + 1) = true := by
  obtain ⟨h1, h2, h3, h4, _⟩ := near_bd h
  obtain ⟨x, rfl⟩ : ∃ x : Nat, a = x := ⟨a.toNat, by omega⟩
  obtain ⟨y, rfl⟩ : ∃ y : Nat, b = y := ⟨b.toNat, by omega⟩
  exact near_fin ⟨x, by omega⟩ ⟨y, by omega⟩ h ho

def abL (l : List UInt8) : Bool := l.all fun c => c == 97 || c == 98
/-- The program's look at an order of games, and the model's. -/
def ordI (a b : Int) : List UInt8 → Bool
  | [] => true
  | c :: r => if (c = 97 ∨ c = 98) ∧ winN a b = 0 then (if c = 97 then ordI (a + 1) b r else ordI a (b + 1) r) else false
def ordS (a b : Int) : List UInt8 → Bool
  | [] => true
  | c :: r => if overB a b then false else if c = 97 then ordS (a + 1) b r else ordS a (b + 1) r

theorem ord_eq : ∀ (l : List UInt8) (a b : Int), nearB a b = true → ordI a b l = (decide (a + b + l.length ≤ 13) && abL l && ordS a b l)
  | [], a, b, h => by
    have := near_bd h
    simp [ordI, ordS, abL]; omega
  | c :: r, a, b, h => by
    cases ho : overB a b
    · have hw := (near_win h).2 ho
      have ⟨n1, n2⟩ := near_step h ho
      have i1 := ord_eq r (a + 1) b n1
      have i2 := ord_eq r a (b + 1) n2
      by_cases h1 : c = 97
      · subst h1
        rw [ordI, if_pos ⟨.inl rfl, hw⟩, if_pos rfl, i1, ordS, ho]
        have e : decide (a + 1 + b + (r.length : Int) ≤ 13) = decide (a + b + (((97 : UInt8) :: r).length : Int) ≤ 13) := decide_eq_decide.2 (by simp; omega)
        rw [e]; simp [abL]
      · by_cases h2 : c = 98
        · subst h2
          rw [ordI, if_pos ⟨.inr rfl, hw⟩, if_neg h1, i2, ordS, ho]
          have e : decide (a + (b + 1) + (r.length : Int) ≤ 13) = decide (a + b + (((98 : UInt8) :: r).length : Int) ≤ 13) := decide_eq_decide.2 (by simp; omega)
          rw [e]; simp [abL]
        · rw [ordI, if_neg (by simp [h1, h2])]
          simp [abL, h1, h2]
    · have hw : ¬ winN a b = 0 := fun e => by rw [(near_win h).1 e] at ho; exact absurd ho (by simp)
      rw [ordI, if_neg (fun e => hw e.2), ordS, ho]; simp

end Go.Proofs.YtgkkjlpfkoplhaaGreatDoor
