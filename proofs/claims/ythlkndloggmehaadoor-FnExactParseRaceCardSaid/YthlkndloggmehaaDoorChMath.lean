/-
  Chances: plain facts on odds and on lowest terms.
-/
import Derived.Test.YthlkndloggmehaaDoorBase
namespace Go.Proofs.YthlkndloggmehaaDoor
open Go.RowKit

def inR (n a b : Int) : Bool := decide (a ≤ n) && decide (n ≤ b)
theorem inR_true {n a b : Int} : inR n a b = true ↔ a ≤ n ∧ n ≤ b := by simp [inR]
/-- Odds: a part of a whole. -/
def goodO (n d : Int) : Bool := inR d 1 10 && inR n 0 d
theorem goodO_bd {n d : Int} : goodO n d = true ↔ (1 ≤ d ∧ d ≤ 10) ∧ (0 ≤ n ∧ n ≤ d) := by simp [goodO, inR]
/-- Odds by which both can win. -/
def openO (n d : Int) : Bool := goodO n d && inR n 1 (d - 1)
theorem openO_bd {n d : Int} : openO n d = true ↔ (1 ≤ d ∧ d ≤ 10) ∧ (1 ≤ n ∧ n < d) := by
  simp only [openO, goodO, inR, Bool.and_eq_true, decide_eq_true_eq]; omega

/-- A fraction in lowest terms. -/
def lowA (n d : Nat) : Nat := n / Nat.gcd n d
def lowB (n d : Nat) : Nat := d / Nat.gcd n d

/-- Both win two points in a row, of so many pairs. -/
def onlyO (n d : Int) : Nat × Nat := (n.toNat, (d - n).toNat)
def deuA (n d : Int) : Int := if openO n d then (lowA (n.toNat * n.toNat) (n.toNat * n.toNat + (d - n).toNat * (d - n).toNat) : Nat) else 0
def deuB (n d : Int) : Int := if openO n d then (lowB (n.toNat * n.toNat) (n.toNat * n.toNat + (d - n).toNat * (d - n).toNat) : Nat) else 0
def mdeA (n d : Int) : Int := if openO n d then (lowA (2 * d.toNat * d.toNat) (n.toNat * n.toNat + (d - n).toNat * (d - n).toNat) : Nat) else 0
def mdeB (n d : Int) : Int := if openO n d then (lowB (2 * d.toNat * d.toNat) (n.toNat * n.toNat + (d - n).toNat * (d - n).toNat) : Nat) else 0

/-- Odds opened: their numbers, the squares, and what the machine reckons of them. -/
structure OpenD (n d : Int) (p q s e : Nat) : Prop where
  pn : n * n = p
  qn : (d - n) * (d - n) = q
  sn : (p : Int) + q = s
  en : 2 * d * d = e
  s1 : 1 ≤ s
  s2 : s ≤ 100
  p2 : p ≤ 100
  q2 : q ≤ 100
  e2 : e ≤ 200
theorem open_sq {n d : Int} (h : openO n d = true) : ∃ p q s e : Nat, OpenD n d p q s e ∧ deuA n d = (lowA p s : Nat) ∧ deuB n d = (lowB p s : Nat) ∧ mdeA n d = (lowA e s : Nat) ∧ mdeB n d = (lowB e s : Nat) := by
  have hb := openO_bd.1 h
  obtain ⟨a, rfl⟩ : ∃ a : Nat, n = a := ⟨n.toNat, by omega⟩
  obtain ⟨b, hbb⟩ : ∃ b : Nat, d = ((a + b : Nat) : Int) := ⟨(d - a).toNat, by omega⟩
  subst hbb
  have e1 : ((a + b : Nat) : Int) - (a : Int) = (b : Int) := by omega
  have m1 : a * a ≤ 10 * 10 := Nat.mul_le_mul (by omega) (by omega)
  have m2 : b * b ≤ 10 * 10 := Nat.mul_le_mul (by omega) (by omega)
  have m3 : (a + b) * (a + b) ≤ 10 * 10 := Nat.mul_le_mul (by omega) (by omega)
  have m4 : 1 * 1 ≤ a * a := Nat.mul_le_mul (by omega) (by omega)
  have m5 : (a + b) * (a + b) = a * a + b * b + 2 * (a * b) := by rw [Nat.add_mul, Nat.mul_add, Nat.mul_add, Nat.mul_comm b a]; omega
  refine ⟨a * a, b * b, a * a + b * b, 2 * (a + b) * (a + b), ⟨by push_cast; rfl, by rw [e1]; push_cast; rfl, by push_cast; rfl, by push_cast; rfl, by omega, by omega, by omega, by omega, by rw [Nat.mul_assoc]; omega⟩, ?_⟩
  simp only [deuA, deuB, mdeA, mdeB, h, e1, Int.toNat_natCast, if_true]
  simp

theorem open_not {n d : Int} (h : openO n d = false) : deuA n d = 0 ∧ deuB n d = 0 ∧ mdeA n d = 0 ∧ mdeB n d = 0 := by
  simp [deuA, deuB, mdeA, mdeB, h]
end Go.Proofs.YthlkndloggmehaaDoor
