/-
  Tennis: game orders: the table of them, and the list of them (plain).
-/
import Derived.Test.YtaplkciomagmiabTnSide
import Derived.Laws.Strings
namespace Go.Proofs.Ytaplkciomagmiab
open Go.RowKit
set_option linter.unusedVariables false
set_option linter.unusedSimpArgs false

/-- Orders, with those of another place that one game more leads on. -/
def withG (o x : Nat × List UInt8) (c : UInt8) : Nat × List UInt8 :=
  (o.1 + x.1, if 0 < x.1 ∧ (o.1 = 0 ∨ Op.bytesLess (x.2 ++ [c]) o.2 = true) then x.2 ++ [c] else o.2)
def tg (t : List (Nat × List UInt8)) (i : Nat) : Nat × List UInt8 := t.getD i (0, [])
def tstep (t : List (Nat × List UInt8)) (x y : Nat) : List (Nat × List UInt8) :=
  if winN x y = 0 then
    (t.set (8 * (x + 1) + y) (withG (tg t (8 * (x + 1) + y)) (tg t (8 * x + y)) 97)).set (8 * x + (y + 1)) (withG (tg t (8 * x + (y + 1))) (tg t (8 * x + y)) 98)
  else t
def tab0 : List (Nat × List UInt8) := (List.replicate 64 (0, [])).set 0 (1, [])
def tabN : Nat → List (Nat × List UInt8)
  | 0 => tab0
  | n + 1 => tstep (tabN n) (n / 7) (n % 7)
def okB (t : List (Nat × List UInt8)) : Bool := t.length == 64 && t.all fun g => decide (g.1 ≤ 1000000) && decide (g.2.length ≤ 20)
def okAll : Nat → Nat → List (Nat × List UInt8) → Bool
  | 0, _, t => okB t
  | k + 1, n, t => okB t && okAll k (n + 1) (tstep t (n / 7) (n % 7))
theorem okAll_all : ∀ (k n : Nat), okAll k n (tabN n) = true → ∀ j, j ≤ k → okB (tabN (n + j)) = true
  | 0, n, h, j, hj => by obtain rfl : j = 0 := by omega
                         exact h
  | k + 1, n, h, j, hj => by
    rw [okAll, Bool.and_eq_true] at h
    cases j with
    | zero => exact h.1
    | succ j =>
      have := okAll_all k (n + 1) h.2 j (by omega)
      rw [show n + (j + 1) = n + 1 + j from by omega]; exact this
set_option maxRecDepth 100000 in
theorem tab_okB : okAll 49 0 tab0 = true := by decide +kernel
theorem tab_ok {n : Nat} (hn : n ≤ 49) : (tabN n).length = 64 ∧ ∀ i, (tg (tabN n) i).1 ≤ 1000000 ∧ (tg (tabN n) i).2.length ≤ 20 := by
  have h := okAll_all 49 0 tab_okB n hn
  rw [Nat.zero_add] at h
  unfold okB at h
  rw [Bool.and_eq_true, beq_iff_eq, List.all_eq_true] at h
  refine ⟨h.1, fun i => ?_⟩
  unfold tg
  by_cases hi : i < (tabN n).length
  · have := h.2 ((tabN n)[i]) (List.getElem_mem hi)
    simp only [Bool.and_eq_true, decide_eq_true_eq] at this
    simpa [hi] using this
  · simp [List.getElem?_eq_none (Nat.le_of_not_lt hi), List.getD]

/-- The orders that lead from x and y games on, in order. -/
def ord (a b : Nat) : Nat → Nat → Nat → List UInt8 → List (List UInt8)
  | 0, _, _, _ => []
  | f + 1, x, y, l => if x = a ∧ y = b then [l] else if overB x y then [] else
    (if x < a then ord a b f (x + 1) y (l ++ [97]) else []) ++ (if y < b then ord a b f x (y + 1) (l ++ [98]) else [])
def same (t : List (Nat × List UInt8)) (a b : Nat) : Bool :=
  (ord a b 15 0 0 []).length == (tg t (8 * a + b)).1 && (ord a b 15 0 0 []).head?.getD [] == (tg t (8 * a + b)).2
set_option maxRecDepth 100000 in
theorem same_all : ((List.range 8).all fun a => (List.range 8).all fun b => same (tabN 49) a b) = true := by decide +kernel
theorem same_at {a b : Nat} (ha : a ≤ 7) (hb : b ≤ 7) : (ord a b 15 0 0 []).length = (tg (tabN 49) (8 * a + b)).1 ∧ (ord a b 15 0 0 []).head?.getD [] = (tg (tabN 49) (8 * a + b)).2 := by
  have h := same_all
  rw [List.all_eq_true] at h
  have h1 := h a (List.mem_range.2 (by omega))
  rw [List.all_eq_true] at h1
  have h2 := h1 b (List.mem_range.2 (by omega))
  unfold same at h2
  simpa using h2
end Go.Proofs.Ytaplkciomagmiab
