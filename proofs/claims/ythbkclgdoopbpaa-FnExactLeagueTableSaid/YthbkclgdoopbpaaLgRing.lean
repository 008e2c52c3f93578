/-
  Leagues: the first ring of three teams: both sides.
-/
import Derived.Test.YthbkclgdoopbpaaLgBeat
namespace Go.Proofs.Ythbkclgdoopbpaa
open Go.RowKit
set_option linter.unusedVariables false
set_option linter.unusedSimpArgs false

def f3 (H : Nat → Nat → Nat → Bool) (T a b : Nat) : Nat → Option (Nat × Nat × Nat)
  | 0 => none
  | n + 1 => if H a b (T - (n + 1)) then some (a, b, T - (n + 1)) else f3 H T a b n
def f2 (H : Nat → Nat → Nat → Bool) (T a : Nat) : Nat → Option (Nat × Nat × Nat)
  | 0 => none
  | n + 1 => (f3 H T a (T - (n + 1)) (T - (a + 1))).or (f2 H T a n)
def f1 (H : Nat → Nat → Nat → Bool) (T : Nat) : Nat → Option (Nat × Nat × Nat)
  | 0 => none
  | n + 1 => (f2 H T (T - (n + 1)) (T - (T - (n + 1) + 1))).or (f1 H T n)
theorem f3_step (H : Nat → Nat → Nat → Bool) {T c : Nat} (a b : Nat) (h : c < T) : f3 H T a b (T - c) = if H a b c then some (a, b, c) else f3 H T a b (T - (c + 1)) := by
  obtain ⟨n, hn⟩ : ∃ n, T - c = n + 1 := ⟨T - c - 1, by omega⟩
  rw [hn, f3, show T - (n + 1) = c from by omega, show T - (c + 1) = n from by omega]
theorem f2_step (H : Nat → Nat → Nat → Bool) {T b : Nat} (a : Nat) (h : b < T) : f2 H T a (T - b) = (f3 H T a b (T - (a + 1))).or (f2 H T a (T - (b + 1))) := by
  obtain ⟨n, hn⟩ : ∃ n, T - b = n + 1 := ⟨T - b - 1, by omega⟩
  rw [hn, f2, show T - (n + 1) = b from by omega, show T - (b + 1) = n from by omega]
theorem f1_step (H : Nat → Nat → Nat → Bool) {T a : Nat} (h : a < T) : f1 H T (T - a) = (f2 H T a (T - (a + 1))).or (f1 H T (T - (a + 1))) := by
  obtain ⟨n, hn⟩ : ∃ n, T - a = n + 1 := ⟨T - a - 1, by omega⟩
  rw [hn, f1, show T - (n + 1) = a from by omega, show T - (a + 1) = n from by omega]

def ringH (l : List Rs) (a b c : Nat) : Bool := beatL l a b && (beatL l b c && beatL l c a)
def ringO (t wn : Int) (l : List Rs) : Option (Nat × Nat × Nat) := if goodL t wn l then f1 (ringH l) t.toNat t.toNat else none
def ringL : Option (Nat × Nat × Nat) → List Int
  | some r => [(r.1 : Int), (r.2.1 : Int), (r.2.2 : Int)]
  | none => []
theorem ringL_len (o : Option (Nat × Nat × Nat)) : (ringL o).length ≤ 3 := by cases o <;> simp [ringL]
theorem own_three (w : World) (x y z : Int) : (w.alloc (.cells #[.int .i64 x, .int .i64 y, .int .i64 z] 3)).ownsRow w.heap.size 3 1 (.slice (some ⟨w.heap.size, 0, none⟩) 3 3) 3 (ints [x, y, z]) :=
  RowAt.own (cs := [x, y, z]) (ObAt.new w 3 #[.int .i64 x, .int .i64 y, .int .i64 z]) (Nat.le_refl _) (by unfold maxLen; simp)
theorem owns_lower {w : World} {B B' T n size : Nat} {v : Value} {xs : List Value} (h : w.ownsRow B' T size v n xs) (hb : B ≤ B') : w.ownsRow B T size v n xs := owns_base h hb

end Go.Proofs.Ythbkclgdoopbpaa
