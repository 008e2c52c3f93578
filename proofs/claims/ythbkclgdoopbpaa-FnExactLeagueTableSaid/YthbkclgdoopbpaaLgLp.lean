/-
  Leagues: the points of each team: both sides.
-/
import Derived.Test.YthbkclgdoopbpaaLgStand
import Derived.Test.YthbkclgdoopbpaaLgLawS
namespace Go.Proofs.Ythbkclgdoopbpaa
open Go.RowKit
set_option linter.unusedVariables false
set_option linter.unusedSimpArgs false

theorem field_pts (a b c d : Value) (w : World) : (Instr.field 81 (.agg #[a, b, c, d]) 1).run Try.prog w = .ok b w := by kernel_rfl
theorem rowF_snoc (k : Nat) (f : Int → Int) : rowF (k + 1) f = rowF k f ++ [f k] := by simp [rowF, List.range_succ]
/-- The points that a league's teams have: none if it is no league. -/
def ptsV (t wn : Int) (l : List Rs) : List Int := if goodL t wn l then rowF t.toNat (fun i => ptsT wn l i) else []
theorem ptsV_len (t wn : Int) (l : List Rs) : (ptsV t wn l).length ≤ 8 := by
  unfold ptsV
  by_cases h : goodL t wn l = true
  · rw [if_pos h, rowF_len]; have := goodL_bd h; omega
  · rw [if_neg h]; simp

def PtAt (w : World) (T : Nat) (wn : Int) (l : List Rs) (ad : Option Addr) (c : Nat) (k : Nat) (v : Value) (wr : World) : Prop :=
  ObAt wr w.heap.size 40 #[.int .i64 T, .int .i64 wn, .slice ad l.length c] ∧ wr.ownsRow w.heap.size 3 1 v k (ints (rowF k (fun i => ptsT wn l i))) ∧ Below w.heap.size w wr

end Go.Proofs.Ythbkclgdoopbpaa
