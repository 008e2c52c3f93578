/-
  The model splits a text at a byte.
-/
import Derived.Test.YtgkkjlpfkoplhaaDoorLqRead
import Derived.OwnWalk
import Derived.Maps.AppendAt
namespace Go.Proofs.YtgkkjlpfkoplhaaDoor
open Go.RowKit
set_option linter.unusedVariables false

def strS (l : List ByteArray) : List Value := l.map Value.string
theorem strS_append (l m : List ByteArray) : strS (l ++ m) = strS l ++ strS m := by simp [strS]
/-- What is still to come: n bytes are still to be looked at, the piece under way began at f. -/
def cutS (s : ByteArray) (b : UInt8) : Nat → Nat → List ByteArray
  | 0, f => [s.extract f s.size]
  | n + 1, f => if s.data.toList[s.size - (n + 1)]? = some b then s.extract f (s.size - (n + 1)) :: cutS s b n (s.size - (n + 1) + 1) else cutS s b n f
def CutAt (s : ByteArray) (b : UInt8) (w : World) (n f : Nat) (v : Value) (wr : World) : Prop :=
  ∃ xs : List ByteArray, xs ++ cutS s b n f = cutS s b s.size 0 ∧ xs.length + n ≤ s.size ∧ wr.ownsRow w.heap.size 9 1 v xs.length (strS xs) ∧ Below w.heap.size w wr
theorem infoS : (Tryd.prog.info? 9).map (fun i => (i.zero, i.size, i.bytes)) = some (some (.string ⟨#[]⟩), 1, 16) := by kernel_rfl
theorem beqB (c k : UInt8) : ((c.toNat : Int) == (k.toNat : Int)) = decide (c = k) := by
  rw [Bool.eq_iff_iff]; simp only [beq_iff_eq, decide_eq_true_eq]
  constructor
  · intro h; exact UInt8.toNat_inj.1 (by omega)
  · intro h; rw [h]

end Go.Proofs.YtgkkjlpfkoplhaaDoor
