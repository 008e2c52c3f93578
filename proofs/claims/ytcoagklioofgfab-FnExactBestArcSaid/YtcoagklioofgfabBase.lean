/-
  Plain lemmas that every text of this seat uses: worlds that only grow, boxed structs, names hidden from the walk.
-/
import Derived.Test.YtcoagklioofgfabRows
import Derived.WalkKit
import Derived.ProofKit
import Derived.OpenShut
import Derived.ShutString
import Derived.ChangeOld
import Derived.Below
import Derived.Lib.SmallJoins
import Derived.Lib.Hide
import Derived.Deep.QuietTactic
import Derived.BigQuiet
import Derived.Outline
import Derived.ChangeKeysEq
namespace Go.Proofs.Ytcoagklioofgfab
open Go.RowKit

theorem bcell {W w1 : World} (hb : Below W.heap.size W w1) : (∀ b o, b < W.heap.size → w1.cell? ⟨b, o, none⟩ = W.cell? ⟨b, o, none⟩) ∧ (∀ b o, b < W.heap.size → w1.frozen? ⟨b, o, none⟩ = W.frozen? ⟨b, o, none⟩) :=
  ⟨fun b o h => hb.cell (p := ⟨b, o, none⟩) h, fun b o h => hb.frozen (p := ⟨b, o, none⟩) h⟩

theorem ret_int {k : IntKind} {a b : Int} (h : a = b) : Ending.returned (.int k a) = .returned (.int k b) := by rw [h]
theorem ret_bool {a b : Bool} (h : a = b) : Ending.returned (.bool a) = .returned (.bool b) := by rw [h]

/-- 'a[k]' of an array that is a value: element k, of one cell. -/
theorem run_index_agg {P : Program} {t e : TypeId} {n k : Nat} {cs : Array Value} {v : Value} {i : TypeInfo} (K : IntKind) (ht : P.underlying t = some (.array n e)) (hk : k < n)
    (hi : P.info? e = some i) (hone : P.cellsOf e = 1) (hp : P.plainKey e = true) (hv : cs[k]? = some v) (w : World) : (Instr.index t (.agg cs) (.int K k)).run P w = .ok v w := by
  have hk' : (0 : Int) ≤ (k : Int) ∧ (k : Int) < (n : Int) := by omega
  have h1 := run_sizeOf (P := P) (w := w) hi
  have h2 := run_part_plain (P := P) (w := w) hp (xs := cs) (off := k) hv
  rw [hone] at h1
  simp [Instr.index, asIntOf, run_underlying ht, hk', h1, h2]
  intro h; omega

/-- A composite literal, its cells under one name. -/
theorem wpList_build_to {P : Program} {ops : Array Oper} {rest : List Oper} {o : Oper} {a : Act} {w : World} {Q : Exit → Act → World → Prop} (hg : o.guard = none) (t : TypeId) (parts : Array (Nat × Operand)) (ho : o.op = .build t parts)
    (d : Option Tmp) (hd : o.dst = d) (cells : Array Value) (hf : P.built t (parts.map fun (i, x) => (i, a.eval x)).toList = some cells)
    (h : wpList P ops Q rest (a.put d (.agg cells)) w) : wpList P ops Q (o :: rest) a w := by
  subst hd
  refine wpList_build hg t parts ho (by rw [hf]; rfl) ?_
  rw [hf]
  exact h

end Go.Proofs.Ytcoagklioofgfab
