/-
  No cell of these rows narrows 'for every input' (looked for: loops, veiled, ifaces, maps, wideKeys, modest, calm, conditions, laid).
  DERIVED. THE GIVEN ROWS OF THIS SEAT. 4 by the template 'for every input the law returns true; each argument reads behind the call as it read before'; 0 by the template 'total and deterministic' (their statements: YtlehhkijigglgaaTotals.lean).
  GIVEN WITH THE SEED: the statements are not yours to turn. If you find one false, say at which input.
  Laid BY PROGRAM, IN A SANDBOX (cutbox-rows.mjs): the forced cells as the released guide's own fill.sh prints them over the translation 222ab843f6d39ae8… (all of the seat's roots in one cut). By AI agents, Wed Nov 11 2026. No macro, syntax, notation, axiom, sorry.
-/
import Derived.Test.YtlehhkijigglgaaChecked
import GoSem.Claim
import GoSem.ClaimJoined
import GoSem.ClaimMapViews
import Derived.JoinedTies
import Derived.KernelRfl
namespace Go.Proofs.Ytlehhkijigglgaa
/- THE CELL 'sum', in the pinned program and in every row, IS THE sha256 OF THE DUMP (.gsa) THAT YtlehhkijigglgaaProg.lean LOADS. Nothing in Lean hashes anything: it is a label: what it is worth is what the hold of that sum in a sandbox is worth. -/
noncomputable def Try.pinned : Pinned := { name := "ytlehhkijigglgaa", sum := "222ab843f6d39ae8e24c0fb63c2398cd4515c9a22de9ff4f50fb9ea73fb022d8", checked := Try.checked }
namespace Rows
def none {H : Type} : Left H := { results := [], args := [] }

/-- 'laws.FnExactIsFrame': WHATEVER THE INPUT: true; the input reads as it did. -/
def fnExactIsFrameSpec : ChangeSpec := { name := "fnExactIsFrame", fn := fun _ => fun
  | [d] => { results := [.lit (.bool true)], args := [d] }
  | _ => none }
def fnExactIsFrameRow : OpenClaim := { program := "ytlehhkijigglgaa", sum := "222ab843f6d39ae8e24c0fb63c2398cd4515c9a22de9ff4f50fb9ea73fb022d8", func := "loop.example/g01368/laws.FnExactIsFrame", spec := "fnExactIsFrame", apart := false }
def FnExactIsFrameSaid : Prop := fnExactIsFrameRow.holds Try.pinned (OpenSpec.ofChange fnExactIsFrameSpec)

/-- ITS FALSE NEIGHBOUR: 'it returns false'. Refute it at one input. -/
def fnExactIsFrameWrong : ChangeSpec := { name := "fnExactIsFrame", fn := fun _ => fun
  | [d] => { results := [.lit (.bool false)], args := [d] }
  | _ => none }
def FnExactIsFrameWrongFalsely : Prop := fnExactIsFrameRow.holds Try.pinned (OpenSpec.ofChange fnExactIsFrameWrong)

/-- 'laws.FnExactFirstFrame': WHATEVER THE INPUT: true; the input reads as it did. -/
def fnExactFirstFrameSpec : ChangeSpec := { name := "fnExactFirstFrame", fn := fun _ => fun
  | [d] => { results := [.lit (.bool true)], args := [d] }
  | _ => none }
def fnExactFirstFrameRow : OpenClaim := { program := "ytlehhkijigglgaa", sum := "222ab843f6d39ae8e24c0fb63c2398cd4515c9a22de9ff4f50fb9ea73fb022d8", func := "loop.example/g01368/laws.FnExactFirstFrame", spec := "fnExactFirstFrame", apart := false }
def FnExactFirstFrameSaid : Prop := fnExactFirstFrameRow.holds Try.pinned (OpenSpec.ofChange fnExactFirstFrameSpec)

/-- ITS FALSE NEIGHBOUR: 'it returns false'. Refute it at one input. -/
def fnExactFirstFrameWrong : ChangeSpec := { name := "fnExactFirstFrame", fn := fun _ => fun
  | [d] => { results := [.lit (.bool false)], args := [d] }
  | _ => none }
def FnExactFirstFrameWrongFalsely : Prop := fnExactFirstFrameRow.holds Try.pinned (OpenSpec.ofChange fnExactFirstFrameWrong)

/-- 'laws.FnExactMissBall': WHATEVER THE INPUT: true; the input reads as it did. -/
def fnExactMissBallSpec : ChangeSpec := { name := "fnExactMissBall", fn := fun _ => fun
  | [d] => { results := [.lit (.bool true)], args := [d] }
  | _ => none }
def fnExactMissBallRow : OpenClaim := { program := "ytlehhkijigglgaa", sum := "222ab843f6d39ae8e24c0fb63c2398cd4515c9a22de9ff4f50fb9ea73fb022d8", func := "loop.example/g01368/laws.FnExactMissBall", spec := "fnExactMissBall", apart := false }
def FnExactMissBallSaid : Prop := fnExactMissBallRow.holds Try.pinned (OpenSpec.ofChange fnExactMissBallSpec)

/-- ITS FALSE NEIGHBOUR: 'it returns false'. Refute it at one input. -/
def fnExactMissBallWrong : ChangeSpec := { name := "fnExactMissBall", fn := fun _ => fun
  | [d] => { results := [.lit (.bool false)], args := [d] }
  | _ => none }
def FnExactMissBallWrongFalsely : Prop := fnExactMissBallRow.holds Try.pinned (OpenSpec.ofChange fnExactMissBallWrong)

/-- 'laws.FnExactPointsOf': WHATEVER THE INPUT: true; the input reads as it did. -/
def fnExactPointsOfSpec : ChangeSpec := { name := "fnExactPointsOf", fn := fun _ => fun
  | [d] => { results := [.lit (.bool true)], args := [d] }
  | _ => none }
def fnExactPointsOfRow : OpenClaim := { program := "ytlehhkijigglgaa", sum := "222ab843f6d39ae8e24c0fb63c2398cd4515c9a22de9ff4f50fb9ea73fb022d8", func := "loop.example/g01368/laws.FnExactPointsOf", spec := "fnExactPointsOf", inPlace := ["internal/bytealg.IndexByteString", "internal/bytealg.IndexString"], named := ["internal/bytealg.MaxLen"], apart := false }
def FnExactPointsOfSaid : Prop := fnExactPointsOfRow.holds Try.pinned (OpenSpec.ofChange fnExactPointsOfSpec)

/-- ITS FALSE NEIGHBOUR: 'it returns false'. Refute it at one input. -/
def fnExactPointsOfWrong : ChangeSpec := { name := "fnExactPointsOf", fn := fun _ => fun
  | [d] => { results := [.lit (.bool false)], args := [d] }
  | _ => none }
def FnExactPointsOfWrongFalsely : Prop := fnExactPointsOfRow.holds Try.pinned (OpenSpec.ofChange fnExactPointsOfWrong)

/- THE SECOND FORM. 'bulk': how many values and letters a reading holds, each counted each time it is reached (what is shared counts as often as it is met; a slice's spare places count too). A statement '..UptoSaid' is the law's where the arguments, and the package variables that the reading takes, are together of bulk at most 1048576: NARROWER than '..Said'. Prove '..Said' where nothing that the law and all that it calls make is longer than what came in: it says more and counts as full. Else prove '..UptoSaid'. A law counts once. -/
mutual
def uptoBulk {H : Type} : DataW H → Nat
  | .lit (.string bytes) => bytes.length + 1
  | .lit _ => 1
  | .nil => 1
  | .ptr d => uptoBulk d + 1
  | .slice elems spare => uptoBulkAll elems + uptoBulkAll spare + 1
  | .agg parts => uptoBulkAll parts + 1
  | .iface _ d => uptoBulk d + 1
  | .map entries => uptoBulkEntries entries + 1
  | .held _ => 1
def uptoBulkAll {H : Type} : List (DataW H) → Nat
  | [] => 0
  | d :: r => uptoBulk d + uptoBulkAll r
def uptoBulkEntries {H : Type} : List (Lit × DataW H) → Nat
  | [] => 0
  | x :: r => uptoBulkEntry x + uptoBulkEntries r
def uptoBulkEntry {H : Type} : Lit × DataW H → Nat
  | (.string bytes, d) => bytes.length + uptoBulk d + 1
  | (_, d) => uptoBulk d + 1
 end
def uptoSmall : (H : Type) → List (DataW H) → Bool := fun _ ds => decide (uptoBulkAll ds ≤ 1048576)
def OpenSpec.upto (s : _root_.Go.ChangeSpec) : _root_.Go.OpenSpec := { _root_.Go.OpenSpec.ofChange s with cond := some uptoSmall }

/-- 'laws.FnExactIsFrame', WHERE WHAT IT READS IS OF BULK AT MOST 1048576: true; the input reads as it did. -/
def fnExactIsFrameUptoRow : OpenClaim := { program := "ytlehhkijigglgaa", sum := "222ab843f6d39ae8e24c0fb63c2398cd4515c9a22de9ff4f50fb9ea73fb022d8", func := "loop.example/g01368/laws.FnExactIsFrame", spec := "fnExactIsFrame", apart := false, narrowed := true }
def FnExactIsFrameUptoSaid : Prop := fnExactIsFrameUptoRow.holds Try.pinned (OpenSpec.upto fnExactIsFrameSpec)

/-- 'laws.FnExactFirstFrame', WHERE WHAT IT READS IS OF BULK AT MOST 1048576: true; the input reads as it did. -/
def fnExactFirstFrameUptoRow : OpenClaim := { program := "ytlehhkijigglgaa", sum := "222ab843f6d39ae8e24c0fb63c2398cd4515c9a22de9ff4f50fb9ea73fb022d8", func := "loop.example/g01368/laws.FnExactFirstFrame", spec := "fnExactFirstFrame", apart := false, narrowed := true }
def FnExactFirstFrameUptoSaid : Prop := fnExactFirstFrameUptoRow.holds Try.pinned (OpenSpec.upto fnExactFirstFrameSpec)

/-- 'laws.FnExactMissBall', WHERE WHAT IT READS IS OF BULK AT MOST 1048576: true; the input reads as it did. -/
def fnExactMissBallUptoRow : OpenClaim := { program := "ytlehhkijigglgaa", sum := "222ab843f6d39ae8e24c0fb63c2398cd4515c9a22de9ff4f50fb9ea73fb022d8", func := "loop.example/g01368/laws.FnExactMissBall", spec := "fnExactMissBall", apart := false, narrowed := true }
def FnExactMissBallUptoSaid : Prop := fnExactMissBallUptoRow.holds Try.pinned (OpenSpec.upto fnExactMissBallSpec)

/-- 'laws.FnExactPointsOf', WHERE WHAT IT READS IS OF BULK AT MOST 1048576: true; the input reads as it did. -/
def fnExactPointsOfUptoRow : OpenClaim := { program := "ytlehhkijigglgaa", sum := "222ab843f6d39ae8e24c0fb63c2398cd4515c9a22de9ff4f50fb9ea73fb022d8", func := "loop.example/g01368/laws.FnExactPointsOf", spec := "fnExactPointsOf", inPlace := ["internal/bytealg.IndexByteString", "internal/bytealg.IndexString"], named := ["internal/bytealg.MaxLen"], apart := false, narrowed := true }
def FnExactPointsOfUptoSaid : Prop := fnExactPointsOfUptoRow.holds Try.pinned (OpenSpec.upto fnExactPointsOfSpec)

end Rows
end Go.Proofs.Ytlehhkijigglgaa
