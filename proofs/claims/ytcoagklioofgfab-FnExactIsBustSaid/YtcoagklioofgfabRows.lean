/-
  No cell of these rows narrows 'for every input' (looked for: loops, veiled, ifaces, maps, wideKeys, modest, calm, conditions, laid).
  DERIVED. THE GIVEN ROWS OF THIS SEAT. 5 by the template 'for every input the law returns true; each argument reads behind the call as it read before'; 0 by the template 'total and deterministic' (their statements: YtcoagklioofgfabTotals.lean).
  GIVEN WITH THE SEED: the statements are not yours to turn. If you find one false, say at which input.
  Laid BY PROGRAM, IN A SANDBOX (cutbox-rows.mjs): the forced cells as the released guide's own fill.sh prints them over the translation d13396a8afd3a5aa… (all of the seat's roots in one cut). By AI agents, Wed Nov 11 2026. No macro, syntax, notation, axiom, sorry.
-/
import Derived.Test.YtcoagklioofgfabChecked
import GoSem.Claim
import GoSem.ClaimJoined
import GoSem.ClaimMapViews
import Derived.JoinedTies
import Derived.KernelRfl
namespace Go.Proofs.Ytcoagklioofgfab
/- THE CELL 'sum', in the pinned program and in every row, IS THE sha256 OF THE DUMP (.gsa) THAT YtcoagklioofgfabProg.lean LOADS. Nothing in Lean hashes anything: it is a label: what it is worth is what the hold of that sum in a sandbox is worth. -/
noncomputable def Try.pinned : Pinned := { name := "ytcoagklioofgfab", sum := "d13396a8afd3a5aa33c527ee0a79e8293d78001de20f4d8b83ecb04e8c749804", checked := Try.checked }
namespace Rows
def none {H : Type} : Left H := { results := [], args := [] }

/-- 'laws.FnExactIsBust': WHATEVER THE INPUT: true; the input reads as it did. -/
def fnExactIsBustSpec : ChangeSpec := { name := "fnExactIsBust", fn := fun _ => fun
  | [d1, d2] => { results := [.lit (.bool true)], args := [d1, d2] }
  | _ => none }
def fnExactIsBustRow : OpenClaim := { program := "ytcoagklioofgfab", sum := "d13396a8afd3a5aa33c527ee0a79e8293d78001de20f4d8b83ecb04e8c749804", func := "loop.example/g01368/laws.FnExactIsBust", spec := "fnExactIsBust", apart := false }
def FnExactIsBustSaid : Prop := fnExactIsBustRow.holds Try.pinned (OpenSpec.ofChange fnExactIsBustSpec)

/-- ITS FALSE NEIGHBOUR: 'it returns false'. Refute it at one input. -/
def fnExactIsBustWrong : ChangeSpec := { name := "fnExactIsBust", fn := fun _ => fun
  | [d1, d2] => { results := [.lit (.bool false)], args := [d1, d2] }
  | _ => none }
def FnExactIsBustWrongFalsely : Prop := fnExactIsBustRow.holds Try.pinned (OpenSpec.ofChange fnExactIsBustWrong)

/-- 'laws.FnExactPlayLeg': WHATEVER THE INPUT: true; the input reads as it did. -/
def fnExactPlayLegSpec : ChangeSpec := { name := "fnExactPlayLeg", fn := fun _ => fun
  | [d1, d2] => { results := [.lit (.bool true)], args := [d1, d2] }
  | _ => none }
def fnExactPlayLegRow : OpenClaim := { program := "ytcoagklioofgfab", sum := "d13396a8afd3a5aa33c527ee0a79e8293d78001de20f4d8b83ecb04e8c749804", func := "loop.example/g01368/laws.FnExactPlayLeg", spec := "fnExactPlayLeg", apart := false }
def FnExactPlayLegSaid : Prop := fnExactPlayLegRow.holds Try.pinned (OpenSpec.ofChange fnExactPlayLegSpec)

/-- ITS FALSE NEIGHBOUR: 'it returns false'. Refute it at one input. -/
def fnExactPlayLegWrong : ChangeSpec := { name := "fnExactPlayLeg", fn := fun _ => fun
  | [d1, d2] => { results := [.lit (.bool false)], args := [d1, d2] }
  | _ => none }
def FnExactPlayLegWrongFalsely : Prop := fnExactPlayLegRow.holds Try.pinned (OpenSpec.ofChange fnExactPlayLegWrong)

/-- 'laws.FnExactBesideOf': WHATEVER THE INPUT: true; the input reads as it did. -/
def fnExactBesideOfSpec : ChangeSpec := { name := "fnExactBesideOf", fn := fun _ => fun
  | [d] => { results := [.lit (.bool true)], args := [d] }
  | _ => none }
def fnExactBesideOfRow : OpenClaim := { program := "ytcoagklioofgfab", sum := "d13396a8afd3a5aa33c527ee0a79e8293d78001de20f4d8b83ecb04e8c749804", func := "loop.example/g01368/laws.FnExactBesideOf", spec := "fnExactBesideOf", apart := false }
def FnExactBesideOfSaid : Prop := fnExactBesideOfRow.holds Try.pinned (OpenSpec.ofChange fnExactBesideOfSpec)

/-- ITS FALSE NEIGHBOUR: 'it returns false'. Refute it at one input. -/
def fnExactBesideOfWrong : ChangeSpec := { name := "fnExactBesideOf", fn := fun _ => fun
  | [d] => { results := [.lit (.bool false)], args := [d] }
  | _ => none }
def FnExactBesideOfWrongFalsely : Prop := fnExactBesideOfRow.holds Try.pinned (OpenSpec.ofChange fnExactBesideOfWrong)

/-- 'laws.FnExactStepsAround': WHATEVER THE INPUT: true; the input reads as it did. -/
def fnExactStepsAroundSpec : ChangeSpec := { name := "fnExactStepsAround", fn := fun _ => fun
  | [d1, d2] => { results := [.lit (.bool true)], args := [d1, d2] }
  | _ => none }
def fnExactStepsAroundRow : OpenClaim := { program := "ytcoagklioofgfab", sum := "d13396a8afd3a5aa33c527ee0a79e8293d78001de20f4d8b83ecb04e8c749804", func := "loop.example/g01368/laws.FnExactStepsAround", spec := "fnExactStepsAround", apart := false }
def FnExactStepsAroundSaid : Prop := fnExactStepsAroundRow.holds Try.pinned (OpenSpec.ofChange fnExactStepsAroundSpec)

/-- ITS FALSE NEIGHBOUR: 'it returns false'. Refute it at one input. -/
def fnExactStepsAroundWrong : ChangeSpec := { name := "fnExactStepsAround", fn := fun _ => fun
  | [d1, d2] => { results := [.lit (.bool false)], args := [d1, d2] }
  | _ => none }
def FnExactStepsAroundWrongFalsely : Prop := fnExactStepsAroundRow.holds Try.pinned (OpenSpec.ofChange fnExactStepsAroundWrong)

/-- 'laws.FnExactBestArc': WHATEVER THE INPUT: true; the input reads as it did. -/
def fnExactBestArcSpec : ChangeSpec := { name := "fnExactBestArc", fn := fun _ => fun
  | [d] => { results := [.lit (.bool true)], args := [d] }
  | _ => none }
def fnExactBestArcRow : OpenClaim := { program := "ytcoagklioofgfab", sum := "d13396a8afd3a5aa33c527ee0a79e8293d78001de20f4d8b83ecb04e8c749804", func := "loop.example/g01368/laws.FnExactBestArc", spec := "fnExactBestArc", apart := false }
def FnExactBestArcSaid : Prop := fnExactBestArcRow.holds Try.pinned (OpenSpec.ofChange fnExactBestArcSpec)

/-- ITS FALSE NEIGHBOUR: 'it returns false'. Refute it at one input. -/
def fnExactBestArcWrong : ChangeSpec := { name := "fnExactBestArc", fn := fun _ => fun
  | [d] => { results := [.lit (.bool false)], args := [d] }
  | _ => none }
def FnExactBestArcWrongFalsely : Prop := fnExactBestArcRow.holds Try.pinned (OpenSpec.ofChange fnExactBestArcWrong)

/- THE SECOND FORM. 'bulk': how many values and letters a reading holds, each counted each time it is reached (what is shared counts as often as it is met; a slice's spare places count too). A statement '..UptoSaid' is the law's where the arguments, and the package variables that the reading takes, are together of bulk at most 1048576: NARROWER than '..Said'. Prove '..Said' where nothing that the law and all that it calls make is longer than what came in: it says more and counts as full. Else prove '..UptoSaid'. A law counts once. -/
mutual
def uptoBulk {H : Type} : DataW H → Nat
  | .lit (.string bytes) => bytes.length + 1
  | .lit _ => 1
  | .nil => 1
  | .ptr d => uptoBulk d + 1
  | .slice elems spare => uptoBulkAll elems + uptoBulkAll spare + 1
  | .agg parts => uptoBulkAll parts + 1
  | .iface _ d => uptoBulk d + 1
  | .map entries => uptoBulkEntries entries + 1
  | .held _ => 1
def uptoBulkAll {H : Type} : List (DataW H) → Nat
  | [] => 0
  | d :: r => uptoBulk d + uptoBulkAll r
def uptoBulkEntries {H : Type} : List (Lit × DataW H) → Nat
  | [] => 0
  | x :: r => uptoBulkEntry x + uptoBulkEntries r
def uptoBulkEntry {H : Type} : Lit × DataW H → Nat
  | (.string bytes, d) => bytes.length + uptoBulk d + 1
  | (_, d) => uptoBulk d + 1
 end
def uptoSmall : (H : Type) → List (DataW H) → Bool := fun _ ds => decide (uptoBulkAll ds ≤ 1048576)
def OpenSpec.upto (s : _root_.Go.ChangeSpec) : _root_.Go.OpenSpec := { _root_.Go.OpenSpec.ofChange s with cond := some uptoSmall }

/-- 'laws.FnExactIsBust', WHERE WHAT IT READS IS OF BULK AT MOST 1048576: true; the input reads as it did. -/
def fnExactIsBustUptoRow : OpenClaim := { program := "ytcoagklioofgfab", sum := "d13396a8afd3a5aa33c527ee0a79e8293d78001de20f4d8b83ecb04e8c749804", func := "loop.example/g01368/laws.FnExactIsBust", spec := "fnExactIsBust", apart := false, narrowed := true }
def FnExactIsBustUptoSaid : Prop := fnExactIsBustUptoRow.holds Try.pinned (OpenSpec.upto fnExactIsBustSpec)

/-- 'laws.FnExactPlayLeg', WHERE WHAT IT READS IS OF BULK AT MOST 1048576: true; the input reads as it did. -/
def fnExactPlayLegUptoRow : OpenClaim := { program := "ytcoagklioofgfab", sum := "d13396a8afd3a5aa33c527ee0a79e8293d78001de20f4d8b83ecb04e8c749804", func := "loop.example/g01368/laws.FnExactPlayLeg", spec := "fnExactPlayLeg", apart := false, narrowed := true }
def FnExactPlayLegUptoSaid : Prop := fnExactPlayLegUptoRow.holds Try.pinned (OpenSpec.upto fnExactPlayLegSpec)

/-- 'laws.FnExactBesideOf', WHERE WHAT IT READS IS OF BULK AT MOST 1048576: true; the input reads as it did. -/
def fnExactBesideOfUptoRow : OpenClaim := { program := "ytcoagklioofgfab", sum := "d13396a8afd3a5aa33c527ee0a79e8293d78001de20f4d8b83ecb04e8c749804", func := "loop.example/g01368/laws.FnExactBesideOf", spec := "fnExactBesideOf", apart := false, narrowed := true }
def FnExactBesideOfUptoSaid : Prop := fnExactBesideOfUptoRow.holds Try.pinned (OpenSpec.upto fnExactBesideOfSpec)

/-- 'laws.FnExactStepsAround', WHERE WHAT IT READS IS OF BULK AT MOST 1048576: true; the input reads as it did. -/
def fnExactStepsAroundUptoRow : OpenClaim := { program := "ytcoagklioofgfab", sum := "d13396a8afd3a5aa33c527ee0a79e8293d78001de20f4d8b83ecb04e8c749804", func := "loop.example/g01368/laws.FnExactStepsAround", spec := "fnExactStepsAround", apart := false, narrowed := true }
def FnExactStepsAroundUptoSaid : Prop := fnExactStepsAroundUptoRow.holds Try.pinned (OpenSpec.upto fnExactStepsAroundSpec)

/-- 'laws.FnExactBestArc', WHERE WHAT IT READS IS OF BULK AT MOST 1048576: true; the input reads as it did. -/
def fnExactBestArcUptoRow : OpenClaim := { program := "ytcoagklioofgfab", sum := "d13396a8afd3a5aa33c527ee0a79e8293d78001de20f4d8b83ecb04e8c749804", func := "loop.example/g01368/laws.FnExactBestArc", spec := "fnExactBestArc", apart := false, narrowed := true }
def FnExactBestArcUptoSaid : Prop := fnExactBestArcUptoRow.holds Try.pinned (OpenSpec.upto fnExactBestArcSpec)

end Rows
end Go.Proofs.Ytcoagklioofgfab
