/-
  No cell of these rows narrows 'for every input' (looked for: loops, veiled, ifaces, maps, wideKeys, modest, calm, conditions, laid).
  DERIVED. THE GIVEN ROWS OF THIS SEAT. 4 by the template 'for every input the law returns true; each argument reads behind the call as it read before'; 0 by the template 'total and deterministic' (their statements: YtaplkciomagmiabTotals.lean).
  GIVEN WITH THE SEED: the statements are not yours to turn. If you find one false, say at which input.
  Laid BY PROGRAM, IN A SANDBOX (cutbox-rows.mjs): the forced cells as the released guide's own fill.sh prints them over the translation 312f21f30b996517… (all of the seat's roots in one cut). By AI agents, Wed Nov 11 2026. No macro, syntax, notation, axiom, sorry.
-/
import Derived.Test.YtaplkciomagmiabChecked
import GoSem.Claim
import GoSem.ClaimJoined
import GoSem.ClaimMapViews
import Derived.JoinedTies
import Derived.KernelRfl
namespace Go.Proofs.Ytaplkciomagmiab
/- THE CELL 'sum', in the pinned program and in every row, IS THE sha256 OF THE DUMP (.gsa) THAT YtaplkciomagmiabProg.lean LOADS. Nothing in Lean hashes anything: it is a label: what it is worth is what the hold of that sum in a sandbox is worth. -/
noncomputable def Try.pinned : Pinned := { name := "ytaplkciomagmiab", sum := "312f21f30b996517888e222f55b75a01da65bd62d0416499b9c91d23535ee133", checked := Try.checked }
namespace Rows
def none {H : Type} : Left H := { results := [], args := [] }

/-- 'laws.FnExactSetScores': WHATEVER THE INPUT: true; the input reads as it did. -/
def fnExactSetScoresSpec : ChangeSpec := { name := "fnExactSetScores", fn := fun _ => fun
  | [] => { results := [.lit (.bool true)], args := [] }
  | _ => none }
def fnExactSetScoresRow : OpenClaim := { program := "ytaplkciomagmiab", sum := "312f21f30b996517888e222f55b75a01da65bd62d0416499b9c91d23535ee133", func := "loop.example/g01368/laws.FnExactSetScores", spec := "fnExactSetScores", apart := false }
def FnExactSetScoresSaid : Prop := fnExactSetScoresRow.holds Try.pinned (OpenSpec.ofChange fnExactSetScoresSpec)

/-- ITS FALSE NEIGHBOUR: 'it returns false'. Refute it at one input. -/
def fnExactSetScoresWrong : ChangeSpec := { name := "fnExactSetScores", fn := fun _ => fun
  | [] => { results := [.lit (.bool false)], args := [] }
  | _ => none }
def FnExactSetScoresWrongFalsely : Prop := fnExactSetScoresRow.holds Try.pinned (OpenSpec.ofChange fnExactSetScoresWrong)

/-- 'laws.FnExactCountGameOrders': WHATEVER THE INPUT: true; the input reads as it did. -/
def fnExactCountGameOrdersSpec : ChangeSpec := { name := "fnExactCountGameOrders", fn := fun _ => fun
  | [d1, d2] => { results := [.lit (.bool true)], args := [d1, d2] }
  | _ => none }
def fnExactCountGameOrdersRow : OpenClaim := { program := "ytaplkciomagmiab", sum := "312f21f30b996517888e222f55b75a01da65bd62d0416499b9c91d23535ee133", func := "loop.example/g01368/laws.FnExactCountGameOrders", spec := "fnExactCountGameOrders", recurses := true, apart := false }
def FnExactCountGameOrdersSaid : Prop := fnExactCountGameOrdersRow.holds Try.pinned (OpenSpec.ofChange fnExactCountGameOrdersSpec)

/-- ITS FALSE NEIGHBOUR: 'it returns false'. Refute it at one input. -/
def fnExactCountGameOrdersWrong : ChangeSpec := { name := "fnExactCountGameOrders", fn := fun _ => fun
  | [d1, d2] => { results := [.lit (.bool false)], args := [d1, d2] }
  | _ => none }
def FnExactCountGameOrdersWrongFalsely : Prop := fnExactCountGameOrdersRow.holds Try.pinned (OpenSpec.ofChange fnExactCountGameOrdersWrong)

/-- 'laws.FnExactFirstGameOrder': WHATEVER THE INPUT: true; the input reads as it did. -/
def fnExactFirstGameOrderSpec : ChangeSpec := { name := "fnExactFirstGameOrder", fn := fun _ => fun
  | [d1, d2] => { results := [.lit (.bool true)], args := [d1, d2] }
  | _ => none }
def fnExactFirstGameOrderRow : OpenClaim := { program := "ytaplkciomagmiab", sum := "312f21f30b996517888e222f55b75a01da65bd62d0416499b9c91d23535ee133", func := "loop.example/g01368/laws.FnExactFirstGameOrder", spec := "fnExactFirstGameOrder", recurses := true, apart := false }
def FnExactFirstGameOrderSaid : Prop := fnExactFirstGameOrderRow.holds Try.pinned (OpenSpec.ofChange fnExactFirstGameOrderSpec)

/-- ITS FALSE NEIGHBOUR: 'it returns false'. Refute it at one input. -/
def fnExactFirstGameOrderWrong : ChangeSpec := { name := "fnExactFirstGameOrder", fn := fun _ => fun
  | [d1, d2] => { results := [.lit (.bool false)], args := [d1, d2] }
  | _ => none }
def FnExactFirstGameOrderWrongFalsely : Prop := fnExactFirstGameOrderRow.holds Try.pinned (OpenSpec.ofChange fnExactFirstGameOrderWrong)

/-- 'laws.FnExactLeastPointsFor': WHATEVER THE INPUT: true; the input reads as it did. -/
def fnExactLeastPointsForSpec : ChangeSpec := { name := "fnExactLeastPointsFor", fn := fun _ => fun
  | [d1, d2] => { results := [.lit (.bool true)], args := [d1, d2] }
  | _ => none }
def fnExactLeastPointsForRow : OpenClaim := { program := "ytaplkciomagmiab", sum := "312f21f30b996517888e222f55b75a01da65bd62d0416499b9c91d23535ee133", func := "loop.example/g01368/laws.FnExactLeastPointsFor", spec := "fnExactLeastPointsFor", inPlace := ["internal/bytealg.CountString", "internal/bytealg.IndexByteString", "internal/bytealg.IndexString", "internal/abi.NoEscape", "internal/bytealg.MakeNoZero"], named := ["internal/bytealg.MaxLen"], apart := false }
def FnExactLeastPointsForSaid : Prop := fnExactLeastPointsForRow.holds Try.pinned (OpenSpec.ofChange fnExactLeastPointsForSpec)

/-- ITS FALSE NEIGHBOUR: 'it returns false'. Refute it at one input. -/
def fnExactLeastPointsForWrong : ChangeSpec := { name := "fnExactLeastPointsFor", fn := fun _ => fun
  | [d1, d2] => { results := [.lit (.bool false)], args := [d1, d2] }
  | _ => none }
def FnExactLeastPointsForWrongFalsely : Prop := fnExactLeastPointsForRow.holds Try.pinned (OpenSpec.ofChange fnExactLeastPointsForWrong)

/- THE SECOND FORM. 'bulk': how many values and letters a reading holds, each counted each time it is reached (what is shared counts as often as it is met; a slice's spare places count too). A statement '..UptoSaid' is the law's where the arguments, and the package variables that the reading takes, are together of bulk at most 1048576: NARROWER than '..Said'. Prove '..Said' where nothing that the law and all that it calls make is longer than what came in: it says more and counts as full. Else prove '..UptoSaid'. A law counts once. -/
mutual
def uptoBulk {H : Type} : DataW H → Nat
  | .lit (.string bytes) => bytes.length + 1
  | .lit _ => 1
  | .nil => 1
  | .ptr d => uptoBulk d + 1
  | .slice elems spare => uptoBulkAll elems + uptoBulkAll spare + 1
  | .agg parts => uptoBulkAll parts + 1
  | .iface _ d => uptoBulk d + 1
  | .map entries => uptoBulkEntries entries + 1
  | .held _ => 1
def uptoBulkAll {H : Type} : List (DataW H) → Nat
  | [] => 0
  | d :: r => uptoBulk d + uptoBulkAll r
def uptoBulkEntries {H : Type} : List (Lit × DataW H) → Nat
  | [] => 0
  | x :: r => uptoBulkEntry x + uptoBulkEntries r
def uptoBulkEntry {H : Type} : Lit × DataW H → Nat
  | (.string bytes, d) => bytes.length + uptoBulk d + 1
  | (_, d) => uptoBulk d + 1
 end
def uptoSmall : (H : Type) → List (DataW H) → Bool := fun _ ds => decide (uptoBulkAll ds ≤ 1048576)
def OpenSpec.upto (s : _root_.Go.ChangeSpec) : _root_.Go.OpenSpec := { _root_.Go.OpenSpec.ofChange s with cond := some uptoSmall }

/-- 'laws.FnExactSetScores', WHERE WHAT IT READS IS OF BULK AT MOST 1048576: true; the input reads as it did. -/
def fnExactSetScoresUptoRow : OpenClaim := { program := "ytaplkciomagmiab", sum := "312f21f30b996517888e222f55b75a01da65bd62d0416499b9c91d23535ee133", func := "loop.example/g01368/laws.FnExactSetScores", spec := "fnExactSetScores", apart := false, narrowed := true }
def FnExactSetScoresUptoSaid : Prop := fnExactSetScoresUptoRow.holds Try.pinned (OpenSpec.upto fnExactSetScoresSpec)

/-- 'laws.FnExactCountGameOrders', WHERE WHAT IT READS IS OF BULK AT MOST 1048576: true; the input reads as it did. -/
def fnExactCountGameOrdersUptoRow : OpenClaim := { program := "ytaplkciomagmiab", sum := "312f21f30b996517888e222f55b75a01da65bd62d0416499b9c91d23535ee133", func := "loop.example/g01368/laws.FnExactCountGameOrders", spec := "fnExactCountGameOrders", recurses := true, apart := false, narrowed := true }
def FnExactCountGameOrdersUptoSaid : Prop := fnExactCountGameOrdersUptoRow.holds Try.pinned (OpenSpec.upto fnExactCountGameOrdersSpec)

/-- 'laws.FnExactFirstGameOrder', WHERE WHAT IT READS IS OF BULK AT MOST 1048576: true; the input reads as it did. -/
def fnExactFirstGameOrderUptoRow : OpenClaim := { program := "ytaplkciomagmiab", sum := "312f21f30b996517888e222f55b75a01da65bd62d0416499b9c91d23535ee133", func := "loop.example/g01368/laws.FnExactFirstGameOrder", spec := "fnExactFirstGameOrder", recurses := true, apart := false, narrowed := true }
def FnExactFirstGameOrderUptoSaid : Prop := fnExactFirstGameOrderUptoRow.holds Try.pinned (OpenSpec.upto fnExactFirstGameOrderSpec)

/-- 'laws.FnExactLeastPointsFor', WHERE WHAT IT READS IS OF BULK AT MOST 1048576: true; the input reads as it did. -/
def fnExactLeastPointsForUptoRow : OpenClaim := { program := "ytaplkciomagmiab", sum := "312f21f30b996517888e222f55b75a01da65bd62d0416499b9c91d23535ee133", func := "loop.example/g01368/laws.FnExactLeastPointsFor", spec := "fnExactLeastPointsFor", inPlace := ["internal/bytealg.CountString", "internal/bytealg.IndexByteString", "internal/bytealg.IndexString", "internal/abi.NoEscape", "internal/bytealg.MakeNoZero"], named := ["internal/bytealg.MaxLen"], apart := false, narrowed := true }
def FnExactLeastPointsForUptoSaid : Prop := fnExactLeastPointsForUptoRow.holds Try.pinned (OpenSpec.upto fnExactLeastPointsForSpec)

end Rows
end Go.Proofs.Ytaplkciomagmiab
