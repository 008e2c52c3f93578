/-
  No cell of these rows narrows 'for every input' (looked for: loops, veiled, ifaces, maps, wideKeys, modest, calm, conditions, laid).
  DERIVED. THE GIVEN ROWS OF THIS SEAT. 10 by the template 'for every input the law returns true; each argument reads behind the call as it read before'; 0 by the template 'total and deterministic' (their statements: YtaplkciomagmiaaTotals.lean).
  GIVEN WITH THE SEED: the statements are not yours to turn. If you find one false, say at which input.
  Laid BY PROGRAM, IN A SANDBOX (cutbox-rows.mjs): the forced cells as the released guide's own fill.sh prints them over the translation 4feac9faab569f07… (all of the seat's roots in one cut). By AI agents, Wed Nov 11 2026. No macro, syntax, notation, axiom, sorry.
-/
import Derived.Test.YtaplkciomagmiaaChecked
import GoSem.Claim
import GoSem.ClaimJoined
import GoSem.ClaimMapViews
import Derived.JoinedTies
import Derived.KernelRfl
namespace Go.Proofs.Ytaplkciomagmiaa
/- THE CELL 'sum', in the pinned program and in every row, IS THE sha256 OF THE DUMP (.gsa) THAT YtaplkciomagmiaaProg.lean LOADS. Nothing in Lean hashes anything: it is a label: what it is worth is what the hold of that sum in a sandbox is worth. -/
noncomputable def Try.pinned : Pinned := { name := "ytaplkciomagmiaa", sum := "4feac9faab569f07d5508234f143b1d86d15792062108cf172c72ad036257728", checked := Try.checked }
namespace Rows
def none {H : Type} : Left H := { results := [], args := [] }

/-- 'laws.FnExactCanFinish': WHATEVER THE INPUT: true; the input reads as it did. -/
def fnExactCanFinishSpec : ChangeSpec := { name := "fnExactCanFinish", fn := fun _ => fun
  | [d1, d2] => { results := [.lit (.bool true)], args := [d1, d2] }
  | _ => none }
def fnExactCanFinishRow : OpenClaim := { program := "ytaplkciomagmiaa", sum := "4feac9faab569f07d5508234f143b1d86d15792062108cf172c72ad036257728", func := "loop.example/g01368/laws.FnExactCanFinish", spec := "fnExactCanFinish", apart := false }
def FnExactCanFinishSaid : Prop := fnExactCanFinishRow.holds Try.pinned (OpenSpec.ofChange fnExactCanFinishSpec)

/-- ITS FALSE NEIGHBOUR: 'it returns false'. Refute it at one input. -/
def fnExactCanFinishWrong : ChangeSpec := { name := "fnExactCanFinish", fn := fun _ => fun
  | [d1, d2] => { results := [.lit (.bool false)], args := [d1, d2] }
  | _ => none }
def FnExactCanFinishWrongFalsely : Prop := fnExactCanFinishRow.holds Try.pinned (OpenSpec.ofChange fnExactCanFinishWrong)

/-- 'laws.FnExactHighestFinish': WHATEVER THE INPUT: true; the input reads as it did. -/
def fnExactHighestFinishSpec : ChangeSpec := { name := "fnExactHighestFinish", fn := fun _ => fun
  | [d] => { results := [.lit (.bool true)], args := [d] }
  | _ => none }
def fnExactHighestFinishRow : OpenClaim := { program := "ytaplkciomagmiaa", sum := "4feac9faab569f07d5508234f143b1d86d15792062108cf172c72ad036257728", func := "loop.example/g01368/laws.FnExactHighestFinish", spec := "fnExactHighestFinish", apart := false }
def FnExactHighestFinishSaid : Prop := fnExactHighestFinishRow.holds Try.pinned (OpenSpec.ofChange fnExactHighestFinishSpec)

/-- ITS FALSE NEIGHBOUR: 'it returns false'. Refute it at one input. -/
def fnExactHighestFinishWrong : ChangeSpec := { name := "fnExactHighestFinish", fn := fun _ => fun
  | [d] => { results := [.lit (.bool false)], args := [d] }
  | _ => none }
def FnExactHighestFinishWrongFalsely : Prop := fnExactHighestFinishRow.holds Try.pinned (OpenSpec.ofChange fnExactHighestFinishWrong)

/-- 'laws.FnExactNoFinishes': WHATEVER THE INPUT: true; the input reads as it did. -/
def fnExactNoFinishesSpec : ChangeSpec := { name := "fnExactNoFinishes", fn := fun _ => fun
  | [d1, d2] => { results := [.lit (.bool true)], args := [d1, d2] }
  | _ => none }
def fnExactNoFinishesRow : OpenClaim := { program := "ytaplkciomagmiaa", sum := "4feac9faab569f07d5508234f143b1d86d15792062108cf172c72ad036257728", func := "loop.example/g01368/laws.FnExactNoFinishes", spec := "fnExactNoFinishes", apart := false }
def FnExactNoFinishesSaid : Prop := fnExactNoFinishesRow.holds Try.pinned (OpenSpec.ofChange fnExactNoFinishesSpec)

/-- ITS FALSE NEIGHBOUR: 'it returns false'. Refute it at one input. -/
def fnExactNoFinishesWrong : ChangeSpec := { name := "fnExactNoFinishes", fn := fun _ => fun
  | [d1, d2] => { results := [.lit (.bool false)], args := [d1, d2] }
  | _ => none }
def FnExactNoFinishesWrongFalsely : Prop := fnExactNoFinishesRow.holds Try.pinned (OpenSpec.ofChange fnExactNoFinishesWrong)

/-- 'laws.FnExactFirstFinish': WHATEVER THE INPUT: true; the input reads as it did. -/
def fnExactFirstFinishSpec : ChangeSpec := { name := "fnExactFirstFinish", fn := fun _ => fun
  | [d1, d2] => { results := [.lit (.bool true)], args := [d1, d2] }
  | _ => none }
def fnExactFirstFinishRow : OpenClaim := { program := "ytaplkciomagmiaa", sum := "4feac9faab569f07d5508234f143b1d86d15792062108cf172c72ad036257728", func := "loop.example/g01368/laws.FnExactFirstFinish", spec := "fnExactFirstFinish", recurses := true, apart := false }
def FnExactFirstFinishSaid : Prop := fnExactFirstFinishRow.holds Try.pinned (OpenSpec.ofChange fnExactFirstFinishSpec)

/-- ITS FALSE NEIGHBOUR: 'it returns false'. Refute it at one input. -/
def fnExactFirstFinishWrong : ChangeSpec := { name := "fnExactFirstFinish", fn := fun _ => fun
  | [d1, d2] => { results := [.lit (.bool false)], args := [d1, d2] }
  | _ => none }
def FnExactFirstFinishWrongFalsely : Prop := fnExactFirstFinishRow.holds Try.pinned (OpenSpec.ofChange fnExactFirstFinishWrong)

/-- 'laws.FnExactCountWaysTo': WHATEVER THE INPUT: true; the input reads as it did. -/
def fnExactCountWaysToSpec : ChangeSpec := { name := "fnExactCountWaysTo", fn := fun _ => fun
  | [d1, d2] => { results := [.lit (.bool true)], args := [d1, d2] }
  | _ => none }
def fnExactCountWaysToRow : OpenClaim := { program := "ytaplkciomagmiaa", sum := "4feac9faab569f07d5508234f143b1d86d15792062108cf172c72ad036257728", func := "loop.example/g01368/laws.FnExactCountWaysTo", spec := "fnExactCountWaysTo", apart := false }
def FnExactCountWaysToSaid : Prop := fnExactCountWaysToRow.holds Try.pinned (OpenSpec.ofChange fnExactCountWaysToSpec)

/-- ITS FALSE NEIGHBOUR: 'it returns false'. Refute it at one input. -/
def fnExactCountWaysToWrong : ChangeSpec := { name := "fnExactCountWaysTo", fn := fun _ => fun
  | [d1, d2] => { results := [.lit (.bool false)], args := [d1, d2] }
  | _ => none }
def FnExactCountWaysToWrongFalsely : Prop := fnExactCountWaysToRow.holds Try.pinned (OpenSpec.ofChange fnExactCountWaysToWrong)

/-- 'laws.FnExactCanScore': WHATEVER THE INPUT: true; the input reads as it did. -/
def fnExactCanScoreSpec : ChangeSpec := { name := "fnExactCanScore", fn := fun _ => fun
  | [d1, d2] => { results := [.lit (.bool true)], args := [d1, d2] }
  | _ => none }
def fnExactCanScoreRow : OpenClaim := { program := "ytaplkciomagmiaa", sum := "4feac9faab569f07d5508234f143b1d86d15792062108cf172c72ad036257728", func := "loop.example/g01368/laws.FnExactCanScore", spec := "fnExactCanScore", apart := false }
def FnExactCanScoreSaid : Prop := fnExactCanScoreRow.holds Try.pinned (OpenSpec.ofChange fnExactCanScoreSpec)

/-- ITS FALSE NEIGHBOUR: 'it returns false'. Refute it at one input. -/
def fnExactCanScoreWrong : ChangeSpec := { name := "fnExactCanScore", fn := fun _ => fun
  | [d1, d2] => { results := [.lit (.bool false)], args := [d1, d2] }
  | _ => none }
def FnExactCanScoreWrongFalsely : Prop := fnExactCanScoreRow.holds Try.pinned (OpenSpec.ofChange fnExactCanScoreWrong)

/-- 'laws.FnExactCountScores': WHATEVER THE INPUT: true; the input reads as it did. -/
def fnExactCountScoresSpec : ChangeSpec := { name := "fnExactCountScores", fn := fun _ => fun
  | [d] => { results := [.lit (.bool true)], args := [d] }
  | _ => none }
def fnExactCountScoresRow : OpenClaim := { program := "ytaplkciomagmiaa", sum := "4feac9faab569f07d5508234f143b1d86d15792062108cf172c72ad036257728", func := "loop.example/g01368/laws.FnExactCountScores", spec := "fnExactCountScores", apart := false }
def FnExactCountScoresSaid : Prop := fnExactCountScoresRow.holds Try.pinned (OpenSpec.ofChange fnExactCountScoresSpec)

/-- ITS FALSE NEIGHBOUR: 'it returns false'. Refute it at one input. -/
def fnExactCountScoresWrong : ChangeSpec := { name := "fnExactCountScores", fn := fun _ => fun
  | [d] => { results := [.lit (.bool false)], args := [d] }
  | _ => none }
def FnExactCountScoresWrongFalsely : Prop := fnExactCountScoresRow.holds Try.pinned (OpenSpec.ofChange fnExactCountScoresWrong)

/-- 'laws.FnExactCountFinishes': WHATEVER THE INPUT: true; the input reads as it did. -/
def fnExactCountFinishesSpec : ChangeSpec := { name := "fnExactCountFinishes", fn := fun _ => fun
  | [d1, d2] => { results := [.lit (.bool true)], args := [d1, d2] }
  | _ => none }
def fnExactCountFinishesRow : OpenClaim := { program := "ytaplkciomagmiaa", sum := "4feac9faab569f07d5508234f143b1d86d15792062108cf172c72ad036257728", func := "loop.example/g01368/laws.FnExactCountFinishes", spec := "fnExactCountFinishes", apart := false }
def FnExactCountFinishesSaid : Prop := fnExactCountFinishesRow.holds Try.pinned (OpenSpec.ofChange fnExactCountFinishesSpec)

/-- ITS FALSE NEIGHBOUR: 'it returns false'. Refute it at one input. -/
def fnExactCountFinishesWrong : ChangeSpec := { name := "fnExactCountFinishes", fn := fun _ => fun
  | [d1, d2] => { results := [.lit (.bool false)], args := [d1, d2] }
  | _ => none }
def FnExactCountFinishesWrongFalsely : Prop := fnExactCountFinishesRow.holds Try.pinned (OpenSpec.ofChange fnExactCountFinishesWrong)

/-- 'laws.FnExactFewestDarts': WHATEVER THE INPUT: true; the input reads as it did. -/
def fnExactFewestDartsSpec : ChangeSpec := { name := "fnExactFewestDarts", fn := fun _ => fun
  | [d] => { results := [.lit (.bool true)], args := [d] }
  | _ => none }
def fnExactFewestDartsRow : OpenClaim := { program := "ytaplkciomagmiaa", sum := "4feac9faab569f07d5508234f143b1d86d15792062108cf172c72ad036257728", func := "loop.example/g01368/laws.FnExactFewestDarts", spec := "fnExactFewestDarts", apart := false }
def FnExactFewestDartsSaid : Prop := fnExactFewestDartsRow.holds Try.pinned (OpenSpec.ofChange fnExactFewestDartsSpec)

/-- ITS FALSE NEIGHBOUR: 'it returns false'. Refute it at one input. -/
def fnExactFewestDartsWrong : ChangeSpec := { name := "fnExactFewestDarts", fn := fun _ => fun
  | [d] => { results := [.lit (.bool false)], args := [d] }
  | _ => none }
def FnExactFewestDartsWrongFalsely : Prop := fnExactFewestDartsRow.holds Try.pinned (OpenSpec.ofChange fnExactFewestDartsWrong)

/-- 'laws.FnExactPlayLeg': WHATEVER THE INPUT: true; the input reads as it did. -/
def fnExactPlayLegSpec : ChangeSpec := { name := "fnExactPlayLeg", fn := fun _ => fun
  | [d1, d2] => { results := [.lit (.bool true)], args := [d1, d2] }
  | _ => none }
def fnExactPlayLegRow : OpenClaim := { program := "ytaplkciomagmiaa", sum := "4feac9faab569f07d5508234f143b1d86d15792062108cf172c72ad036257728", func := "loop.example/g01368/laws.FnExactPlayLeg", spec := "fnExactPlayLeg", apart := false }
def FnExactPlayLegSaid : Prop := fnExactPlayLegRow.holds Try.pinned (OpenSpec.ofChange fnExactPlayLegSpec)

/-- ITS FALSE NEIGHBOUR: 'it returns false'. Refute it at one input. -/
def fnExactPlayLegWrong : ChangeSpec := { name := "fnExactPlayLeg", fn := fun _ => fun
  | [d1, d2] => { results := [.lit (.bool false)], args := [d1, d2] }
  | _ => none }
def FnExactPlayLegWrongFalsely : Prop := fnExactPlayLegRow.holds Try.pinned (OpenSpec.ofChange fnExactPlayLegWrong)

/- THE SECOND FORM. 'bulk': how many values and letters a reading holds, each counted each time it is reached (what is shared counts as often as it is met; a slice's spare places count too). A statement '..UptoSaid' is the law's where the arguments, and the package variables that the reading takes, are together of bulk at most 1048576: NARROWER than '..Said'. Prove '..Said' where nothing that the law and all that it calls make is longer than what came in: it says more and counts as full. Else prove '..UptoSaid'. A law counts once. -/
mutual
def uptoBulk {H : Type} : DataW H → Nat
  | .lit (.string bytes) => bytes.length + 1
  | .lit _ => 1
  | .nil => 1
  | .ptr d => uptoBulk d + 1
  | .slice elems spare => uptoBulkAll elems + uptoBulkAll spare + 1
  | .agg parts => uptoBulkAll parts + 1
  | .iface _ d => uptoBulk d + 1
  | .map entries => uptoBulkEntries entries + 1
  | .held _ => 1
def uptoBulkAll {H : Type} : List (DataW H) → Nat
  | [] => 0
  | d :: r => uptoBulk d + uptoBulkAll r
def uptoBulkEntries {H : Type} : List (Lit × DataW H) → Nat
  | [] => 0
  | x :: r => uptoBulkEntry x + uptoBulkEntries r
def uptoBulkEntry {H : Type} : Lit × DataW H → Nat
  | (.string bytes, d) => bytes.length + uptoBulk d + 1
  | (_, d) => uptoBulk d + 1
 end
def uptoSmall : (H : Type) → List (DataW H) → Bool := fun _ ds => decide (uptoBulkAll ds ≤ 1048576)
def OpenSpec.upto (s : _root_.Go.ChangeSpec) : _root_.Go.OpenSpec := { _root_.Go.OpenSpec.ofChange s with cond := some uptoSmall }

/-- 'laws.FnExactCanFinish', WHERE WHAT IT READS IS OF BULK AT MOST 1048576: true; the input reads as it did. -/
def fnExactCanFinishUptoRow : OpenClaim := { program := "ytaplkciomagmiaa", sum := "4feac9faab569f07d5508234f143b1d86d15792062108cf172c72ad036257728", func := "loop.example/g01368/laws.FnExactCanFinish", spec := "fnExactCanFinish", apart := false, narrowed := true }
def FnExactCanFinishUptoSaid : Prop := fnExactCanFinishUptoRow.holds Try.pinned (OpenSpec.upto fnExactCanFinishSpec)

/-- 'laws.FnExactHighestFinish', WHERE WHAT IT READS IS OF BULK AT MOST 1048576: true; the input reads as it did. -/
def fnExactHighestFinishUptoRow : OpenClaim := { program := "ytaplkciomagmiaa", sum := "4feac9faab569f07d5508234f143b1d86d15792062108cf172c72ad036257728", func := "loop.example/g01368/laws.FnExactHighestFinish", spec := "fnExactHighestFinish", apart := false, narrowed := true }
def FnExactHighestFinishUptoSaid : Prop := fnExactHighestFinishUptoRow.holds Try.pinned (OpenSpec.upto fnExactHighestFinishSpec)

/-- 'laws.FnExactNoFinishes', WHERE WHAT IT READS IS OF BULK AT MOST 1048576: true; the input reads as it did. -/
def fnExactNoFinishesUptoRow : OpenClaim := { program := "ytaplkciomagmiaa", sum := "4feac9faab569f07d5508234f143b1d86d15792062108cf172c72ad036257728", func := "loop.example/g01368/laws.FnExactNoFinishes", spec := "fnExactNoFinishes", apart := false, narrowed := true }
def FnExactNoFinishesUptoSaid : Prop := fnExactNoFinishesUptoRow.holds Try.pinned (OpenSpec.upto fnExactNoFinishesSpec)

/-- 'laws.FnExactFirstFinish', WHERE WHAT IT READS IS OF BULK AT MOST 1048576: true; the input reads as it did. -/
def fnExactFirstFinishUptoRow : OpenClaim := { program := "ytaplkciomagmiaa", sum := "4feac9faab569f07d5508234f143b1d86d15792062108cf172c72ad036257728", func := "loop.example/g01368/laws.FnExactFirstFinish", spec := "fnExactFirstFinish", recurses := true, apart := false, narrowed := true }
def FnExactFirstFinishUptoSaid : Prop := fnExactFirstFinishUptoRow.holds Try.pinned (OpenSpec.upto fnExactFirstFinishSpec)

/-- 'laws.FnExactCountWaysTo', WHERE WHAT IT READS IS OF BULK AT MOST 1048576: true; the input reads as it did. -/
def fnExactCountWaysToUptoRow : OpenClaim := { program := "ytaplkciomagmiaa", sum := "4feac9faab569f07d5508234f143b1d86d15792062108cf172c72ad036257728", func := "loop.example/g01368/laws.FnExactCountWaysTo", spec := "fnExactCountWaysTo", apart := false, narrowed := true }
def FnExactCountWaysToUptoSaid : Prop := fnExactCountWaysToUptoRow.holds Try.pinned (OpenSpec.upto fnExactCountWaysToSpec)

/-- 'laws.FnExactCanScore', WHERE WHAT IT READS IS OF BULK AT MOST 1048576: true; the input reads as it did. -/
def fnExactCanScoreUptoRow : OpenClaim := { program := "ytaplkciomagmiaa", sum := "4feac9faab569f07d5508234f143b1d86d15792062108cf172c72ad036257728", func := "loop.example/g01368/laws.FnExactCanScore", spec := "fnExactCanScore", apart := false, narrowed := true }
def FnExactCanScoreUptoSaid : Prop := fnExactCanScoreUptoRow.holds Try.pinned (OpenSpec.upto fnExactCanScoreSpec)

/-- 'laws.FnExactCountScores', WHERE WHAT IT READS IS OF BULK AT MOST 1048576: true; the input reads as it did. -/
def fnExactCountScoresUptoRow : OpenClaim := { program := "ytaplkciomagmiaa", sum := "4feac9faab569f07d5508234f143b1d86d15792062108cf172c72ad036257728", func := "loop.example/g01368/laws.FnExactCountScores", spec := "fnExactCountScores", apart := false, narrowed := true }
def FnExactCountScoresUptoSaid : Prop := fnExactCountScoresUptoRow.holds Try.pinned (OpenSpec.upto fnExactCountScoresSpec)

/-- 'laws.FnExactCountFinishes', WHERE WHAT IT READS IS OF BULK AT MOST 1048576: true; the input reads as it did. -/
def fnExactCountFinishesUptoRow : OpenClaim := { program := "ytaplkciomagmiaa", sum := "4feac9faab569f07d5508234f143b1d86d15792062108cf172c72ad036257728", func := "loop.example/g01368/laws.FnExactCountFinishes", spec := "fnExactCountFinishes", apart := false, narrowed := true }
def FnExactCountFinishesUptoSaid : Prop := fnExactCountFinishesUptoRow.holds Try.pinned (OpenSpec.upto fnExactCountFinishesSpec)

/-- 'laws.FnExactFewestDarts', WHERE WHAT IT READS IS OF BULK AT MOST 1048576: true; the input reads as it did. -/
def fnExactFewestDartsUptoRow : OpenClaim := { program := "ytaplkciomagmiaa", sum := "4feac9faab569f07d5508234f143b1d86d15792062108cf172c72ad036257728", func := "loop.example/g01368/laws.FnExactFewestDarts", spec := "fnExactFewestDarts", apart := false, narrowed := true }
def FnExactFewestDartsUptoSaid : Prop := fnExactFewestDartsUptoRow.holds Try.pinned (OpenSpec.upto fnExactFewestDartsSpec)

/-- 'laws.FnExactPlayLeg', WHERE WHAT IT READS IS OF BULK AT MOST 1048576: true; the input reads as it did. -/
def fnExactPlayLegUptoRow : OpenClaim := { program := "ytaplkciomagmiaa", sum := "4feac9faab569f07d5508234f143b1d86d15792062108cf172c72ad036257728", func := "loop.example/g01368/laws.FnExactPlayLeg", spec := "fnExactPlayLeg", apart := false, narrowed := true }
def FnExactPlayLegUptoSaid : Prop := fnExactPlayLegUptoRow.holds Try.pinned (OpenSpec.upto fnExactPlayLegSpec)

end Rows
end Go.Proofs.Ytaplkciomagmiaa
