/-
  No cell of these rows narrows 'for every input' (looked for: loops, veiled, ifaces, maps, wideKeys, modest, calm, conditions, laid).
  DERIVED. THE GIVEN ROWS OF THIS SEAT. 19 by the template 'for every input the law returns true; each argument reads behind the call as it read before'; 0 by the template 'total and deterministic' (their statements: YthlkndloggmehaaTotals.lean).
  GIVEN WITH THE SEED: the statements are not yours to turn. If you find one false, say at which input.
  Laid BY PROGRAM, IN A SANDBOX (cutbox-rows.mjs): the forced cells as the released guide's own fill.sh prints them over the translation 00fa7e79f576bc06… (all of the seat's roots in one cut). By AI agents, Wed Nov 11 2026. No macro, syntax, notation, axiom, sorry.
-/
import Derived.Test.YthlkndloggmehaaChecked
import GoSem.Claim
import GoSem.ClaimJoined
import GoSem.ClaimMapViews
import Derived.JoinedTies
import Derived.KernelRfl
namespace Go.Proofs.Ythlkndloggmehaa
/- THE CELL 'sum', in the pinned program and in every row, IS THE sha256 OF THE DUMP (.gsa) THAT YthlkndloggmehaaProg.lean LOADS. Nothing in Lean hashes anything: it is a label: what it is worth is what the hold of that sum in a sandbox is worth. -/
noncomputable def Try.pinned : Pinned := { name := "ythlkndloggmehaa", sum := "00fa7e79f576bc06584979b972a0de611e7c3e7e0396271df2ccb69fcbd2936b", checked := Try.checked }
namespace Rows
def none {H : Type} : Left H := { results := [], args := [] }

/-- 'laws.FnExactAreOdds': WHATEVER THE INPUT: true; the input reads as it did. -/
def fnExactAreOddsSpec : ChangeSpec := { name := "fnExactAreOdds", fn := fun _ => fun
  | [d] => { results := [.lit (.bool true)], args := [d] }
  | _ => none }
def fnExactAreOddsRow : OpenClaim := { program := "ythlkndloggmehaa", sum := "00fa7e79f576bc06584979b972a0de611e7c3e7e0396271df2ccb69fcbd2936b", func := "loop.example/g01368/laws.FnExactAreOdds", spec := "fnExactAreOdds", apart := false }
def FnExactAreOddsSaid : Prop := fnExactAreOddsRow.holds Try.pinned (OpenSpec.ofChange fnExactAreOddsSpec)

/-- ITS FALSE NEIGHBOUR: 'it returns false'. Refute it at one input. -/
def fnExactAreOddsWrong : ChangeSpec := { name := "fnExactAreOdds", fn := fun _ => fun
  | [d] => { results := [.lit (.bool false)], args := [d] }
  | _ => none }
def FnExactAreOddsWrongFalsely : Prop := fnExactAreOddsRow.holds Try.pinned (OpenSpec.ofChange fnExactAreOddsWrong)

/-- 'laws.FnExactChanceFirst': WHATEVER THE INPUT: true; the input reads as it did. -/
def fnExactChanceFirstSpec : ChangeSpec := { name := "fnExactChanceFirst", fn := fun _ => fun
  | [d1, d2] => { results := [.lit (.bool true)], args := [d1, d2] }
  | _ => none }
def fnExactChanceFirstRow : OpenClaim := { program := "ythlkndloggmehaa", sum := "00fa7e79f576bc06584979b972a0de611e7c3e7e0396271df2ccb69fcbd2936b", func := "loop.example/g01368/laws.FnExactChanceFirst", spec := "fnExactChanceFirst", unfollowed := true, recurses := true, leaving := true, apart := false }
def FnExactChanceFirstSaid : Prop := fnExactChanceFirstRow.holds Try.pinned (OpenSpec.ofChange fnExactChanceFirstSpec)

/-- ITS FALSE NEIGHBOUR: 'it returns false'. Refute it at one input. -/
def fnExactChanceFirstWrong : ChangeSpec := { name := "fnExactChanceFirst", fn := fun _ => fun
  | [d1, d2] => { results := [.lit (.bool false)], args := [d1, d2] }
  | _ => none }
def FnExactChanceFirstWrongFalsely : Prop := fnExactChanceFirstRow.holds Try.pinned (OpenSpec.ofChange fnExactChanceFirstWrong)

/-- 'laws.FnExactChanceFrom': WHATEVER THE INPUT: true; the input reads as it did. -/
def fnExactChanceFromSpec : ChangeSpec := { name := "fnExactChanceFrom", fn := fun _ => fun
  | [d1, d2, d3, d4] => { results := [.lit (.bool true)], args := [d1, d2, d3, d4] }
  | _ => none }
def fnExactChanceFromRow : OpenClaim := { program := "ythlkndloggmehaa", sum := "00fa7e79f576bc06584979b972a0de611e7c3e7e0396271df2ccb69fcbd2936b", func := "loop.example/g01368/laws.FnExactChanceFrom", spec := "fnExactChanceFrom", unfollowed := true, recurses := true, leaving := true, apart := false }
def FnExactChanceFromSaid : Prop := fnExactChanceFromRow.holds Try.pinned (OpenSpec.ofChange fnExactChanceFromSpec)

/-- ITS FALSE NEIGHBOUR: 'it returns false'. Refute it at one input. -/
def fnExactChanceFromWrong : ChangeSpec := { name := "fnExactChanceFrom", fn := fun _ => fun
  | [d1, d2, d3, d4] => { results := [.lit (.bool false)], args := [d1, d2, d3, d4] }
  | _ => none }
def FnExactChanceFromWrongFalsely : Prop := fnExactChanceFromRow.holds Try.pinned (OpenSpec.ofChange fnExactChanceFromWrong)

/-- 'laws.FnExactChanceOfScore': WHATEVER THE INPUT: true; the input reads as it did. -/
def fnExactChanceOfScoreSpec : ChangeSpec := { name := "fnExactChanceOfScore", fn := fun _ => fun
  | [d1, d2, d3, d4] => { results := [.lit (.bool true)], args := [d1, d2, d3, d4] }
  | _ => none }
def fnExactChanceOfScoreRow : OpenClaim := { program := "ythlkndloggmehaa", sum := "00fa7e79f576bc06584979b972a0de611e7c3e7e0396271df2ccb69fcbd2936b", func := "loop.example/g01368/laws.FnExactChanceOfScore", spec := "fnExactChanceOfScore", unfollowed := true, recurses := true, leaving := true, apart := false }
def FnExactChanceOfScoreSaid : Prop := fnExactChanceOfScoreRow.holds Try.pinned (OpenSpec.ofChange fnExactChanceOfScoreSpec)

/-- ITS FALSE NEIGHBOUR: 'it returns false'. Refute it at one input. -/
def fnExactChanceOfScoreWrong : ChangeSpec := { name := "fnExactChanceOfScore", fn := fun _ => fun
  | [d1, d2, d3, d4] => { results := [.lit (.bool false)], args := [d1, d2, d3, d4] }
  | _ => none }
def FnExactChanceOfScoreWrongFalsely : Prop := fnExactChanceOfScoreRow.holds Try.pinned (OpenSpec.ofChange fnExactChanceOfScoreWrong)

/-- 'laws.FnExactMeanPoints': WHATEVER THE INPUT: true; the input reads as it did. -/
def fnExactMeanPointsSpec : ChangeSpec := { name := "fnExactMeanPoints", fn := fun _ => fun
  | [d1, d2] => { results := [.lit (.bool true)], args := [d1, d2] }
  | _ => none }
def fnExactMeanPointsRow : OpenClaim := { program := "ythlkndloggmehaa", sum := "00fa7e79f576bc06584979b972a0de611e7c3e7e0396271df2ccb69fcbd2936b", func := "loop.example/g01368/laws.FnExactMeanPoints", spec := "fnExactMeanPoints", unfollowed := true, recurses := true, leaving := true, apart := false }
def FnExactMeanPointsSaid : Prop := fnExactMeanPointsRow.holds Try.pinned (OpenSpec.ofChange fnExactMeanPointsSpec)

/-- ITS FALSE NEIGHBOUR: 'it returns false'. Refute it at one input. -/
def fnExactMeanPointsWrong : ChangeSpec := { name := "fnExactMeanPoints", fn := fun _ => fun
  | [d1, d2] => { results := [.lit (.bool false)], args := [d1, d2] }
  | _ => none }
def FnExactMeanPointsWrongFalsely : Prop := fnExactMeanPointsRow.holds Try.pinned (OpenSpec.ofChange fnExactMeanPointsWrong)

/-- 'laws.FnExactDeuceChance': WHATEVER THE INPUT: true; the input reads as it did. -/
def fnExactDeuceChanceSpec : ChangeSpec := { name := "fnExactDeuceChance", fn := fun _ => fun
  | [d] => { results := [.lit (.bool true)], args := [d] }
  | _ => none }
def fnExactDeuceChanceRow : OpenClaim := { program := "ythlkndloggmehaa", sum := "00fa7e79f576bc06584979b972a0de611e7c3e7e0396271df2ccb69fcbd2936b", func := "loop.example/g01368/laws.FnExactDeuceChance", spec := "fnExactDeuceChance", apart := false }
def FnExactDeuceChanceSaid : Prop := fnExactDeuceChanceRow.holds Try.pinned (OpenSpec.ofChange fnExactDeuceChanceSpec)

/-- ITS FALSE NEIGHBOUR: 'it returns false'. Refute it at one input. -/
def fnExactDeuceChanceWrong : ChangeSpec := { name := "fnExactDeuceChance", fn := fun _ => fun
  | [d] => { results := [.lit (.bool false)], args := [d] }
  | _ => none }
def FnExactDeuceChanceWrongFalsely : Prop := fnExactDeuceChanceRow.holds Try.pinned (OpenSpec.ofChange fnExactDeuceChanceWrong)

/-- 'laws.FnExactMeanDeuce': WHATEVER THE INPUT: true; the input reads as it did. -/
def fnExactMeanDeuceSpec : ChangeSpec := { name := "fnExactMeanDeuce", fn := fun _ => fun
  | [d] => { results := [.lit (.bool true)], args := [d] }
  | _ => none }
def fnExactMeanDeuceRow : OpenClaim := { program := "ythlkndloggmehaa", sum := "00fa7e79f576bc06584979b972a0de611e7c3e7e0396271df2ccb69fcbd2936b", func := "loop.example/g01368/laws.FnExactMeanDeuce", spec := "fnExactMeanDeuce", apart := false }
def FnExactMeanDeuceSaid : Prop := fnExactMeanDeuceRow.holds Try.pinned (OpenSpec.ofChange fnExactMeanDeuceSpec)

/-- ITS FALSE NEIGHBOUR: 'it returns false'. Refute it at one input. -/
def fnExactMeanDeuceWrong : ChangeSpec := { name := "fnExactMeanDeuce", fn := fun _ => fun
  | [d] => { results := [.lit (.bool false)], args := [d] }
  | _ => none }
def FnExactMeanDeuceWrongFalsely : Prop := fnExactMeanDeuceRow.holds Try.pinned (OpenSpec.ofChange fnExactMeanDeuceWrong)

/-- 'laws.FnExactGameChance': WHATEVER THE INPUT: true; the input reads as it did. -/
def fnExactGameChanceSpec : ChangeSpec := { name := "fnExactGameChance", fn := fun _ => fun
  | [d] => { results := [.lit (.bool true)], args := [d] }
  | _ => none }
def fnExactGameChanceRow : OpenClaim := { program := "ythlkndloggmehaa", sum := "00fa7e79f576bc06584979b972a0de611e7c3e7e0396271df2ccb69fcbd2936b", func := "loop.example/g01368/laws.FnExactGameChance", spec := "fnExactGameChance", unfollowed := true, recurses := true, leaving := true, apart := false }
def FnExactGameChanceSaid : Prop := fnExactGameChanceRow.holds Try.pinned (OpenSpec.ofChange fnExactGameChanceSpec)

/-- ITS FALSE NEIGHBOUR: 'it returns false'. Refute it at one input. -/
def fnExactGameChanceWrong : ChangeSpec := { name := "fnExactGameChance", fn := fun _ => fun
  | [d] => { results := [.lit (.bool false)], args := [d] }
  | _ => none }
def FnExactGameChanceWrongFalsely : Prop := fnExactGameChanceRow.holds Try.pinned (OpenSpec.ofChange fnExactGameChanceWrong)

/-- 'laws.FnExactGameChanceFrom': WHATEVER THE INPUT: true; the input reads as it did. -/
def fnExactGameChanceFromSpec : ChangeSpec := { name := "fnExactGameChanceFrom", fn := fun _ => fun
  | [d1, d2, d3] => { results := [.lit (.bool true)], args := [d1, d2, d3] }
  | _ => none }
def fnExactGameChanceFromRow : OpenClaim := { program := "ythlkndloggmehaa", sum := "00fa7e79f576bc06584979b972a0de611e7c3e7e0396271df2ccb69fcbd2936b", func := "loop.example/g01368/laws.FnExactGameChanceFrom", spec := "fnExactGameChanceFrom", unfollowed := true, recurses := true, leaving := true, apart := false }
def FnExactGameChanceFromSaid : Prop := fnExactGameChanceFromRow.holds Try.pinned (OpenSpec.ofChange fnExactGameChanceFromSpec)

/-- ITS FALSE NEIGHBOUR: 'it returns false'. Refute it at one input. -/
def fnExactGameChanceFromWrong : ChangeSpec := { name := "fnExactGameChanceFrom", fn := fun _ => fun
  | [d1, d2, d3] => { results := [.lit (.bool false)], args := [d1, d2, d3] }
  | _ => none }
def FnExactGameChanceFromWrongFalsely : Prop := fnExactGameChanceFromRow.holds Try.pinned (OpenSpec.ofChange fnExactGameChanceFromWrong)

/-- 'laws.FnExactServeChance': WHATEVER THE INPUT: true; the input reads as it did. -/
def fnExactServeChanceSpec : ChangeSpec := { name := "fnExactServeChance", fn := fun _ => fun
  | [d1, d2, d3] => { results := [.lit (.bool true)], args := [d1, d2, d3] }
  | _ => none }
def fnExactServeChanceRow : OpenClaim := { program := "ythlkndloggmehaa", sum := "00fa7e79f576bc06584979b972a0de611e7c3e7e0396271df2ccb69fcbd2936b", func := "loop.example/g01368/laws.FnExactServeChance", spec := "fnExactServeChance", unfollowed := true, recurses := true, leaving := true, apart := false }
def FnExactServeChanceSaid : Prop := fnExactServeChanceRow.holds Try.pinned (OpenSpec.ofChange fnExactServeChanceSpec)

/-- ITS FALSE NEIGHBOUR: 'it returns false'. Refute it at one input. -/
def fnExactServeChanceWrong : ChangeSpec := { name := "fnExactServeChance", fn := fun _ => fun
  | [d1, d2, d3] => { results := [.lit (.bool false)], args := [d1, d2, d3] }
  | _ => none }
def FnExactServeChanceWrongFalsely : Prop := fnExactServeChanceRow.holds Try.pinned (OpenSpec.ofChange fnExactServeChanceWrong)

/-- 'laws.FnExactShareOfStake': WHATEVER THE INPUT: true; the input reads as it did. -/
def fnExactShareOfStakeSpec : ChangeSpec := { name := "fnExactShareOfStake", fn := fun _ => fun
  | [d1, d2, d3, d4, d5] => { results := [.lit (.bool true)], args := [d1, d2, d3, d4, d5] }
  | _ => none }
def fnExactShareOfStakeRow : OpenClaim := { program := "ythlkndloggmehaa", sum := "00fa7e79f576bc06584979b972a0de611e7c3e7e0396271df2ccb69fcbd2936b", func := "loop.example/g01368/laws.FnExactShareOfStake", spec := "fnExactShareOfStake", unfollowed := true, recurses := true, leaving := true, apart := false }
def FnExactShareOfStakeSaid : Prop := fnExactShareOfStakeRow.holds Try.pinned (OpenSpec.ofChange fnExactShareOfStakeSpec)

/-- ITS FALSE NEIGHBOUR: 'it returns false'. Refute it at one input. -/
def fnExactShareOfStakeWrong : ChangeSpec := { name := "fnExactShareOfStake", fn := fun _ => fun
  | [d1, d2, d3, d4, d5] => { results := [.lit (.bool false)], args := [d1, d2, d3, d4, d5] }
  | _ => none }
def FnExactShareOfStakeWrongFalsely : Prop := fnExactShareOfStakeRow.holds Try.pinned (OpenSpec.ofChange fnExactShareOfStakeWrong)

/-- 'laws.FnExactLeastFirst': WHATEVER THE INPUT: true; the input reads as it did. -/
def fnExactLeastFirstSpec : ChangeSpec := { name := "fnExactLeastFirst", fn := fun _ => fun
  | [d1, d2, d3] => { results := [.lit (.bool true)], args := [d1, d2, d3] }
  | _ => none }
def fnExactLeastFirstRow : OpenClaim := { program := "ythlkndloggmehaa", sum := "00fa7e79f576bc06584979b972a0de611e7c3e7e0396271df2ccb69fcbd2936b", func := "loop.example/g01368/laws.FnExactLeastFirst", spec := "fnExactLeastFirst", unfollowed := true, recurses := true, leaving := true, apart := false }
def FnExactLeastFirstSaid : Prop := fnExactLeastFirstRow.holds Try.pinned (OpenSpec.ofChange fnExactLeastFirstSpec)

/-- ITS FALSE NEIGHBOUR: 'it returns false'. Refute it at one input. -/
def fnExactLeastFirstWrong : ChangeSpec := { name := "fnExactLeastFirst", fn := fun _ => fun
  | [d1, d2, d3] => { results := [.lit (.bool false)], args := [d1, d2, d3] }
  | _ => none }
def FnExactLeastFirstWrongFalsely : Prop := fnExactLeastFirstRow.holds Try.pinned (OpenSpec.ofChange fnExactLeastFirstWrong)

/-- 'laws.FnExactPointWeight': WHATEVER THE INPUT: true; the input reads as it did. -/
def fnExactPointWeightSpec : ChangeSpec := { name := "fnExactPointWeight", fn := fun _ => fun
  | [d1, d2, d3, d4] => { results := [.lit (.bool true)], args := [d1, d2, d3, d4] }
  | _ => none }
def fnExactPointWeightRow : OpenClaim := { program := "ythlkndloggmehaa", sum := "00fa7e79f576bc06584979b972a0de611e7c3e7e0396271df2ccb69fcbd2936b", func := "loop.example/g01368/laws.FnExactPointWeight", spec := "fnExactPointWeight", unfollowed := true, recurses := true, leaving := true, apart := false }
def FnExactPointWeightSaid : Prop := fnExactPointWeightRow.holds Try.pinned (OpenSpec.ofChange fnExactPointWeightSpec)

/-- ITS FALSE NEIGHBOUR: 'it returns false'. Refute it at one input. -/
def fnExactPointWeightWrong : ChangeSpec := { name := "fnExactPointWeight", fn := fun _ => fun
  | [d1, d2, d3, d4] => { results := [.lit (.bool false)], args := [d1, d2, d3, d4] }
  | _ => none }
def FnExactPointWeightWrongFalsely : Prop := fnExactPointWeightRow.holds Try.pinned (OpenSpec.ofChange fnExactPointWeightWrong)

/-- 'laws.FnExactBiggestPoint': WHATEVER THE INPUT: true; the input reads as it did. -/
def fnExactBiggestPointSpec : ChangeSpec := { name := "fnExactBiggestPoint", fn := fun _ => fun
  | [d1, d2] => { results := [.lit (.bool true)], args := [d1, d2] }
  | _ => none }
def fnExactBiggestPointRow : OpenClaim := { program := "ythlkndloggmehaa", sum := "00fa7e79f576bc06584979b972a0de611e7c3e7e0396271df2ccb69fcbd2936b", func := "loop.example/g01368/laws.FnExactBiggestPoint", spec := "fnExactBiggestPoint", unfollowed := true, recurses := true, leaving := true, apart := false }
def FnExactBiggestPointSaid : Prop := fnExactBiggestPointRow.holds Try.pinned (OpenSpec.ofChange fnExactBiggestPointSpec)

/-- ITS FALSE NEIGHBOUR: 'it returns false'. Refute it at one input. -/
def fnExactBiggestPointWrong : ChangeSpec := { name := "fnExactBiggestPoint", fn := fun _ => fun
  | [d1, d2] => { results := [.lit (.bool false)], args := [d1, d2] }
  | _ => none }
def FnExactBiggestPointWrongFalsely : Prop := fnExactBiggestPointRow.holds Try.pinned (OpenSpec.ofChange fnExactBiggestPointWrong)

/-- 'laws.FnExactLikeliestScore': WHATEVER THE INPUT: true; the input reads as it did. -/
def fnExactLikeliestScoreSpec : ChangeSpec := { name := "fnExactLikeliestScore", fn := fun _ => fun
  | [d1, d2] => { results := [.lit (.bool true)], args := [d1, d2] }
  | _ => none }
def fnExactLikeliestScoreRow : OpenClaim := { program := "ythlkndloggmehaa", sum := "00fa7e79f576bc06584979b972a0de611e7c3e7e0396271df2ccb69fcbd2936b", func := "loop.example/g01368/laws.FnExactLikeliestScore", spec := "fnExactLikeliestScore", unfollowed := true, recurses := true, leaving := true, apart := false }
def FnExactLikeliestScoreSaid : Prop := fnExactLikeliestScoreRow.holds Try.pinned (OpenSpec.ofChange fnExactLikeliestScoreSpec)

/-- ITS FALSE NEIGHBOUR: 'it returns false'. Refute it at one input. -/
def fnExactLikeliestScoreWrong : ChangeSpec := { name := "fnExactLikeliestScore", fn := fun _ => fun
  | [d1, d2] => { results := [.lit (.bool false)], args := [d1, d2] }
  | _ => none }
def FnExactLikeliestScoreWrongFalsely : Prop := fnExactLikeliestScoreRow.holds Try.pinned (OpenSpec.ofChange fnExactLikeliestScoreWrong)

/-- 'laws.FnExactOtherOdds': WHATEVER THE INPUT: true; the input reads as it did. -/
def fnExactOtherOddsSpec : ChangeSpec := { name := "fnExactOtherOdds", fn := fun _ => fun
  | [d] => { results := [.lit (.bool true)], args := [d] }
  | _ => none }
def fnExactOtherOddsRow : OpenClaim := { program := "ythlkndloggmehaa", sum := "00fa7e79f576bc06584979b972a0de611e7c3e7e0396271df2ccb69fcbd2936b", func := "loop.example/g01368/laws.FnExactOtherOdds", spec := "fnExactOtherOdds", apart := false }
def FnExactOtherOddsSaid : Prop := fnExactOtherOddsRow.holds Try.pinned (OpenSpec.ofChange fnExactOtherOddsSpec)

/-- ITS FALSE NEIGHBOUR: 'it returns false'. Refute it at one input. -/
def fnExactOtherOddsWrong : ChangeSpec := { name := "fnExactOtherOdds", fn := fun _ => fun
  | [d] => { results := [.lit (.bool false)], args := [d] }
  | _ => none }
def FnExactOtherOddsWrongFalsely : Prop := fnExactOtherOddsRow.holds Try.pinned (OpenSpec.ofChange fnExactOtherOddsWrong)

/-- 'laws.FnExactNotReached': WHATEVER THE INPUT: true; the input reads as it did. -/
def fnExactNotReachedSpec : ChangeSpec := { name := "fnExactNotReached", fn := fun _ => fun
  | [d1, d2] => { results := [.lit (.bool true)], args := [d1, d2] }
  | _ => none }
def fnExactNotReachedRow : OpenClaim := { program := "ythlkndloggmehaa", sum := "00fa7e79f576bc06584979b972a0de611e7c3e7e0396271df2ccb69fcbd2936b", func := "loop.example/g01368/laws.FnExactNotReached", spec := "fnExactNotReached", apart := false }
def FnExactNotReachedSaid : Prop := fnExactNotReachedRow.holds Try.pinned (OpenSpec.ofChange fnExactNotReachedSpec)

/-- ITS FALSE NEIGHBOUR: 'it returns false'. Refute it at one input. -/
def fnExactNotReachedWrong : ChangeSpec := { name := "fnExactNotReached", fn := fun _ => fun
  | [d1, d2] => { results := [.lit (.bool false)], args := [d1, d2] }
  | _ => none }
def FnExactNotReachedWrongFalsely : Prop := fnExactNotReachedRow.holds Try.pinned (OpenSpec.ofChange fnExactNotReachedWrong)

/-- 'laws.FnExactGreatestNotReached': WHATEVER THE INPUT: true; the input reads as it did. -/
def fnExactGreatestNotReachedSpec : ChangeSpec := { name := "fnExactGreatestNotReached", fn := fun _ => fun
  | [d] => { results := [.lit (.bool true)], args := [d] }
  | _ => none }
def fnExactGreatestNotReachedRow : OpenClaim := { program := "ythlkndloggmehaa", sum := "00fa7e79f576bc06584979b972a0de611e7c3e7e0396271df2ccb69fcbd2936b", func := "loop.example/g01368/laws.FnExactGreatestNotReached", spec := "fnExactGreatestNotReached", apart := false }
def FnExactGreatestNotReachedSaid : Prop := fnExactGreatestNotReachedRow.holds Try.pinned (OpenSpec.ofChange fnExactGreatestNotReachedSpec)

/-- ITS FALSE NEIGHBOUR: 'it returns false'. Refute it at one input. -/
def fnExactGreatestNotReachedWrong : ChangeSpec := { name := "fnExactGreatestNotReached", fn := fun _ => fun
  | [d] => { results := [.lit (.bool false)], args := [d] }
  | _ => none }
def FnExactGreatestNotReachedWrongFalsely : Prop := fnExactGreatestNotReachedRow.holds Try.pinned (OpenSpec.ofChange fnExactGreatestNotReachedWrong)

/-- 'laws.FnExactAddResult': WHATEVER THE INPUT: true; the input reads as it did. -/
def fnExactAddResultSpec : ChangeSpec := { name := "fnExactAddResult", fn := fun _ => fun
  | [d1, d2] => { results := [.lit (.bool true)], args := [d1, d2] }
  | _ => none }
def fnExactAddResultRow : OpenClaim := { program := "ythlkndloggmehaa", sum := "00fa7e79f576bc06584979b972a0de611e7c3e7e0396271df2ccb69fcbd2936b", func := "loop.example/g01368/laws.FnExactAddResult", spec := "fnExactAddResult", unfollowed := true, recurses := true, leaving := true, apart := false }
def FnExactAddResultSaid : Prop := fnExactAddResultRow.holds Try.pinned (OpenSpec.ofChange fnExactAddResultSpec)

/-- ITS FALSE NEIGHBOUR: 'it returns false'. Refute it at one input. -/
def fnExactAddResultWrong : ChangeSpec := { name := "fnExactAddResult", fn := fun _ => fun
  | [d1, d2] => { results := [.lit (.bool false)], args := [d1, d2] }
  | _ => none }
def FnExactAddResultWrongFalsely : Prop := fnExactAddResultRow.holds Try.pinned (OpenSpec.ofChange fnExactAddResultWrong)

/- THE SECOND FORM. 'bulk': how many values and letters a reading holds, each counted each time it is reached (what is shared counts as often as it is met; a slice's spare places count too). A statement '..UptoSaid' is the law's where the arguments, and the package variables that the reading takes, are together of bulk at most 1048576: NARROWER than '..Said'. Prove '..Said' where nothing that the law and all that it calls make is longer than what came in: it says more and counts as full. Else prove '..UptoSaid'. A law counts once. -/
mutual
def uptoBulk {H : Type} : DataW H → Nat
  | .lit (.string bytes) => bytes.length + 1
  | .lit _ => 1
  | .nil => 1
  | .ptr d => uptoBulk d + 1
  | .slice elems spare => uptoBulkAll elems + uptoBulkAll spare + 1
  | .agg parts => uptoBulkAll parts + 1
  | .iface _ d => uptoBulk d + 1
  | .map entries => uptoBulkEntries entries + 1
  | .held _ => 1
def uptoBulkAll {H : Type} : List (DataW H) → Nat
  | [] => 0
  | d :: r => uptoBulk d + uptoBulkAll r
def uptoBulkEntries {H : Type} : List (Lit × DataW H) → Nat
  | [] => 0
  | x :: r => uptoBulkEntry x + uptoBulkEntries r
def uptoBulkEntry {H : Type} : Lit × DataW H → Nat
  | (.string bytes, d) => bytes.length + uptoBulk d + 1
  | (_, d) => uptoBulk d + 1
 end
def uptoSmall : (H : Type) → List (DataW H) → Bool := fun _ ds => decide (uptoBulkAll ds ≤ 1048576)
def OpenSpec.upto (s : _root_.Go.ChangeSpec) : _root_.Go.OpenSpec := { _root_.Go.OpenSpec.ofChange s with cond := some uptoSmall }

/-- 'laws.FnExactAreOdds', WHERE WHAT IT READS IS OF BULK AT MOST 1048576: true; the input reads as it did. -/
def fnExactAreOddsUptoRow : OpenClaim := { program := "ythlkndloggmehaa", sum := "00fa7e79f576bc06584979b972a0de611e7c3e7e0396271df2ccb69fcbd2936b", func := "loop.example/g01368/laws.FnExactAreOdds", spec := "fnExactAreOdds", apart := false, narrowed := true }
def FnExactAreOddsUptoSaid : Prop := fnExactAreOddsUptoRow.holds Try.pinned (OpenSpec.upto fnExactAreOddsSpec)

/-- 'laws.FnExactChanceFirst', WHERE WHAT IT READS IS OF BULK AT MOST 1048576: true; the input reads as it did. -/
def fnExactChanceFirstUptoRow : OpenClaim := { program := "ythlkndloggmehaa", sum := "00fa7e79f576bc06584979b972a0de611e7c3e7e0396271df2ccb69fcbd2936b", func := "loop.example/g01368/laws.FnExactChanceFirst", spec := "fnExactChanceFirst", unfollowed := true, recurses := true, leaving := true, apart := false, narrowed := true }
def FnExactChanceFirstUptoSaid : Prop := fnExactChanceFirstUptoRow.holds Try.pinned (OpenSpec.upto fnExactChanceFirstSpec)

/-- 'laws.FnExactChanceFrom', WHERE WHAT IT READS IS OF BULK AT MOST 1048576: true; the input reads as it did. -/
def fnExactChanceFromUptoRow : OpenClaim := { program := "ythlkndloggmehaa", sum := "00fa7e79f576bc06584979b972a0de611e7c3e7e0396271df2ccb69fcbd2936b", func := "loop.example/g01368/laws.FnExactChanceFrom", spec := "fnExactChanceFrom", unfollowed := true, recurses := true, leaving := true, apart := false, narrowed := true }
def FnExactChanceFromUptoSaid : Prop := fnExactChanceFromUptoRow.holds Try.pinned (OpenSpec.upto fnExactChanceFromSpec)

/-- 'laws.FnExactChanceOfScore', WHERE WHAT IT READS IS OF BULK AT MOST 1048576: true; the input reads as it did. -/
def fnExactChanceOfScoreUptoRow : OpenClaim := { program := "ythlkndloggmehaa", sum := "00fa7e79f576bc06584979b972a0de611e7c3e7e0396271df2ccb69fcbd2936b", func := "loop.example/g01368/laws.FnExactChanceOfScore", spec := "fnExactChanceOfScore", unfollowed := true, recurses := true, leaving := true, apart := false, narrowed := true }
def FnExactChanceOfScoreUptoSaid : Prop := fnExactChanceOfScoreUptoRow.holds Try.pinned (OpenSpec.upto fnExactChanceOfScoreSpec)

/-- 'laws.FnExactMeanPoints', WHERE WHAT IT READS IS OF BULK AT MOST 1048576: true; the input reads as it did. -/
def fnExactMeanPointsUptoRow : OpenClaim := { program := "ythlkndloggmehaa", sum := "00fa7e79f576bc06584979b972a0de611e7c3e7e0396271df2ccb69fcbd2936b", func := "loop.example/g01368/laws.FnExactMeanPoints", spec := "fnExactMeanPoints", unfollowed := true, recurses := true, leaving := true, apart := false, narrowed := true }
def FnExactMeanPointsUptoSaid : Prop := fnExactMeanPointsUptoRow.holds Try.pinned (OpenSpec.upto fnExactMeanPointsSpec)

/-- 'laws.FnExactDeuceChance', WHERE WHAT IT READS IS OF BULK AT MOST 1048576: true; the input reads as it did. -/
def fnExactDeuceChanceUptoRow : OpenClaim := { program := "ythlkndloggmehaa", sum := "00fa7e79f576bc06584979b972a0de611e7c3e7e0396271df2ccb69fcbd2936b", func := "loop.example/g01368/laws.FnExactDeuceChance", spec := "fnExactDeuceChance", apart := false, narrowed := true }
def FnExactDeuceChanceUptoSaid : Prop := fnExactDeuceChanceUptoRow.holds Try.pinned (OpenSpec.upto fnExactDeuceChanceSpec)

/-- 'laws.FnExactMeanDeuce', WHERE WHAT IT READS IS OF BULK AT MOST 1048576: true; the input reads as it did. -/
def fnExactMeanDeuceUptoRow : OpenClaim := { program := "ythlkndloggmehaa", sum := "00fa7e79f576bc06584979b972a0de611e7c3e7e0396271df2ccb69fcbd2936b", func := "loop.example/g01368/laws.FnExactMeanDeuce", spec := "fnExactMeanDeuce", apart := false, narrowed := true }
def FnExactMeanDeuceUptoSaid : Prop := fnExactMeanDeuceUptoRow.holds Try.pinned (OpenSpec.upto fnExactMeanDeuceSpec)

/-- 'laws.FnExactGameChance', WHERE WHAT IT READS IS OF BULK AT MOST 1048576: true; the input reads as it did. -/
def fnExactGameChanceUptoRow : OpenClaim := { program := "ythlkndloggmehaa", sum := "00fa7e79f576bc06584979b972a0de611e7c3e7e0396271df2ccb69fcbd2936b", func := "loop.example/g01368/laws.FnExactGameChance", spec := "fnExactGameChance", unfollowed := true, recurses := true, leaving := true, apart := false, narrowed := true }
def FnExactGameChanceUptoSaid : Prop := fnExactGameChanceUptoRow.holds Try.pinned (OpenSpec.upto fnExactGameChanceSpec)

/-- 'laws.FnExactGameChanceFrom', WHERE WHAT IT READS IS OF BULK AT MOST 1048576: true; the input reads as it did. -/
def fnExactGameChanceFromUptoRow : OpenClaim := { program := "ythlkndloggmehaa", sum := "00fa7e79f576bc06584979b972a0de611e7c3e7e0396271df2ccb69fcbd2936b", func := "loop.example/g01368/laws.FnExactGameChanceFrom", spec := "fnExactGameChanceFrom", unfollowed := true, recurses := true, leaving := true, apart := false, narrowed := true }
def FnExactGameChanceFromUptoSaid : Prop := fnExactGameChanceFromUptoRow.holds Try.pinned (OpenSpec.upto fnExactGameChanceFromSpec)

/-- 'laws.FnExactServeChance', WHERE WHAT IT READS IS OF BULK AT MOST 1048576: true; the input reads as it did. -/
def fnExactServeChanceUptoRow : OpenClaim := { program := "ythlkndloggmehaa", sum := "00fa7e79f576bc06584979b972a0de611e7c3e7e0396271df2ccb69fcbd2936b", func := "loop.example/g01368/laws.FnExactServeChance", spec := "fnExactServeChance", unfollowed := true, recurses := true, leaving := true, apart := false, narrowed := true }
def FnExactServeChanceUptoSaid : Prop := fnExactServeChanceUptoRow.holds Try.pinned (OpenSpec.upto fnExactServeChanceSpec)

/-- 'laws.FnExactShareOfStake', WHERE WHAT IT READS IS OF BULK AT MOST 1048576: true; the input reads as it did. -/
def fnExactShareOfStakeUptoRow : OpenClaim := { program := "ythlkndloggmehaa", sum := "00fa7e79f576bc06584979b972a0de611e7c3e7e0396271df2ccb69fcbd2936b", func := "loop.example/g01368/laws.FnExactShareOfStake", spec := "fnExactShareOfStake", unfollowed := true, recurses := true, leaving := true, apart := false, narrowed := true }
def FnExactShareOfStakeUptoSaid : Prop := fnExactShareOfStakeUptoRow.holds Try.pinned (OpenSpec.upto fnExactShareOfStakeSpec)

/-- 'laws.FnExactLeastFirst', WHERE WHAT IT READS IS OF BULK AT MOST 1048576: true; the input reads as it did. -/
def fnExactLeastFirstUptoRow : OpenClaim := { program := "ythlkndloggmehaa", sum := "00fa7e79f576bc06584979b972a0de611e7c3e7e0396271df2ccb69fcbd2936b", func := "loop.example/g01368/laws.FnExactLeastFirst", spec := "fnExactLeastFirst", unfollowed := true, recurses := true, leaving := true, apart := false, narrowed := true }
def FnExactLeastFirstUptoSaid : Prop := fnExactLeastFirstUptoRow.holds Try.pinned (OpenSpec.upto fnExactLeastFirstSpec)

/-- 'laws.FnExactPointWeight', WHERE WHAT IT READS IS OF BULK AT MOST 1048576: true; the input reads as it did. -/
def fnExactPointWeightUptoRow : OpenClaim := { program := "ythlkndloggmehaa", sum := "00fa7e79f576bc06584979b972a0de611e7c3e7e0396271df2ccb69fcbd2936b", func := "loop.example/g01368/laws.FnExactPointWeight", spec := "fnExactPointWeight", unfollowed := true, recurses := true, leaving := true, apart := false, narrowed := true }
def FnExactPointWeightUptoSaid : Prop := fnExactPointWeightUptoRow.holds Try.pinned (OpenSpec.upto fnExactPointWeightSpec)

/-- 'laws.FnExactBiggestPoint', WHERE WHAT IT READS IS OF BULK AT MOST 1048576: true; the input reads as it did. -/
def fnExactBiggestPointUptoRow : OpenClaim := { program := "ythlkndloggmehaa", sum := "00fa7e79f576bc06584979b972a0de611e7c3e7e0396271df2ccb69fcbd2936b", func := "loop.example/g01368/laws.FnExactBiggestPoint", spec := "fnExactBiggestPoint", unfollowed := true, recurses := true, leaving := true, apart := false, narrowed := true }
def FnExactBiggestPointUptoSaid : Prop := fnExactBiggestPointUptoRow.holds Try.pinned (OpenSpec.upto fnExactBiggestPointSpec)

/-- 'laws.FnExactLikeliestScore', WHERE WHAT IT READS IS OF BULK AT MOST 1048576: true; the input reads as it did. -/
def fnExactLikeliestScoreUptoRow : OpenClaim := { program := "ythlkndloggmehaa", sum := "00fa7e79f576bc06584979b972a0de611e7c3e7e0396271df2ccb69fcbd2936b", func := "loop.example/g01368/laws.FnExactLikeliestScore", spec := "fnExactLikeliestScore", unfollowed := true, recurses := true, leaving := true, apart := false, narrowed := true }
def FnExactLikeliestScoreUptoSaid : Prop := fnExactLikeliestScoreUptoRow.holds Try.pinned (OpenSpec.upto fnExactLikeliestScoreSpec)

/-- 'laws.FnExactOtherOdds', WHERE WHAT IT READS IS OF BULK AT MOST 1048576: true; the input reads as it did. -/
def fnExactOtherOddsUptoRow : OpenClaim := { program := "ythlkndloggmehaa", sum := "00fa7e79f576bc06584979b972a0de611e7c3e7e0396271df2ccb69fcbd2936b", func := "loop.example/g01368/laws.FnExactOtherOdds", spec := "fnExactOtherOdds", apart := false, narrowed := true }
def FnExactOtherOddsUptoSaid : Prop := fnExactOtherOddsUptoRow.holds Try.pinned (OpenSpec.upto fnExactOtherOddsSpec)

/-- 'laws.FnExactNotReached', WHERE WHAT IT READS IS OF BULK AT MOST 1048576: true; the input reads as it did. -/
def fnExactNotReachedUptoRow : OpenClaim := { program := "ythlkndloggmehaa", sum := "00fa7e79f576bc06584979b972a0de611e7c3e7e0396271df2ccb69fcbd2936b", func := "loop.example/g01368/laws.FnExactNotReached", spec := "fnExactNotReached", apart := false, narrowed := true }
def FnExactNotReachedUptoSaid : Prop := fnExactNotReachedUptoRow.holds Try.pinned (OpenSpec.upto fnExactNotReachedSpec)

/-- 'laws.FnExactGreatestNotReached', WHERE WHAT IT READS IS OF BULK AT MOST 1048576: true; the input reads as it did. -/
def fnExactGreatestNotReachedUptoRow : OpenClaim := { program := "ythlkndloggmehaa", sum := "00fa7e79f576bc06584979b972a0de611e7c3e7e0396271df2ccb69fcbd2936b", func := "loop.example/g01368/laws.FnExactGreatestNotReached", spec := "fnExactGreatestNotReached", apart := false, narrowed := true }
def FnExactGreatestNotReachedUptoSaid : Prop := fnExactGreatestNotReachedUptoRow.holds Try.pinned (OpenSpec.upto fnExactGreatestNotReachedSpec)

/-- 'laws.FnExactAddResult', WHERE WHAT IT READS IS OF BULK AT MOST 1048576: true; the input reads as it did. -/
def fnExactAddResultUptoRow : OpenClaim := { program := "ythlkndloggmehaa", sum := "00fa7e79f576bc06584979b972a0de611e7c3e7e0396271df2ccb69fcbd2936b", func := "loop.example/g01368/laws.FnExactAddResult", spec := "fnExactAddResult", unfollowed := true, recurses := true, leaving := true, apart := false, narrowed := true }
def FnExactAddResultUptoSaid : Prop := fnExactAddResultUptoRow.holds Try.pinned (OpenSpec.upto fnExactAddResultSpec)

end Rows
end Go.Proofs.Ythlkndloggmehaa
