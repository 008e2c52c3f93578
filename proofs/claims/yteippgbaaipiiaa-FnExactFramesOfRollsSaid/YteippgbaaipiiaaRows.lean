/-
  No cell of these rows narrows 'for every input' (looked for: loops, veiled, ifaces, maps, wideKeys, modest, calm, conditions, laid).
  DERIVED. THE GIVEN ROWS OF THIS SEAT. 16 by the template 'for every input the law returns true; each argument reads behind the call as it read before'; 0 by the template 'total and deterministic' (their statements: YteippgbaaipiiaaTotals.lean).
  GIVEN WITH THE SEED: the statements are not yours to turn. If you find one false, say at which input.
  Laid BY PROGRAM, IN A SANDBOX (cutbox-rows.mjs): the forced cells as the released guide's own fill.sh prints them over the translation 763edaab44d03f80… (all of the seat's roots in one cut). By AI agents, Wed Nov 11 2026. No macro, syntax, notation, axiom, sorry.
-/
import Derived.Test.YteippgbaaipiiaaChecked
import GoSem.Claim
import GoSem.ClaimJoined
import GoSem.ClaimMapViews
import Derived.JoinedTies
import Derived.KernelRfl
namespace Go.Proofs.Yteippgbaaipiiaa
/- THE CELL 'sum', in the pinned program and in every row, IS THE sha256 OF THE DUMP (.gsa) THAT YteippgbaaipiiaaProg.lean LOADS. Nothing in Lean hashes anything: it is a label: what it is worth is what the hold of that sum in a sandbox is worth. -/
noncomputable def Try.pinned : Pinned := { name := "yteippgbaaipiiaa", sum := "763edaab44d03f806c1d184ae357fe3420117c4952512ead760ded9459f73c2c", checked := Try.checked }
namespace Rows
def none {H : Type} : Left H := { results := [], args := [] }

/-- 'laws.FnExactAreRolls': WHATEVER THE INPUT: true; the input reads as it did. -/
def fnExactAreRollsSpec : ChangeSpec := { name := "fnExactAreRolls", fn := fun _ => fun
  | [d1, d2] => { results := [.lit (.bool true)], args := [d1, d2] }
  | _ => none }
def fnExactAreRollsRow : OpenClaim := { program := "yteippgbaaipiiaa", sum := "763edaab44d03f806c1d184ae357fe3420117c4952512ead760ded9459f73c2c", func := "loop.example/g01368/laws.FnExactAreRolls", spec := "fnExactAreRolls", plainKeys := false, apart := false }
def FnExactAreRollsSaid : Prop := fnExactAreRollsRow.holds Try.pinned (OpenSpec.ofChange fnExactAreRollsSpec)

/-- ITS FALSE NEIGHBOUR: 'it returns false'. Refute it at one input. -/
def fnExactAreRollsWrong : ChangeSpec := { name := "fnExactAreRolls", fn := fun _ => fun
  | [d1, d2] => { results := [.lit (.bool false)], args := [d1, d2] }
  | _ => none }
def FnExactAreRollsWrongFalsely : Prop := fnExactAreRollsRow.holds Try.pinned (OpenSpec.ofChange fnExactAreRollsWrong)

/-- 'laws.FnExactAreAll': WHATEVER THE INPUT: true; the input reads as it did. -/
def fnExactAreAllSpec : ChangeSpec := { name := "fnExactAreAll", fn := fun _ => fun
  | [d1, d2] => { results := [.lit (.bool true)], args := [d1, d2] }
  | _ => none }
def fnExactAreAllRow : OpenClaim := { program := "yteippgbaaipiiaa", sum := "763edaab44d03f806c1d184ae357fe3420117c4952512ead760ded9459f73c2c", func := "loop.example/g01368/laws.FnExactAreAll", spec := "fnExactAreAll", plainKeys := false, apart := false }
def FnExactAreAllSaid : Prop := fnExactAreAllRow.holds Try.pinned (OpenSpec.ofChange fnExactAreAllSpec)

/-- ITS FALSE NEIGHBOUR: 'it returns false'. Refute it at one input. -/
def fnExactAreAllWrong : ChangeSpec := { name := "fnExactAreAll", fn := fun _ => fun
  | [d1, d2] => { results := [.lit (.bool false)], args := [d1, d2] }
  | _ => none }
def FnExactAreAllWrongFalsely : Prop := fnExactAreAllRow.holds Try.pinned (OpenSpec.ofChange fnExactAreAllWrong)

/-- 'laws.FnExactFramesOfRolls': WHATEVER THE INPUT: true; the input reads as it did. -/
def fnExactFramesOfRollsSpec : ChangeSpec := { name := "fnExactFramesOfRolls", fn := fun _ => fun
  | [d1, d2] => { results := [.lit (.bool true)], args := [d1, d2] }
  | _ => none }
def fnExactFramesOfRollsRow : OpenClaim := { program := "yteippgbaaipiiaa", sum := "763edaab44d03f806c1d184ae357fe3420117c4952512ead760ded9459f73c2c", func := "loop.example/g01368/laws.FnExactFramesOfRolls", spec := "fnExactFramesOfRolls", plainKeys := false, apart := false }
def FnExactFramesOfRollsSaid : Prop := fnExactFramesOfRollsRow.holds Try.pinned (OpenSpec.ofChange fnExactFramesOfRollsSpec)

/-- ITS FALSE NEIGHBOUR: 'it returns false'. Refute it at one input. -/
def fnExactFramesOfRollsWrong : ChangeSpec := { name := "fnExactFramesOfRolls", fn := fun _ => fun
  | [d1, d2] => { results := [.lit (.bool false)], args := [d1, d2] }
  | _ => none }
def FnExactFramesOfRollsWrongFalsely : Prop := fnExactFramesOfRollsRow.holds Try.pinned (OpenSpec.ofChange fnExactFramesOfRollsWrong)

/-- 'laws.FnExactFrameScores': WHATEVER THE INPUT: true; the input reads as it did. -/
def fnExactFrameScoresSpec : ChangeSpec := { name := "fnExactFrameScores", fn := fun _ => fun
  | [d1, d2] => { results := [.lit (.bool true)], args := [d1, d2] }
  | _ => none }
def fnExactFrameScoresRow : OpenClaim := { program := "yteippgbaaipiiaa", sum := "763edaab44d03f806c1d184ae357fe3420117c4952512ead760ded9459f73c2c", func := "loop.example/g01368/laws.FnExactFrameScores", spec := "fnExactFrameScores", unfollowed := true, recurses := true, plainKeys := false, apart := false }
def FnExactFrameScoresSaid : Prop := fnExactFrameScoresRow.holds Try.pinned (OpenSpec.ofChange fnExactFrameScoresSpec)

/-- ITS FALSE NEIGHBOUR: 'it returns false'. Refute it at one input. -/
def fnExactFrameScoresWrong : ChangeSpec := { name := "fnExactFrameScores", fn := fun _ => fun
  | [d1, d2] => { results := [.lit (.bool false)], args := [d1, d2] }
  | _ => none }
def FnExactFrameScoresWrongFalsely : Prop := fnExactFrameScoresRow.holds Try.pinned (OpenSpec.ofChange fnExactFrameScoresWrong)

/-- 'laws.FnExactTotalOf': WHATEVER THE INPUT: true; the input reads as it did. -/
def fnExactTotalOfSpec : ChangeSpec := { name := "fnExactTotalOf", fn := fun _ => fun
  | [d1, d2] => { results := [.lit (.bool true)], args := [d1, d2] }
  | _ => none }
def fnExactTotalOfRow : OpenClaim := { program := "yteippgbaaipiiaa", sum := "763edaab44d03f806c1d184ae357fe3420117c4952512ead760ded9459f73c2c", func := "loop.example/g01368/laws.FnExactTotalOf", spec := "fnExactTotalOf", unfollowed := true, recurses := true, plainKeys := false, apart := false }
def FnExactTotalOfSaid : Prop := fnExactTotalOfRow.holds Try.pinned (OpenSpec.ofChange fnExactTotalOfSpec)

/-- ITS FALSE NEIGHBOUR: 'it returns false'. Refute it at one input. -/
def fnExactTotalOfWrong : ChangeSpec := { name := "fnExactTotalOf", fn := fun _ => fun
  | [d1, d2] => { results := [.lit (.bool false)], args := [d1, d2] }
  | _ => none }
def FnExactTotalOfWrongFalsely : Prop := fnExactTotalOfRow.holds Try.pinned (OpenSpec.ofChange fnExactTotalOfWrong)

/-- 'laws.FnExactSoFar': WHATEVER THE INPUT: true; the input reads as it did. -/
def fnExactSoFarSpec : ChangeSpec := { name := "fnExactSoFar", fn := fun _ => fun
  | [d1, d2] => { results := [.lit (.bool true)], args := [d1, d2] }
  | _ => none }
def fnExactSoFarRow : OpenClaim := { program := "yteippgbaaipiiaa", sum := "763edaab44d03f806c1d184ae357fe3420117c4952512ead760ded9459f73c2c", func := "loop.example/g01368/laws.FnExactSoFar", spec := "fnExactSoFar", unfollowed := true, recurses := true, plainKeys := false, apart := false }
def FnExactSoFarSaid : Prop := fnExactSoFarRow.holds Try.pinned (OpenSpec.ofChange fnExactSoFarSpec)

/-- ITS FALSE NEIGHBOUR: 'it returns false'. Refute it at one input. -/
def fnExactSoFarWrong : ChangeSpec := { name := "fnExactSoFar", fn := fun _ => fun
  | [d1, d2] => { results := [.lit (.bool false)], args := [d1, d2] }
  | _ => none }
def FnExactSoFarWrongFalsely : Prop := fnExactSoFarRow.holds Try.pinned (OpenSpec.ofChange fnExactSoFarWrong)

/-- 'laws.FnExactMostTotal': WHATEVER THE INPUT: true; the input reads as it did. -/
def fnExactMostTotalSpec : ChangeSpec := { name := "fnExactMostTotal", fn := fun _ => fun
  | [d1, d2] => { results := [.lit (.bool true)], args := [d1, d2] }
  | _ => none }
def fnExactMostTotalRow : OpenClaim := { program := "yteippgbaaipiiaa", sum := "763edaab44d03f806c1d184ae357fe3420117c4952512ead760ded9459f73c2c", func := "loop.example/g01368/laws.FnExactMostTotal", spec := "fnExactMostTotal", unfollowed := true, recurses := true, plainKeys := false, apart := false }
def FnExactMostTotalSaid : Prop := fnExactMostTotalRow.holds Try.pinned (OpenSpec.ofChange fnExactMostTotalSpec)

/-- ITS FALSE NEIGHBOUR: 'it returns false'. Refute it at one input. -/
def fnExactMostTotalWrong : ChangeSpec := { name := "fnExactMostTotal", fn := fun _ => fun
  | [d1, d2] => { results := [.lit (.bool false)], args := [d1, d2] }
  | _ => none }
def FnExactMostTotalWrongFalsely : Prop := fnExactMostTotalRow.holds Try.pinned (OpenSpec.ofChange fnExactMostTotalWrong)

/-- 'laws.FnExactLeastTotal': WHATEVER THE INPUT: true; the input reads as it did. -/
def fnExactLeastTotalSpec : ChangeSpec := { name := "fnExactLeastTotal", fn := fun _ => fun
  | [d1, d2] => { results := [.lit (.bool true)], args := [d1, d2] }
  | _ => none }
def fnExactLeastTotalRow : OpenClaim := { program := "yteippgbaaipiiaa", sum := "763edaab44d03f806c1d184ae357fe3420117c4952512ead760ded9459f73c2c", func := "loop.example/g01368/laws.FnExactLeastTotal", spec := "fnExactLeastTotal", unfollowed := true, recurses := true, plainKeys := false, apart := false }
def FnExactLeastTotalSaid : Prop := fnExactLeastTotalRow.holds Try.pinned (OpenSpec.ofChange fnExactLeastTotalSpec)

/-- ITS FALSE NEIGHBOUR: 'it returns false'. Refute it at one input. -/
def fnExactLeastTotalWrong : ChangeSpec := { name := "fnExactLeastTotal", fn := fun _ => fun
  | [d1, d2] => { results := [.lit (.bool false)], args := [d1, d2] }
  | _ => none }
def FnExactLeastTotalWrongFalsely : Prop := fnExactLeastTotalRow.holds Try.pinned (OpenSpec.ofChange fnExactLeastTotalWrong)

/-- 'laws.FnExactStrikesIn': WHATEVER THE INPUT: true; the input reads as it did. -/
def fnExactStrikesInSpec : ChangeSpec := { name := "fnExactStrikesIn", fn := fun _ => fun
  | [d1, d2] => { results := [.lit (.bool true)], args := [d1, d2] }
  | _ => none }
def fnExactStrikesInRow : OpenClaim := { program := "yteippgbaaipiiaa", sum := "763edaab44d03f806c1d184ae357fe3420117c4952512ead760ded9459f73c2c", func := "loop.example/g01368/laws.FnExactStrikesIn", spec := "fnExactStrikesIn", plainKeys := false, apart := false }
def FnExactStrikesInSaid : Prop := fnExactStrikesInRow.holds Try.pinned (OpenSpec.ofChange fnExactStrikesInSpec)

/-- ITS FALSE NEIGHBOUR: 'it returns false'. Refute it at one input. -/
def fnExactStrikesInWrong : ChangeSpec := { name := "fnExactStrikesIn", fn := fun _ => fun
  | [d1, d2] => { results := [.lit (.bool false)], args := [d1, d2] }
  | _ => none }
def FnExactStrikesInWrongFalsely : Prop := fnExactStrikesInRow.holds Try.pinned (OpenSpec.ofChange fnExactStrikesInWrong)

/-- 'laws.FnExactSparesIn': WHATEVER THE INPUT: true; the input reads as it did. -/
def fnExactSparesInSpec : ChangeSpec := { name := "fnExactSparesIn", fn := fun _ => fun
  | [d1, d2] => { results := [.lit (.bool true)], args := [d1, d2] }
  | _ => none }
def fnExactSparesInRow : OpenClaim := { program := "yteippgbaaipiiaa", sum := "763edaab44d03f806c1d184ae357fe3420117c4952512ead760ded9459f73c2c", func := "loop.example/g01368/laws.FnExactSparesIn", spec := "fnExactSparesIn", plainKeys := false, apart := false }
def FnExactSparesInSaid : Prop := fnExactSparesInRow.holds Try.pinned (OpenSpec.ofChange fnExactSparesInSpec)

/-- ITS FALSE NEIGHBOUR: 'it returns false'. Refute it at one input. -/
def fnExactSparesInWrong : ChangeSpec := { name := "fnExactSparesIn", fn := fun _ => fun
  | [d1, d2] => { results := [.lit (.bool false)], args := [d1, d2] }
  | _ => none }
def FnExactSparesInWrongFalsely : Prop := fnExactSparesInRow.holds Try.pinned (OpenSpec.ofChange fnExactSparesInWrong)

/-- 'laws.FnExactStandingPins': WHATEVER THE INPUT: true; the input reads as it did. -/
def fnExactStandingPinsSpec : ChangeSpec := { name := "fnExactStandingPins", fn := fun _ => fun
  | [d1, d2] => { results := [.lit (.bool true)], args := [d1, d2] }
  | _ => none }
def fnExactStandingPinsRow : OpenClaim := { program := "yteippgbaaipiiaa", sum := "763edaab44d03f806c1d184ae357fe3420117c4952512ead760ded9459f73c2c", func := "loop.example/g01368/laws.FnExactStandingPins", spec := "fnExactStandingPins", plainKeys := false, apart := false }
def FnExactStandingPinsSaid : Prop := fnExactStandingPinsRow.holds Try.pinned (OpenSpec.ofChange fnExactStandingPinsSpec)

/-- ITS FALSE NEIGHBOUR: 'it returns false'. Refute it at one input. -/
def fnExactStandingPinsWrong : ChangeSpec := { name := "fnExactStandingPins", fn := fun _ => fun
  | [d1, d2] => { results := [.lit (.bool false)], args := [d1, d2] }
  | _ => none }
def FnExactStandingPinsWrongFalsely : Prop := fnExactStandingPinsRow.holds Try.pinned (OpenSpec.ofChange fnExactStandingPinsWrong)

/-- 'laws.FnExactRollsLeft': WHATEVER THE INPUT: true; the input reads as it did. -/
def fnExactRollsLeftSpec : ChangeSpec := { name := "fnExactRollsLeft", fn := fun _ => fun
  | [d1, d2] => { results := [.lit (.bool true)], args := [d1, d2] }
  | _ => none }
def fnExactRollsLeftRow : OpenClaim := { program := "yteippgbaaipiiaa", sum := "763edaab44d03f806c1d184ae357fe3420117c4952512ead760ded9459f73c2c", func := "loop.example/g01368/laws.FnExactRollsLeft", spec := "fnExactRollsLeft", unfollowed := true, recurses := true, plainKeys := false, apart := false }
def FnExactRollsLeftSaid : Prop := fnExactRollsLeftRow.holds Try.pinned (OpenSpec.ofChange fnExactRollsLeftSpec)

/-- ITS FALSE NEIGHBOUR: 'it returns false'. Refute it at one input. -/
def fnExactRollsLeftWrong : ChangeSpec := { name := "fnExactRollsLeft", fn := fun _ => fun
  | [d1, d2] => { results := [.lit (.bool false)], args := [d1, d2] }
  | _ => none }
def FnExactRollsLeftWrongFalsely : Prop := fnExactRollsLeftRow.holds Try.pinned (OpenSpec.ofChange fnExactRollsLeftWrong)

/-- 'laws.FnExactCountGamesOf': WHATEVER THE INPUT: true; the input reads as it did. -/
def fnExactCountGamesOfSpec : ChangeSpec := { name := "fnExactCountGamesOf", fn := fun _ => fun
  | [d1, d2] => { results := [.lit (.bool true)], args := [d1, d2] }
  | _ => none }
def fnExactCountGamesOfRow : OpenClaim := { program := "yteippgbaaipiiaa", sum := "763edaab44d03f806c1d184ae357fe3420117c4952512ead760ded9459f73c2c", func := "loop.example/g01368/laws.FnExactCountGamesOf", spec := "fnExactCountGamesOf", recurses := true, plainKeys := false, apart := false }
def FnExactCountGamesOfSaid : Prop := fnExactCountGamesOfRow.holds Try.pinned (OpenSpec.ofChange fnExactCountGamesOfSpec)

/-- ITS FALSE NEIGHBOUR: 'it returns false'. Refute it at one input. -/
def fnExactCountGamesOfWrong : ChangeSpec := { name := "fnExactCountGamesOf", fn := fun _ => fun
  | [d1, d2] => { results := [.lit (.bool false)], args := [d1, d2] }
  | _ => none }
def FnExactCountGamesOfWrongFalsely : Prop := fnExactCountGamesOfRow.holds Try.pinned (OpenSpec.ofChange fnExactCountGamesOfWrong)

/-- 'laws.FnExactFirstGameOf': WHATEVER THE INPUT: true; the input reads as it did. -/
def fnExactFirstGameOfSpec : ChangeSpec := { name := "fnExactFirstGameOf", fn := fun _ => fun
  | [d1, d2] => { results := [.lit (.bool true)], args := [d1, d2] }
  | _ => none }
def fnExactFirstGameOfRow : OpenClaim := { program := "yteippgbaaipiiaa", sum := "763edaab44d03f806c1d184ae357fe3420117c4952512ead760ded9459f73c2c", func := "loop.example/g01368/laws.FnExactFirstGameOf", spec := "fnExactFirstGameOf", recurses := true, plainKeys := false, apart := false }
def FnExactFirstGameOfSaid : Prop := fnExactFirstGameOfRow.holds Try.pinned (OpenSpec.ofChange fnExactFirstGameOfSpec)

/-- ITS FALSE NEIGHBOUR: 'it returns false'. Refute it at one input. -/
def fnExactFirstGameOfWrong : ChangeSpec := { name := "fnExactFirstGameOf", fn := fun _ => fun
  | [d1, d2] => { results := [.lit (.bool false)], args := [d1, d2] }
  | _ => none }
def FnExactFirstGameOfWrongFalsely : Prop := fnExactFirstGameOfRow.holds Try.pinned (OpenSpec.ofChange fnExactFirstGameOfWrong)

/-- 'laws.FnExactMostGames': WHATEVER THE INPUT: true; the input reads as it did. -/
def fnExactMostGamesSpec : ChangeSpec := { name := "fnExactMostGames", fn := fun _ => fun
  | [d] => { results := [.lit (.bool true)], args := [d] }
  | _ => none }
def fnExactMostGamesRow : OpenClaim := { program := "yteippgbaaipiiaa", sum := "763edaab44d03f806c1d184ae357fe3420117c4952512ead760ded9459f73c2c", func := "loop.example/g01368/laws.FnExactMostGames", spec := "fnExactMostGames", recurses := true, plainKeys := false, apart := false }
def FnExactMostGamesSaid : Prop := fnExactMostGamesRow.holds Try.pinned (OpenSpec.ofChange fnExactMostGamesSpec)

/-- ITS FALSE NEIGHBOUR: 'it returns false'. Refute it at one input. -/
def fnExactMostGamesWrong : ChangeSpec := { name := "fnExactMostGames", fn := fun _ => fun
  | [d] => { results := [.lit (.bool false)], args := [d] }
  | _ => none }
def FnExactMostGamesWrongFalsely : Prop := fnExactMostGamesRow.holds Try.pinned (OpenSpec.ofChange fnExactMostGamesWrong)

/-- 'laws.FnExactBestRoll': WHATEVER THE INPUT: true; the input reads as it did. -/
def fnExactBestRollSpec : ChangeSpec := { name := "fnExactBestRoll", fn := fun _ => fun
  | [d1, d2, d3] => { results := [.lit (.bool true)], args := [d1, d2, d3] }
  | _ => none }
def fnExactBestRollRow : OpenClaim := { program := "yteippgbaaipiiaa", sum := "763edaab44d03f806c1d184ae357fe3420117c4952512ead760ded9459f73c2c", func := "loop.example/g01368/laws.FnExactBestRoll", spec := "fnExactBestRoll", unfollowed := true, recurses := true, plainKeys := false, apart := false }
def FnExactBestRollSaid : Prop := fnExactBestRollRow.holds Try.pinned (OpenSpec.ofChange fnExactBestRollSpec)

/-- ITS FALSE NEIGHBOUR: 'it returns false'. Refute it at one input. -/
def fnExactBestRollWrong : ChangeSpec := { name := "fnExactBestRoll", fn := fun _ => fun
  | [d1, d2, d3] => { results := [.lit (.bool false)], args := [d1, d2, d3] }
  | _ => none }
def FnExactBestRollWrongFalsely : Prop := fnExactBestRollRow.holds Try.pinned (OpenSpec.ofChange fnExactBestRollWrong)

/- THE SECOND FORM. 'bulk': how many values and letters a reading holds, each counted each time it is reached (what is shared counts as often as it is met; a slice's spare places count too). A statement '..UptoSaid' is the law's where the arguments, and the package variables that the reading takes, are together of bulk at most 1048576: NARROWER than '..Said'. Prove '..Said' where nothing that the law and all that it calls make is longer than what came in: it says more and counts as full. Else prove '..UptoSaid'. A law counts once. -/
mutual
def uptoBulk {H : Type} : DataW H → Nat
  | .lit (.string bytes) => bytes.length + 1
  | .lit _ => 1
  | .nil => 1
  | .ptr d => uptoBulk d + 1
  | .slice elems spare => uptoBulkAll elems + uptoBulkAll spare + 1
  | .agg parts => uptoBulkAll parts + 1
  | .iface _ d => uptoBulk d + 1
  | .map entries => uptoBulkEntries entries + 1
  | .held _ => 1
def uptoBulkAll {H : Type} : List (DataW H) → Nat
  | [] => 0
  | d :: r => uptoBulk d + uptoBulkAll r
def uptoBulkEntries {H : Type} : List (Lit × DataW H) → Nat
  | [] => 0
  | x :: r => uptoBulkEntry x + uptoBulkEntries r
def uptoBulkEntry {H : Type} : Lit × DataW H → Nat
  | (.string bytes, d) => bytes.length + uptoBulk d + 1
  | (_, d) => uptoBulk d + 1
 end
def uptoSmall : (H : Type) → List (DataW H) → Bool := fun _ ds => decide (uptoBulkAll ds ≤ 1048576)
def OpenSpec.upto (s : _root_.Go.ChangeSpec) : _root_.Go.OpenSpec := { _root_.Go.OpenSpec.ofChange s with cond := some uptoSmall }

/-- 'laws.FnExactAreRolls', WHERE WHAT IT READS IS OF BULK AT MOST 1048576: true; the input reads as it did. -/
def fnExactAreRollsUptoRow : OpenClaim := { program := "yteippgbaaipiiaa", sum := "763edaab44d03f806c1d184ae357fe3420117c4952512ead760ded9459f73c2c", func := "loop.example/g01368/laws.FnExactAreRolls", spec := "fnExactAreRolls", plainKeys := false, apart := false, narrowed := true }
def FnExactAreRollsUptoSaid : Prop := fnExactAreRollsUptoRow.holds Try.pinned (OpenSpec.upto fnExactAreRollsSpec)

/-- 'laws.FnExactAreAll', WHERE WHAT IT READS IS OF BULK AT MOST 1048576: true; the input reads as it did. -/
def fnExactAreAllUptoRow : OpenClaim := { program := "yteippgbaaipiiaa", sum := "763edaab44d03f806c1d184ae357fe3420117c4952512ead760ded9459f73c2c", func := "loop.example/g01368/laws.FnExactAreAll", spec := "fnExactAreAll", plainKeys := false, apart := false, narrowed := true }
def FnExactAreAllUptoSaid : Prop := fnExactAreAllUptoRow.holds Try.pinned (OpenSpec.upto fnExactAreAllSpec)

/-- 'laws.FnExactFramesOfRolls', WHERE WHAT IT READS IS OF BULK AT MOST 1048576: true; the input reads as it did. -/
def fnExactFramesOfRollsUptoRow : OpenClaim := { program := "yteippgbaaipiiaa", sum := "763edaab44d03f806c1d184ae357fe3420117c4952512ead760ded9459f73c2c", func := "loop.example/g01368/laws.FnExactFramesOfRolls", spec := "fnExactFramesOfRolls", plainKeys := false, apart := false, narrowed := true }
def FnExactFramesOfRollsUptoSaid : Prop := fnExactFramesOfRollsUptoRow.holds Try.pinned (OpenSpec.upto fnExactFramesOfRollsSpec)

/-- 'laws.FnExactFrameScores', WHERE WHAT IT READS IS OF BULK AT MOST 1048576: true; the input reads as it did. -/
def fnExactFrameScoresUptoRow : OpenClaim := { program := "yteippgbaaipiiaa", sum := "763edaab44d03f806c1d184ae357fe3420117c4952512ead760ded9459f73c2c", func := "loop.example/g01368/laws.FnExactFrameScores", spec := "fnExactFrameScores", unfollowed := true, recurses := true, plainKeys := false, apart := false, narrowed := true }
def FnExactFrameScoresUptoSaid : Prop := fnExactFrameScoresUptoRow.holds Try.pinned (OpenSpec.upto fnExactFrameScoresSpec)

/-- 'laws.FnExactTotalOf', WHERE WHAT IT READS IS OF BULK AT MOST 1048576: true; the input reads as it did. -/
def fnExactTotalOfUptoRow : OpenClaim := { program := "yteippgbaaipiiaa", sum := "763edaab44d03f806c1d184ae357fe3420117c4952512ead760ded9459f73c2c", func := "loop.example/g01368/laws.FnExactTotalOf", spec := "fnExactTotalOf", unfollowed := true, recurses := true, plainKeys := false, apart := false, narrowed := true }
def FnExactTotalOfUptoSaid : Prop := fnExactTotalOfUptoRow.holds Try.pinned (OpenSpec.upto fnExactTotalOfSpec)

/-- 'laws.FnExactSoFar', WHERE WHAT IT READS IS OF BULK AT MOST 1048576: true; the input reads as it did. -/
def fnExactSoFarUptoRow : OpenClaim := { program := "yteippgbaaipiiaa", sum := "763edaab44d03f806c1d184ae357fe3420117c4952512ead760ded9459f73c2c", func := "loop.example/g01368/laws.FnExactSoFar", spec := "fnExactSoFar", unfollowed := true, recurses := true, plainKeys := false, apart := false, narrowed := true }
def FnExactSoFarUptoSaid : Prop := fnExactSoFarUptoRow.holds Try.pinned (OpenSpec.upto fnExactSoFarSpec)

/-- 'laws.FnExactMostTotal', WHERE WHAT IT READS IS OF BULK AT MOST 1048576: true; the input reads as it did. -/
def fnExactMostTotalUptoRow : OpenClaim := { program := "yteippgbaaipiiaa", sum := "763edaab44d03f806c1d184ae357fe3420117c4952512ead760ded9459f73c2c", func := "loop.example/g01368/laws.FnExactMostTotal", spec := "fnExactMostTotal", unfollowed := true, recurses := true, plainKeys := false, apart := false, narrowed := true }
def FnExactMostTotalUptoSaid : Prop := fnExactMostTotalUptoRow.holds Try.pinned (OpenSpec.upto fnExactMostTotalSpec)

/-- 'laws.FnExactLeastTotal', WHERE WHAT IT READS IS OF BULK AT MOST 1048576: true; the input reads as it did. -/
def fnExactLeastTotalUptoRow : OpenClaim := { program := "yteippgbaaipiiaa", sum := "763edaab44d03f806c1d184ae357fe3420117c4952512ead760ded9459f73c2c", func := "loop.example/g01368/laws.FnExactLeastTotal", spec := "fnExactLeastTotal", unfollowed := true, recurses := true, plainKeys := false, apart := false, narrowed := true }
def FnExactLeastTotalUptoSaid : Prop := fnExactLeastTotalUptoRow.holds Try.pinned (OpenSpec.upto fnExactLeastTotalSpec)

/-- 'laws.FnExactStrikesIn', WHERE WHAT IT READS IS OF BULK AT MOST 1048576: true; the input reads as it did. -/
def fnExactStrikesInUptoRow : OpenClaim := { program := "yteippgbaaipiiaa", sum := "763edaab44d03f806c1d184ae357fe3420117c4952512ead760ded9459f73c2c", func := "loop.example/g01368/laws.FnExactStrikesIn", spec := "fnExactStrikesIn", plainKeys := false, apart := false, narrowed := true }
def FnExactStrikesInUptoSaid : Prop := fnExactStrikesInUptoRow.holds Try.pinned (OpenSpec.upto fnExactStrikesInSpec)

/-- 'laws.FnExactSparesIn', WHERE WHAT IT READS IS OF BULK AT MOST 1048576: true; the input reads as it did. -/
def fnExactSparesInUptoRow : OpenClaim := { program := "yteippgbaaipiiaa", sum := "763edaab44d03f806c1d184ae357fe3420117c4952512ead760ded9459f73c2c", func := "loop.example/g01368/laws.FnExactSparesIn", spec := "fnExactSparesIn", plainKeys := false, apart := false, narrowed := true }
def FnExactSparesInUptoSaid : Prop := fnExactSparesInUptoRow.holds Try.pinned (OpenSpec.upto fnExactSparesInSpec)

/-- 'laws.FnExactStandingPins', WHERE WHAT IT READS IS OF BULK AT MOST 1048576: true; the input reads as it did. -/
def fnExactStandingPinsUptoRow : OpenClaim := { program := "yteippgbaaipiiaa", sum := "763edaab44d03f806c1d184ae357fe3420117c4952512ead760ded9459f73c2c", func := "loop.example/g01368/laws.FnExactStandingPins", spec := "fnExactStandingPins", plainKeys := false, apart := false, narrowed := true }
def FnExactStandingPinsUptoSaid : Prop := fnExactStandingPinsUptoRow.holds Try.pinned (OpenSpec.upto fnExactStandingPinsSpec)

/-- 'laws.FnExactRollsLeft', WHERE WHAT IT READS IS OF BULK AT MOST 1048576: true; the input reads as it did. -/
def fnExactRollsLeftUptoRow : OpenClaim := { program := "yteippgbaaipiiaa", sum := "763edaab44d03f806c1d184ae357fe3420117c4952512ead760ded9459f73c2c", func := "loop.example/g01368/laws.FnExactRollsLeft", spec := "fnExactRollsLeft", unfollowed := true, recurses := true, plainKeys := false, apart := false, narrowed := true }
def FnExactRollsLeftUptoSaid : Prop := fnExactRollsLeftUptoRow.holds Try.pinned (OpenSpec.upto fnExactRollsLeftSpec)

/-- 'laws.FnExactCountGamesOf', WHERE WHAT IT READS IS OF BULK AT MOST 1048576: true; the input reads as it did. -/
def fnExactCountGamesOfUptoRow : OpenClaim := { program := "yteippgbaaipiiaa", sum := "763edaab44d03f806c1d184ae357fe3420117c4952512ead760ded9459f73c2c", func := "loop.example/g01368/laws.FnExactCountGamesOf", spec := "fnExactCountGamesOf", recurses := true, plainKeys := false, apart := false, narrowed := true }
def FnExactCountGamesOfUptoSaid : Prop := fnExactCountGamesOfUptoRow.holds Try.pinned (OpenSpec.upto fnExactCountGamesOfSpec)

/-- 'laws.FnExactFirstGameOf', WHERE WHAT IT READS IS OF BULK AT MOST 1048576: true; the input reads as it did. -/
def fnExactFirstGameOfUptoRow : OpenClaim := { program := "yteippgbaaipiiaa", sum := "763edaab44d03f806c1d184ae357fe3420117c4952512ead760ded9459f73c2c", func := "loop.example/g01368/laws.FnExactFirstGameOf", spec := "fnExactFirstGameOf", recurses := true, plainKeys := false, apart := false, narrowed := true }
def FnExactFirstGameOfUptoSaid : Prop := fnExactFirstGameOfUptoRow.holds Try.pinned (OpenSpec.upto fnExactFirstGameOfSpec)

/-- 'laws.FnExactMostGames', WHERE WHAT IT READS IS OF BULK AT MOST 1048576: true; the input reads as it did. -/
def fnExactMostGamesUptoRow : OpenClaim := { program := "yteippgbaaipiiaa", sum := "763edaab44d03f806c1d184ae357fe3420117c4952512ead760ded9459f73c2c", func := "loop.example/g01368/laws.FnExactMostGames", spec := "fnExactMostGames", recurses := true, plainKeys := false, apart := false, narrowed := true }
def FnExactMostGamesUptoSaid : Prop := fnExactMostGamesUptoRow.holds Try.pinned (OpenSpec.upto fnExactMostGamesSpec)

/-- 'laws.FnExactBestRoll', WHERE WHAT IT READS IS OF BULK AT MOST 1048576: true; the input reads as it did. -/
def fnExactBestRollUptoRow : OpenClaim := { program := "yteippgbaaipiiaa", sum := "763edaab44d03f806c1d184ae357fe3420117c4952512ead760ded9459f73c2c", func := "loop.example/g01368/laws.FnExactBestRoll", spec := "fnExactBestRoll", unfollowed := true, recurses := true, plainKeys := false, apart := false, narrowed := true }
def FnExactBestRollUptoSaid : Prop := fnExactBestRollUptoRow.holds Try.pinned (OpenSpec.upto fnExactBestRollSpec)

end Rows
end Go.Proofs.Yteippgbaaipiiaa
