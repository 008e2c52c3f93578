/-
  NARROWER THAN 'FOR EVERY INPUT', by the rows' own cells (each row's printed sentence says how): FnExactDoesFit: ifaces, laid · FnExactSolutions: ifaces, laid · FnExactCountSolutions: ifaces, laid · FnExactFirstSolution: ifaces, laid · FnExactSurePoints: ifaces, laid · FnExactIsSolved: ifaces, laid · FnExactNeedlessClues: ifaces, laid · FnExactLeftByClues: ifaces, laid · FnExactBestClue: ifaces, laid · FnExactHarderPuzzle: ifaces, laid · FnExactMakePuzzle: ifaces, laid.
  DERIVED. THE GIVEN ROWS OF THIS SEAT. 11 by the template 'for every input the law returns true; each argument reads behind the call as it read before'; 0 by the template 'total and deterministic' (their statements: YtcigighklghjkaaDoorTotals.lean).
  GIVEN WITH THE SEED: the statements are not yours to turn. If you find one false, say at which input.
  Laid BY PROGRAM, IN A SANDBOX (cutbox-rows.mjs): the forced cells as the released guide's own fill.sh prints them over the translation 93b00eb7b44fec15… (all of the seat's roots in one cut). By AI agents, Wed Nov 11 2026. No macro, syntax, notation, axiom, sorry.
-/
import Derived.Test.YtcigighklghjkaaDoorChecked
import GoSem.Claim
import GoSem.ClaimJoined
import GoSem.ClaimMapViews
import Derived.JoinedTies
import Derived.KernelRfl
namespace Go.Proofs.YtcigighklghjkaaDoor
/- THE CELL 'sum', in the pinned program and in every row, IS THE sha256 OF THE DUMP (.gsa) THAT YtcigighklghjkaaDoorProg.lean LOADS. Nothing in Lean hashes anything: it is a label: what it is worth is what the hold of that sum in a sandbox is worth. -/
noncomputable def Tryd.pinned : Pinned := { name := "ytcigighklghjkaadoor", sum := "93b00eb7b44fec151a161533575c86ce43ee77d73d65bb6ae8973b819ecbd71b", checked := Tryd.checked }
namespace Rows
def none {H : Type} : Left H := { results := [], args := [] }

/- WHAT THE LISTED PACKAGE-LEVEL VARIABLES READ AS WHEN THE CALL BEGINS. Each datum BY PROGRAM (the guide's laid-datum.mjs) off the statement by which the dump's own 'gosem.cut.vars' lays the variable. In a bare row this is a premise. The card (YtcigighklghjkaaDoorCards.lean) ties it to the program's text. -/
def laid_loop_example_g01368_impl_errNoPoint {H : Type} : DataW H := .iface "*errors.errorString" (.ptr (.agg [.lit (.string [110, 111, 32, 112, 111, 105, 110, 116])]))
def laid_loop_example_g01368_impl_errBehindEnd {H : Type} : DataW H := .iface "*errors.errorString" (.ptr (.agg [.lit (.string [97, 32, 112, 111, 105, 110, 116, 32, 98, 101, 104, 105, 110, 100, 32, 116, 104, 101, 32, 101, 110, 100])]))

/-- 'laws.FnExactDoesFit': WHATEVER THE INPUT: true; the input reads as it did. -/
def fnExactDoesFitSpec : ChangeSpec := { name := "fnExactDoesFit", vars := ["loop.example/g01368/impl.errNoPoint", "loop.example/g01368/impl.errBehindEnd"], fn := fun _ => fun
  | [d1, d2, g1, g2] => { results := [.lit (.bool true)], args := [d1, d2], vars := [g1, g2] }
  | _ => none }
def fnExactDoesFitRow : OpenClaim := { program := "ytcigighklghjkaadoor", sum := "93b00eb7b44fec151a161533575c86ce43ee77d73d65bb6ae8973b819ecbd71b", func := "loop.example/g01368/laws.FnExactDoesFit", spec := "fnExactDoesFit", inPlace := ["internal/bytealg.CountString", "internal/bytealg.IndexByteString", "internal/bytealg.IndexString"], unfollowed := true, recurses := true, named := ["internal/bytealg.MaxLen", "loop.example/g01368/impl.errNoPoint", "loop.example/g01368/impl.errBehindEnd"], ifaces := true, apart := false, laid := [("loop.example/g01368/impl.errNoPoint", laid_loop_example_g01368_impl_errNoPoint), ("loop.example/g01368/impl.errBehindEnd", laid_loop_example_g01368_impl_errBehindEnd)] }
def FnExactDoesFitSaid : Prop := fnExactDoesFitRow.holds Tryd.pinned (OpenSpec.ofChange fnExactDoesFitSpec)

/-- ITS FALSE NEIGHBOUR: 'it returns false'. Refute it at one input. -/
def fnExactDoesFitWrong : ChangeSpec := { name := "fnExactDoesFit", vars := ["loop.example/g01368/impl.errNoPoint", "loop.example/g01368/impl.errBehindEnd"], fn := fun _ => fun
  | [d1, d2, g1, g2] => { results := [.lit (.bool false)], args := [d1, d2], vars := [g1, g2] }
  | _ => none }
def FnExactDoesFitWrongFalsely : Prop := fnExactDoesFitRow.holds Tryd.pinned (OpenSpec.ofChange fnExactDoesFitWrong)

/-- 'laws.FnExactSolutions': WHATEVER THE INPUT: true; the input reads as it did. -/
def fnExactSolutionsSpec : ChangeSpec := { name := "fnExactSolutions", vars := ["loop.example/g01368/impl.errNoPoint", "loop.example/g01368/impl.errBehindEnd"], fn := fun _ => fun
  | [d, g1, g2] => { results := [.lit (.bool true)], args := [d], vars := [g1, g2] }
  | _ => none }
def fnExactSolutionsRow : OpenClaim := { program := "ytcigighklghjkaadoor", sum := "93b00eb7b44fec151a161533575c86ce43ee77d73d65bb6ae8973b819ecbd71b", func := "loop.example/g01368/laws.FnExactSolutions", spec := "fnExactSolutions", inPlace := ["internal/bytealg.CountString", "internal/bytealg.IndexByteString", "internal/bytealg.IndexString"], unfollowed := true, recurses := true, named := ["internal/bytealg.MaxLen", "loop.example/g01368/impl.errNoPoint", "loop.example/g01368/impl.errBehindEnd"], ifaces := true, apart := false, laid := [("loop.example/g01368/impl.errNoPoint", laid_loop_example_g01368_impl_errNoPoint), ("loop.example/g01368/impl.errBehindEnd", laid_loop_example_g01368_impl_errBehindEnd)] }
def FnExactSolutionsSaid : Prop := fnExactSolutionsRow.holds Tryd.pinned (OpenSpec.ofChange fnExactSolutionsSpec)

/-- ITS FALSE NEIGHBOUR: 'it returns false'. Refute it at one input. -/
def fnExactSolutionsWrong : ChangeSpec := { name := "fnExactSolutions", vars := ["loop.example/g01368/impl.errNoPoint", "loop.example/g01368/impl.errBehindEnd"], fn := fun _ => fun
  | [d, g1, g2] => { results := [.lit (.bool false)], args := [d], vars := [g1, g2] }
  | _ => none }
def FnExactSolutionsWrongFalsely : Prop := fnExactSolutionsRow.holds Tryd.pinned (OpenSpec.ofChange fnExactSolutionsWrong)

/-- 'laws.FnExactCountSolutions': WHATEVER THE INPUT: true; the input reads as it did. -/
def fnExactCountSolutionsSpec : ChangeSpec := { name := "fnExactCountSolutions", vars := ["loop.example/g01368/impl.errNoPoint", "loop.example/g01368/impl.errBehindEnd"], fn := fun _ => fun
  | [d, g1, g2] => { results := [.lit (.bool true)], args := [d], vars := [g1, g2] }
  | _ => none }
def fnExactCountSolutionsRow : OpenClaim := { program := "ytcigighklghjkaadoor", sum := "93b00eb7b44fec151a161533575c86ce43ee77d73d65bb6ae8973b819ecbd71b", func := "loop.example/g01368/laws.FnExactCountSolutions", spec := "fnExactCountSolutions", inPlace := ["internal/bytealg.CountString", "internal/bytealg.IndexByteString", "internal/bytealg.IndexString"], unfollowed := true, recurses := true, named := ["internal/bytealg.MaxLen", "loop.example/g01368/impl.errNoPoint", "loop.example/g01368/impl.errBehindEnd"], ifaces := true, apart := false, laid := [("loop.example/g01368/impl.errNoPoint", laid_loop_example_g01368_impl_errNoPoint), ("loop.example/g01368/impl.errBehindEnd", laid_loop_example_g01368_impl_errBehindEnd)] }
def FnExactCountSolutionsSaid : Prop := fnExactCountSolutionsRow.holds Tryd.pinned (OpenSpec.ofChange fnExactCountSolutionsSpec)

/-- ITS FALSE NEIGHBOUR: 'it returns false'. Refute it at one input. -/
def fnExactCountSolutionsWrong : ChangeSpec := { name := "fnExactCountSolutions", vars := ["loop.example/g01368/impl.errNoPoint", "loop.example/g01368/impl.errBehindEnd"], fn := fun _ => fun
  | [d, g1, g2] => { results := [.lit (.bool false)], args := [d], vars := [g1, g2] }
  | _ => none }
def FnExactCountSolutionsWrongFalsely : Prop := fnExactCountSolutionsRow.holds Tryd.pinned (OpenSpec.ofChange fnExactCountSolutionsWrong)

/-- 'laws.FnExactFirstSolution': WHATEVER THE INPUT: true; the input reads as it did. -/
def fnExactFirstSolutionSpec : ChangeSpec := { name := "fnExactFirstSolution", vars := ["loop.example/g01368/impl.errNoPoint", "loop.example/g01368/impl.errBehindEnd"], fn := fun _ => fun
  | [d, g1, g2] => { results := [.lit (.bool true)], args := [d], vars := [g1, g2] }
  | _ => none }
def fnExactFirstSolutionRow : OpenClaim := { program := "ytcigighklghjkaadoor", sum := "93b00eb7b44fec151a161533575c86ce43ee77d73d65bb6ae8973b819ecbd71b", func := "loop.example/g01368/laws.FnExactFirstSolution", spec := "fnExactFirstSolution", inPlace := ["internal/bytealg.CountString", "internal/bytealg.IndexByteString", "internal/bytealg.IndexString"], unfollowed := true, recurses := true, named := ["internal/bytealg.MaxLen", "loop.example/g01368/impl.errNoPoint", "loop.example/g01368/impl.errBehindEnd"], ifaces := true, apart := false, laid := [("loop.example/g01368/impl.errNoPoint", laid_loop_example_g01368_impl_errNoPoint), ("loop.example/g01368/impl.errBehindEnd", laid_loop_example_g01368_impl_errBehindEnd)] }
def FnExactFirstSolutionSaid : Prop := fnExactFirstSolutionRow.holds Tryd.pinned (OpenSpec.ofChange fnExactFirstSolutionSpec)

/-- ITS FALSE NEIGHBOUR: 'it returns false'. Refute it at one input. -/
def fnExactFirstSolutionWrong : ChangeSpec := { name := "fnExactFirstSolution", vars := ["loop.example/g01368/impl.errNoPoint", "loop.example/g01368/impl.errBehindEnd"], fn := fun _ => fun
  | [d, g1, g2] => { results := [.lit (.bool false)], args := [d], vars := [g1, g2] }
  | _ => none }
def FnExactFirstSolutionWrongFalsely : Prop := fnExactFirstSolutionRow.holds Tryd.pinned (OpenSpec.ofChange fnExactFirstSolutionWrong)

/-- 'laws.FnExactSurePoints': WHATEVER THE INPUT: true; the input reads as it did. -/
def fnExactSurePointsSpec : ChangeSpec := { name := "fnExactSurePoints", vars := ["loop.example/g01368/impl.errNoPoint", "loop.example/g01368/impl.errBehindEnd"], fn := fun _ => fun
  | [d, g1, g2] => { results := [.lit (.bool true)], args := [d], vars := [g1, g2] }
  | _ => none }
def fnExactSurePointsRow : OpenClaim := { program := "ytcigighklghjkaadoor", sum := "93b00eb7b44fec151a161533575c86ce43ee77d73d65bb6ae8973b819ecbd71b", func := "loop.example/g01368/laws.FnExactSurePoints", spec := "fnExactSurePoints", inPlace := ["internal/bytealg.CountString", "internal/bytealg.IndexByteString", "internal/bytealg.IndexString"], unfollowed := true, recurses := true, named := ["internal/bytealg.MaxLen", "loop.example/g01368/impl.errNoPoint", "loop.example/g01368/impl.errBehindEnd"], ifaces := true, apart := false, laid := [("loop.example/g01368/impl.errNoPoint", laid_loop_example_g01368_impl_errNoPoint), ("loop.example/g01368/impl.errBehindEnd", laid_loop_example_g01368_impl_errBehindEnd)] }
def FnExactSurePointsSaid : Prop := fnExactSurePointsRow.holds Tryd.pinned (OpenSpec.ofChange fnExactSurePointsSpec)

/-- ITS FALSE NEIGHBOUR: 'it returns false'. Refute it at one input. -/
def fnExactSurePointsWrong : ChangeSpec := { name := "fnExactSurePoints", vars := ["loop.example/g01368/impl.errNoPoint", "loop.example/g01368/impl.errBehindEnd"], fn := fun _ => fun
  | [d, g1, g2] => { results := [.lit (.bool false)], args := [d], vars := [g1, g2] }
  | _ => none }
def FnExactSurePointsWrongFalsely : Prop := fnExactSurePointsRow.holds Tryd.pinned (OpenSpec.ofChange fnExactSurePointsWrong)

/-- 'laws.FnExactIsSolved': WHATEVER THE INPUT: true; the input reads as it did. -/
def fnExactIsSolvedSpec : ChangeSpec := { name := "fnExactIsSolved", vars := ["loop.example/g01368/impl.errNoPoint", "loop.example/g01368/impl.errBehindEnd"], fn := fun _ => fun
  | [d, g1, g2] => { results := [.lit (.bool true)], args := [d], vars := [g1, g2] }
  | _ => none }
def fnExactIsSolvedRow : OpenClaim := { program := "ytcigighklghjkaadoor", sum := "93b00eb7b44fec151a161533575c86ce43ee77d73d65bb6ae8973b819ecbd71b", func := "loop.example/g01368/laws.FnExactIsSolved", spec := "fnExactIsSolved", inPlace := ["internal/bytealg.CountString", "internal/bytealg.IndexByteString", "internal/bytealg.IndexString"], unfollowed := true, recurses := true, named := ["internal/bytealg.MaxLen", "loop.example/g01368/impl.errNoPoint", "loop.example/g01368/impl.errBehindEnd"], ifaces := true, apart := false, laid := [("loop.example/g01368/impl.errNoPoint", laid_loop_example_g01368_impl_errNoPoint), ("loop.example/g01368/impl.errBehindEnd", laid_loop_example_g01368_impl_errBehindEnd)] }
def FnExactIsSolvedSaid : Prop := fnExactIsSolvedRow.holds Tryd.pinned (OpenSpec.ofChange fnExactIsSolvedSpec)

/-- ITS FALSE NEIGHBOUR: 'it returns false'. Refute it at one input. -/
def fnExactIsSolvedWrong : ChangeSpec := { name := "fnExactIsSolved", vars := ["loop.example/g01368/impl.errNoPoint", "loop.example/g01368/impl.errBehindEnd"], fn := fun _ => fun
  | [d, g1, g2] => { results := [.lit (.bool false)], args := [d], vars := [g1, g2] }
  | _ => none }
def FnExactIsSolvedWrongFalsely : Prop := fnExactIsSolvedRow.holds Tryd.pinned (OpenSpec.ofChange fnExactIsSolvedWrong)

/-- 'laws.FnExactNeedlessClues': WHATEVER THE INPUT: true; the input reads as it did. -/
def fnExactNeedlessCluesSpec : ChangeSpec := { name := "fnExactNeedlessClues", vars := ["loop.example/g01368/impl.errNoPoint", "loop.example/g01368/impl.errBehindEnd"], fn := fun _ => fun
  | [d, g1, g2] => { results := [.lit (.bool true)], args := [d], vars := [g1, g2] }
  | _ => none }
def fnExactNeedlessCluesRow : OpenClaim := { program := "ytcigighklghjkaadoor", sum := "93b00eb7b44fec151a161533575c86ce43ee77d73d65bb6ae8973b819ecbd71b", func := "loop.example/g01368/laws.FnExactNeedlessClues", spec := "fnExactNeedlessClues", inPlace := ["internal/bytealg.CountString", "internal/bytealg.IndexByteString", "internal/bytealg.IndexString"], unfollowed := true, recurses := true, named := ["internal/bytealg.MaxLen", "loop.example/g01368/impl.errNoPoint", "loop.example/g01368/impl.errBehindEnd"], ifaces := true, apart := false, laid := [("loop.example/g01368/impl.errNoPoint", laid_loop_example_g01368_impl_errNoPoint), ("loop.example/g01368/impl.errBehindEnd", laid_loop_example_g01368_impl_errBehindEnd)] }
def FnExactNeedlessCluesSaid : Prop := fnExactNeedlessCluesRow.holds Tryd.pinned (OpenSpec.ofChange fnExactNeedlessCluesSpec)

/-- ITS FALSE NEIGHBOUR: 'it returns false'. Refute it at one input. -/
def fnExactNeedlessCluesWrong : ChangeSpec := { name := "fnExactNeedlessClues", vars := ["loop.example/g01368/impl.errNoPoint", "loop.example/g01368/impl.errBehindEnd"], fn := fun _ => fun
  | [d, g1, g2] => { results := [.lit (.bool false)], args := [d], vars := [g1, g2] }
  | _ => none }
def FnExactNeedlessCluesWrongFalsely : Prop := fnExactNeedlessCluesRow.holds Tryd.pinned (OpenSpec.ofChange fnExactNeedlessCluesWrong)

/-- 'laws.FnExactLeftByClues': WHATEVER THE INPUT: true; the input reads as it did. -/
def fnExactLeftByCluesSpec : ChangeSpec := { name := "fnExactLeftByClues", vars := ["loop.example/g01368/impl.errNoPoint", "loop.example/g01368/impl.errBehindEnd"], fn := fun _ => fun
  | [d, g1, g2] => { results := [.lit (.bool true)], args := [d], vars := [g1, g2] }
  | _ => none }
def fnExactLeftByCluesRow : OpenClaim := { program := "ytcigighklghjkaadoor", sum := "93b00eb7b44fec151a161533575c86ce43ee77d73d65bb6ae8973b819ecbd71b", func := "loop.example/g01368/laws.FnExactLeftByClues", spec := "fnExactLeftByClues", inPlace := ["internal/bytealg.CountString", "internal/bytealg.IndexByteString", "internal/bytealg.IndexString"], unfollowed := true, recurses := true, named := ["internal/bytealg.MaxLen", "loop.example/g01368/impl.errNoPoint", "loop.example/g01368/impl.errBehindEnd"], ifaces := true, apart := false, laid := [("loop.example/g01368/impl.errNoPoint", laid_loop_example_g01368_impl_errNoPoint), ("loop.example/g01368/impl.errBehindEnd", laid_loop_example_g01368_impl_errBehindEnd)] }
def FnExactLeftByCluesSaid : Prop := fnExactLeftByCluesRow.holds Tryd.pinned (OpenSpec.ofChange fnExactLeftByCluesSpec)

/-- ITS FALSE NEIGHBOUR: 'it returns false'. Refute it at one input. -/
def fnExactLeftByCluesWrong : ChangeSpec := { name := "fnExactLeftByClues", vars := ["loop.example/g01368/impl.errNoPoint", "loop.example/g01368/impl.errBehindEnd"], fn := fun _ => fun
  | [d, g1, g2] => { results := [.lit (.bool false)], args := [d], vars := [g1, g2] }
  | _ => none }
def FnExactLeftByCluesWrongFalsely : Prop := fnExactLeftByCluesRow.holds Tryd.pinned (OpenSpec.ofChange fnExactLeftByCluesWrong)

/-- 'laws.FnExactBestClue': WHATEVER THE INPUT: true; the input reads as it did. -/
def fnExactBestClueSpec : ChangeSpec := { name := "fnExactBestClue", vars := ["loop.example/g01368/impl.errNoPoint", "loop.example/g01368/impl.errBehindEnd"], fn := fun _ => fun
  | [d, g1, g2] => { results := [.lit (.bool true)], args := [d], vars := [g1, g2] }
  | _ => none }
def fnExactBestClueRow : OpenClaim := { program := "ytcigighklghjkaadoor", sum := "93b00eb7b44fec151a161533575c86ce43ee77d73d65bb6ae8973b819ecbd71b", func := "loop.example/g01368/laws.FnExactBestClue", spec := "fnExactBestClue", inPlace := ["internal/bytealg.CountString", "internal/bytealg.IndexByteString", "internal/bytealg.IndexString"], unfollowed := true, recurses := true, named := ["internal/bytealg.MaxLen", "loop.example/g01368/impl.errNoPoint", "loop.example/g01368/impl.errBehindEnd"], ifaces := true, apart := false, laid := [("loop.example/g01368/impl.errNoPoint", laid_loop_example_g01368_impl_errNoPoint), ("loop.example/g01368/impl.errBehindEnd", laid_loop_example_g01368_impl_errBehindEnd)] }
def FnExactBestClueSaid : Prop := fnExactBestClueRow.holds Tryd.pinned (OpenSpec.ofChange fnExactBestClueSpec)

/-- ITS FALSE NEIGHBOUR: 'it returns false'. Refute it at one input. -/
def fnExactBestClueWrong : ChangeSpec := { name := "fnExactBestClue", vars := ["loop.example/g01368/impl.errNoPoint", "loop.example/g01368/impl.errBehindEnd"], fn := fun _ => fun
  | [d, g1, g2] => { results := [.lit (.bool false)], args := [d], vars := [g1, g2] }
  | _ => none }
def FnExactBestClueWrongFalsely : Prop := fnExactBestClueRow.holds Tryd.pinned (OpenSpec.ofChange fnExactBestClueWrong)

/-- 'laws.FnExactHarderPuzzle': WHATEVER THE INPUT: true; the input reads as it did. -/
def fnExactHarderPuzzleSpec : ChangeSpec := { name := "fnExactHarderPuzzle", vars := ["loop.example/g01368/impl.errNoPoint", "loop.example/g01368/impl.errBehindEnd"], fn := fun _ => fun
  | [d, g1, g2] => { results := [.lit (.bool true)], args := [d], vars := [g1, g2] }
  | _ => none }
def fnExactHarderPuzzleRow : OpenClaim := { program := "ytcigighklghjkaadoor", sum := "93b00eb7b44fec151a161533575c86ce43ee77d73d65bb6ae8973b819ecbd71b", func := "loop.example/g01368/laws.FnExactHarderPuzzle", spec := "fnExactHarderPuzzle", inPlace := ["internal/bytealg.CountString", "internal/bytealg.IndexByteString", "internal/bytealg.IndexString"], unfollowed := true, recurses := true, named := ["internal/bytealg.MaxLen", "loop.example/g01368/impl.errNoPoint", "loop.example/g01368/impl.errBehindEnd"], ifaces := true, apart := false, laid := [("loop.example/g01368/impl.errNoPoint", laid_loop_example_g01368_impl_errNoPoint), ("loop.example/g01368/impl.errBehindEnd", laid_loop_example_g01368_impl_errBehindEnd)] }
def FnExactHarderPuzzleSaid : Prop := fnExactHarderPuzzleRow.holds Tryd.pinned (OpenSpec.ofChange fnExactHarderPuzzleSpec)

/-- ITS FALSE NEIGHBOUR: 'it returns false'. Refute it at one input. -/
def fnExactHarderPuzzleWrong : ChangeSpec := { name := "fnExactHarderPuzzle", vars := ["loop.example/g01368/impl.errNoPoint", "loop.example/g01368/impl.errBehindEnd"], fn := fun _ => fun
  | [d, g1, g2] => { results := [.lit (.bool false)], args := [d], vars := [g1, g2] }
  | _ => none }
def FnExactHarderPuzzleWrongFalsely : Prop := fnExactHarderPuzzleRow.holds Tryd.pinned (OpenSpec.ofChange fnExactHarderPuzzleWrong)

/-- 'laws.FnExactMakePuzzle': WHATEVER THE INPUT: true; the input reads as it did. -/
def fnExactMakePuzzleSpec : ChangeSpec := { name := "fnExactMakePuzzle", vars := ["loop.example/g01368/impl.errNoPoint", "loop.example/g01368/impl.errBehindEnd"], fn := fun _ => fun
  | [d1, d2, d3, g1, g2] => { results := [.lit (.bool true)], args := [d1, d2, d3], vars := [g1, g2] }
  | _ => none }
def fnExactMakePuzzleRow : OpenClaim := { program := "ytcigighklghjkaadoor", sum := "93b00eb7b44fec151a161533575c86ce43ee77d73d65bb6ae8973b819ecbd71b", func := "loop.example/g01368/laws.FnExactMakePuzzle", spec := "fnExactMakePuzzle", inPlace := ["internal/bytealg.CountString", "internal/bytealg.IndexByteString", "internal/bytealg.IndexString"], unfollowed := true, recurses := true, named := ["internal/bytealg.MaxLen", "loop.example/g01368/impl.errNoPoint", "loop.example/g01368/impl.errBehindEnd"], ifaces := true, apart := false, laid := [("loop.example/g01368/impl.errNoPoint", laid_loop_example_g01368_impl_errNoPoint), ("loop.example/g01368/impl.errBehindEnd", laid_loop_example_g01368_impl_errBehindEnd)] }
def FnExactMakePuzzleSaid : Prop := fnExactMakePuzzleRow.holds Tryd.pinned (OpenSpec.ofChange fnExactMakePuzzleSpec)

/-- ITS FALSE NEIGHBOUR: 'it returns false'. Refute it at one input. -/
def fnExactMakePuzzleWrong : ChangeSpec := { name := "fnExactMakePuzzle", vars := ["loop.example/g01368/impl.errNoPoint", "loop.example/g01368/impl.errBehindEnd"], fn := fun _ => fun
  | [d1, d2, d3, g1, g2] => { results := [.lit (.bool false)], args := [d1, d2, d3], vars := [g1, g2] }
  | _ => none }
def FnExactMakePuzzleWrongFalsely : Prop := fnExactMakePuzzleRow.holds Tryd.pinned (OpenSpec.ofChange fnExactMakePuzzleWrong)

/- THE SECOND FORM. 'bulk': how many values and letters a reading holds, each counted each time it is reached (what is shared counts as often as it is met; a slice's spare places count too). A statement '..UptoSaid' is the law's where the arguments, and the package variables that the reading takes, are together of bulk at most 1048576: NARROWER than '..Said'. Prove '..Said' where nothing that the law and all that it calls make is longer than what came in: it says more and counts as full. Else prove '..UptoSaid'. A law counts once. -/
mutual
def uptoBulk {H : Type} : DataW H → Nat
  | .lit (.string bytes) => bytes.length + 1
  | .lit _ => 1
  | .nil => 1
  | .ptr d => uptoBulk d + 1
  | .slice elems spare => uptoBulkAll elems + uptoBulkAll spare + 1
  | .agg parts => uptoBulkAll parts + 1
  | .iface _ d => uptoBulk d + 1
  | .map entries => uptoBulkEntries entries + 1
  | .held _ => 1
def uptoBulkAll {H : Type} : List (DataW H) → Nat
  | [] => 0
  | d :: r => uptoBulk d + uptoBulkAll r
def uptoBulkEntries {H : Type} : List (Lit × DataW H) → Nat
  | [] => 0
  | x :: r => uptoBulkEntry x + uptoBulkEntries r
def uptoBulkEntry {H : Type} : Lit × DataW H → Nat
  | (.string bytes, d) => bytes.length + uptoBulk d + 1
  | (_, d) => uptoBulk d + 1
 end
def uptoSmall : (H : Type) → List (DataW H) → Bool := fun _ ds => decide (uptoBulkAll ds ≤ 1048576)
def OpenSpec.upto (s : _root_.Go.ChangeSpec) : _root_.Go.OpenSpec := { _root_.Go.OpenSpec.ofChange s with cond := some uptoSmall }

/-- 'laws.FnExactDoesFit', WHERE WHAT IT READS IS OF BULK AT MOST 1048576: true; the input reads as it did. -/
def fnExactDoesFitUptoRow : OpenClaim := { program := "ytcigighklghjkaadoor", sum := "93b00eb7b44fec151a161533575c86ce43ee77d73d65bb6ae8973b819ecbd71b", func := "loop.example/g01368/laws.FnExactDoesFit", spec := "fnExactDoesFit", inPlace := ["internal/bytealg.CountString", "internal/bytealg.IndexByteString", "internal/bytealg.IndexString"], unfollowed := true, recurses := true, named := ["internal/bytealg.MaxLen", "loop.example/g01368/impl.errNoPoint", "loop.example/g01368/impl.errBehindEnd"], ifaces := true, apart := false, laid := [("loop.example/g01368/impl.errNoPoint", laid_loop_example_g01368_impl_errNoPoint), ("loop.example/g01368/impl.errBehindEnd", laid_loop_example_g01368_impl_errBehindEnd)], narrowed := true }
def FnExactDoesFitUptoSaid : Prop := fnExactDoesFitUptoRow.holds Tryd.pinned (OpenSpec.upto fnExactDoesFitSpec)

/-- 'laws.FnExactSolutions', WHERE WHAT IT READS IS OF BULK AT MOST 1048576: true; the input reads as it did. -/
def fnExactSolutionsUptoRow : OpenClaim := { program := "ytcigighklghjkaadoor", sum := "93b00eb7b44fec151a161533575c86ce43ee77d73d65bb6ae8973b819ecbd71b", func := "loop.example/g01368/laws.FnExactSolutions", spec := "fnExactSolutions", inPlace := ["internal/bytealg.CountString", "internal/bytealg.IndexByteString", "internal/bytealg.IndexString"], unfollowed := true, recurses := true, named := ["internal/bytealg.MaxLen", "loop.example/g01368/impl.errNoPoint", "loop.example/g01368/impl.errBehindEnd"], ifaces := true, apart := false, laid := [("loop.example/g01368/impl.errNoPoint", laid_loop_example_g01368_impl_errNoPoint), ("loop.example/g01368/impl.errBehindEnd", laid_loop_example_g01368_impl_errBehindEnd)], narrowed := true }
def FnExactSolutionsUptoSaid : Prop := fnExactSolutionsUptoRow.holds Tryd.pinned (OpenSpec.upto fnExactSolutionsSpec)

/-- 'laws.FnExactCountSolutions', WHERE WHAT IT READS IS OF BULK AT MOST 1048576: true; the input reads as it did. -/
def fnExactCountSolutionsUptoRow : OpenClaim := { program := "ytcigighklghjkaadoor", sum := "93b00eb7b44fec151a161533575c86ce43ee77d73d65bb6ae8973b819ecbd71b", func := "loop.example/g01368/laws.FnExactCountSolutions", spec := "fnExactCountSolutions", inPlace := ["internal/bytealg.CountString", "internal/bytealg.IndexByteString", "internal/bytealg.IndexString"], unfollowed := true, recurses := true, named := ["internal/bytealg.MaxLen", "loop.example/g01368/impl.errNoPoint", "loop.example/g01368/impl.errBehindEnd"], ifaces := true, apart := false, laid := [("loop.example/g01368/impl.errNoPoint", laid_loop_example_g01368_impl_errNoPoint), ("loop.example/g01368/impl.errBehindEnd", laid_loop_example_g01368_impl_errBehindEnd)], narrowed := true }
def FnExactCountSolutionsUptoSaid : Prop := fnExactCountSolutionsUptoRow.holds Tryd.pinned (OpenSpec.upto fnExactCountSolutionsSpec)

/-- 'laws.FnExactFirstSolution', WHERE WHAT IT READS IS OF BULK AT MOST 1048576: true; the input reads as it did. -/
def fnExactFirstSolutionUptoRow : OpenClaim := { program := "ytcigighklghjkaadoor", sum := "93b00eb7b44fec151a161533575c86ce43ee77d73d65bb6ae8973b819ecbd71b", func := "loop.example/g01368/laws.FnExactFirstSolution", spec := "fnExactFirstSolution", inPlace := ["internal/bytealg.CountString", "internal/bytealg.IndexByteString", "internal/bytealg.IndexString"], unfollowed := true, recurses := true, named := ["internal/bytealg.MaxLen", "loop.example/g01368/impl.errNoPoint", "loop.example/g01368/impl.errBehindEnd"], ifaces := true, apart := false, laid := [("loop.example/g01368/impl.errNoPoint", laid_loop_example_g01368_impl_errNoPoint), ("loop.example/g01368/impl.errBehindEnd", laid_loop_example_g01368_impl_errBehindEnd)], narrowed := true }
def FnExactFirstSolutionUptoSaid : Prop := fnExactFirstSolutionUptoRow.holds Tryd.pinned (OpenSpec.upto fnExactFirstSolutionSpec)

/-- 'laws.FnExactSurePoints', WHERE WHAT IT READS IS OF BULK AT MOST 1048576: true; the input reads as it did. -/
def fnExactSurePointsUptoRow : OpenClaim := { program := "ytcigighklghjkaadoor", sum := "93b00eb7b44fec151a161533575c86ce43ee77d73d65bb6ae8973b819ecbd71b", func := "loop.example/g01368/laws.FnExactSurePoints", spec := "fnExactSurePoints", inPlace := ["internal/bytealg.CountString", "internal/bytealg.IndexByteString", "internal/bytealg.IndexString"], unfollowed := true, recurses := true, named := ["internal/bytealg.MaxLen", "loop.example/g01368/impl.errNoPoint", "loop.example/g01368/impl.errBehindEnd"], ifaces := true, apart := false, laid := [("loop.example/g01368/impl.errNoPoint", laid_loop_example_g01368_impl_errNoPoint), ("loop.example/g01368/impl.errBehindEnd", laid_loop_example_g01368_impl_errBehindEnd)], narrowed := true }
def FnExactSurePointsUptoSaid : Prop := fnExactSurePointsUptoRow.holds Tryd.pinned (OpenSpec.upto fnExactSurePointsSpec)

/-- 'laws.FnExactIsSolved', WHERE WHAT IT READS IS OF BULK AT MOST 1048576: true; the input reads as it did. -/
def fnExactIsSolvedUptoRow : OpenClaim := { program := "ytcigighklghjkaadoor", sum := "93b00eb7b44fec151a161533575c86ce43ee77d73d65bb6ae8973b819ecbd71b", func := "loop.example/g01368/laws.FnExactIsSolved", spec := "fnExactIsSolved", inPlace := ["internal/bytealg.CountString", "internal/bytealg.IndexByteString", "internal/bytealg.IndexString"], unfollowed := true, recurses := true, named := ["internal/bytealg.MaxLen", "loop.example/g01368/impl.errNoPoint", "loop.example/g01368/impl.errBehindEnd"], ifaces := true, apart := false, laid := [("loop.example/g01368/impl.errNoPoint", laid_loop_example_g01368_impl_errNoPoint), ("loop.example/g01368/impl.errBehindEnd", laid_loop_example_g01368_impl_errBehindEnd)], narrowed := true }
def FnExactIsSolvedUptoSaid : Prop := fnExactIsSolvedUptoRow.holds Tryd.pinned (OpenSpec.upto fnExactIsSolvedSpec)

/-- 'laws.FnExactNeedlessClues', WHERE WHAT IT READS IS OF BULK AT MOST 1048576: true; the input reads as it did. -/
def fnExactNeedlessCluesUptoRow : OpenClaim := { program := "ytcigighklghjkaadoor", sum := "93b00eb7b44fec151a161533575c86ce43ee77d73d65bb6ae8973b819ecbd71b", func := "loop.example/g01368/laws.FnExactNeedlessClues", spec := "fnExactNeedlessClues", inPlace := ["internal/bytealg.CountString", "internal/bytealg.IndexByteString", "internal/bytealg.IndexString"], unfollowed := true, recurses := true, named := ["internal/bytealg.MaxLen", "loop.example/g01368/impl.errNoPoint", "loop.example/g01368/impl.errBehindEnd"], ifaces := true, apart := false, laid := [("loop.example/g01368/impl.errNoPoint", laid_loop_example_g01368_impl_errNoPoint), ("loop.example/g01368/impl.errBehindEnd", laid_loop_example_g01368_impl_errBehindEnd)], narrowed := true }
def FnExactNeedlessCluesUptoSaid : Prop := fnExactNeedlessCluesUptoRow.holds Tryd.pinned (OpenSpec.upto fnExactNeedlessCluesSpec)

/-- 'laws.FnExactLeftByClues', WHERE WHAT IT READS IS OF BULK AT MOST 1048576: true; the input reads as it did. -/
def fnExactLeftByCluesUptoRow : OpenClaim := { program := "ytcigighklghjkaadoor", sum := "93b00eb7b44fec151a161533575c86ce43ee77d73d65bb6ae8973b819ecbd71b", func := "loop.example/g01368/laws.FnExactLeftByClues", spec := "fnExactLeftByClues", inPlace := ["internal/bytealg.CountString", "internal/bytealg.IndexByteString", "internal/bytealg.IndexString"], unfollowed := true, recurses := true, named := ["internal/bytealg.MaxLen", "loop.example/g01368/impl.errNoPoint", "loop.example/g01368/impl.errBehindEnd"], ifaces := true, apart := false, laid := [("loop.example/g01368/impl.errNoPoint", laid_loop_example_g01368_impl_errNoPoint), ("loop.example/g01368/impl.errBehindEnd", laid_loop_example_g01368_impl_errBehindEnd)], narrowed := true }
def FnExactLeftByCluesUptoSaid : Prop := fnExactLeftByCluesUptoRow.holds Tryd.pinned (OpenSpec.upto fnExactLeftByCluesSpec)

/-- 'laws.FnExactBestClue', WHERE WHAT IT READS IS OF BULK AT MOST 1048576: true; the input reads as it did. -/
def fnExactBestClueUptoRow : OpenClaim := { program := "ytcigighklghjkaadoor", sum := "93b00eb7b44fec151a161533575c86ce43ee77d73d65bb6ae8973b819ecbd71b", func := "loop.example/g01368/laws.FnExactBestClue", spec := "fnExactBestClue", inPlace := ["internal/bytealg.CountString", "internal/bytealg.IndexByteString", "internal/bytealg.IndexString"], unfollowed := true, recurses := true, named := ["internal/bytealg.MaxLen", "loop.example/g01368/impl.errNoPoint", "loop.example/g01368/impl.errBehindEnd"], ifaces := true, apart := false, laid := [("loop.example/g01368/impl.errNoPoint", laid_loop_example_g01368_impl_errNoPoint), ("loop.example/g01368/impl.errBehindEnd", laid_loop_example_g01368_impl_errBehindEnd)], narrowed := true }
def FnExactBestClueUptoSaid : Prop := fnExactBestClueUptoRow.holds Tryd.pinned (OpenSpec.upto fnExactBestClueSpec)

/-- 'laws.FnExactHarderPuzzle', WHERE WHAT IT READS IS OF BULK AT MOST 1048576: true; the input reads as it did. -/
def fnExactHarderPuzzleUptoRow : OpenClaim := { program := "ytcigighklghjkaadoor", sum := "93b00eb7b44fec151a161533575c86ce43ee77d73d65bb6ae8973b819ecbd71b", func := "loop.example/g01368/laws.FnExactHarderPuzzle", spec := "fnExactHarderPuzzle", inPlace := ["internal/bytealg.CountString", "internal/bytealg.IndexByteString", "internal/bytealg.IndexString"], unfollowed := true, recurses := true, named := ["internal/bytealg.MaxLen", "loop.example/g01368/impl.errNoPoint", "loop.example/g01368/impl.errBehindEnd"], ifaces := true, apart := false, laid := [("loop.example/g01368/impl.errNoPoint", laid_loop_example_g01368_impl_errNoPoint), ("loop.example/g01368/impl.errBehindEnd", laid_loop_example_g01368_impl_errBehindEnd)], narrowed := true }
def FnExactHarderPuzzleUptoSaid : Prop := fnExactHarderPuzzleUptoRow.holds Tryd.pinned (OpenSpec.upto fnExactHarderPuzzleSpec)

/-- 'laws.FnExactMakePuzzle', WHERE WHAT IT READS IS OF BULK AT MOST 1048576: true; the input reads as it did. -/
def fnExactMakePuzzleUptoRow : OpenClaim := { program := "ytcigighklghjkaadoor", sum := "93b00eb7b44fec151a161533575c86ce43ee77d73d65bb6ae8973b819ecbd71b", func := "loop.example/g01368/laws.FnExactMakePuzzle", spec := "fnExactMakePuzzle", inPlace := ["internal/bytealg.CountString", "internal/bytealg.IndexByteString", "internal/bytealg.IndexString"], unfollowed := true, recurses := true, named := ["internal/bytealg.MaxLen", "loop.example/g01368/impl.errNoPoint", "loop.example/g01368/impl.errBehindEnd"], ifaces := true, apart := false, laid := [("loop.example/g01368/impl.errNoPoint", laid_loop_example_g01368_impl_errNoPoint), ("loop.example/g01368/impl.errBehindEnd", laid_loop_example_g01368_impl_errBehindEnd)], narrowed := true }
def FnExactMakePuzzleUptoSaid : Prop := fnExactMakePuzzleUptoRow.holds Tryd.pinned (OpenSpec.upto fnExactMakePuzzleSpec)

end Rows
end Go.Proofs.YtcigighklghjkaaDoor
