/-
  No cell of these rows narrows 'for every input' (looked for: loops, veiled, ifaces, maps, wideKeys, modest, calm, conditions, laid).
  DERIVED. THE GIVEN ROWS OF THIS SEAT. 6 by the template 'for every input the law returns true; each argument reads behind the call as it read before'; 0 by the template 'total and deterministic' (their statements: YthbkclgdoopbpaaTotals.lean).
  GIVEN WITH THE SEED: the statements are not yours to turn. If you find one false, say at which input.
  Laid BY PROGRAM, IN A SANDBOX (cutbox-rows.mjs): the forced cells as the released guide's own fill.sh prints them over the translation da450f506e3fdce0… (all of the seat's roots in one cut). By AI agents, Wed Nov 11 2026. No macro, syntax, notation, axiom, sorry.
-/
import Derived.Test.YthbkclgdoopbpaaChecked
import GoSem.Claim
import GoSem.ClaimJoined
import GoSem.ClaimMapViews
import Derived.JoinedTies
import Derived.KernelRfl
namespace Go.Proofs.Ythbkclgdoopbpaa
/- THE CELL 'sum', in the pinned program and in every row, IS THE sha256 OF THE DUMP (.gsa) THAT YthbkclgdoopbpaaProg.lean LOADS. Nothing in Lean hashes anything: it is a label: what it is worth is what the hold of that sum in a sandbox is worth. -/
noncomputable def Try.pinned : Pinned := { name := "ythbkclgdoopbpaa", sum := "da450f506e3fdce09e90624ea0fea433c7a00fd2314ab08aab85265926712221", checked := Try.checked }
namespace Rows
def none {H : Type} : Left H := { results := [], args := [] }

/-- 'laws.FnExactCountGamesOf': WHATEVER THE INPUT: true; the input reads as it did. -/
def fnExactCountGamesOfSpec : ChangeSpec := { name := "fnExactCountGamesOf", fn := fun _ => fun
  | [d1, d2] => { results := [.lit (.bool true)], args := [d1, d2] }
  | _ => none }
def fnExactCountGamesOfRow : OpenClaim := { program := "ythbkclgdoopbpaa", sum := "da450f506e3fdce09e90624ea0fea433c7a00fd2314ab08aab85265926712221", func := "loop.example/g01368/laws.FnExactCountGamesOf", spec := "fnExactCountGamesOf", recurses := true, plainKeys := false, apart := false }
def FnExactCountGamesOfSaid : Prop := fnExactCountGamesOfRow.holds Try.pinned (OpenSpec.ofChange fnExactCountGamesOfSpec)

/-- ITS FALSE NEIGHBOUR: 'it returns false'. Refute it at one input. -/
def fnExactCountGamesOfWrong : ChangeSpec := { name := "fnExactCountGamesOf", fn := fun _ => fun
  | [d1, d2] => { results := [.lit (.bool false)], args := [d1, d2] }
  | _ => none }
def FnExactCountGamesOfWrongFalsely : Prop := fnExactCountGamesOfRow.holds Try.pinned (OpenSpec.ofChange fnExactCountGamesOfWrong)

/-- 'laws.FnExactFirstGameOf': WHATEVER THE INPUT: true; the input reads as it did. -/
def fnExactFirstGameOfSpec : ChangeSpec := { name := "fnExactFirstGameOf", fn := fun _ => fun
  | [d1, d2] => { results := [.lit (.bool true)], args := [d1, d2] }
  | _ => none }
def fnExactFirstGameOfRow : OpenClaim := { program := "ythbkclgdoopbpaa", sum := "da450f506e3fdce09e90624ea0fea433c7a00fd2314ab08aab85265926712221", func := "loop.example/g01368/laws.FnExactFirstGameOf", spec := "fnExactFirstGameOf", recurses := true, plainKeys := false, apart := false }
def FnExactFirstGameOfSaid : Prop := fnExactFirstGameOfRow.holds Try.pinned (OpenSpec.ofChange fnExactFirstGameOfSpec)

/-- ITS FALSE NEIGHBOUR: 'it returns false'. Refute it at one input. -/
def fnExactFirstGameOfWrong : ChangeSpec := { name := "fnExactFirstGameOf", fn := fun _ => fun
  | [d1, d2] => { results := [.lit (.bool false)], args := [d1, d2] }
  | _ => none }
def FnExactFirstGameOfWrongFalsely : Prop := fnExactFirstGameOfRow.holds Try.pinned (OpenSpec.ofChange fnExactFirstGameOfWrong)

/-- 'laws.FnExactMostGames': WHATEVER THE INPUT: true; the input reads as it did. -/
def fnExactMostGamesSpec : ChangeSpec := { name := "fnExactMostGames", fn := fun _ => fun
  | [d] => { results := [.lit (.bool true)], args := [d] }
  | _ => none }
def fnExactMostGamesRow : OpenClaim := { program := "ythbkclgdoopbpaa", sum := "da450f506e3fdce09e90624ea0fea433c7a00fd2314ab08aab85265926712221", func := "loop.example/g01368/laws.FnExactMostGames", spec := "fnExactMostGames", recurses := true, plainKeys := false, apart := false }
def FnExactMostGamesSaid : Prop := fnExactMostGamesRow.holds Try.pinned (OpenSpec.ofChange fnExactMostGamesSpec)

/-- ITS FALSE NEIGHBOUR: 'it returns false'. Refute it at one input. -/
def fnExactMostGamesWrong : ChangeSpec := { name := "fnExactMostGames", fn := fun _ => fun
  | [d] => { results := [.lit (.bool false)], args := [d] }
  | _ => none }
def FnExactMostGamesWrongFalsely : Prop := fnExactMostGamesRow.holds Try.pinned (OpenSpec.ofChange fnExactMostGamesWrong)

/-- 'laws.FnExactLeagueTable': WHATEVER THE INPUT: true; the input reads as it did. -/
def fnExactLeagueTableSpec : ChangeSpec := { name := "fnExactLeagueTable", fn := fun _ => fun
  | [d] => { results := [.lit (.bool true)], args := [d] }
  | _ => none }
def fnExactLeagueTableRow : OpenClaim := { program := "ythbkclgdoopbpaa", sum := "da450f506e3fdce09e90624ea0fea433c7a00fd2314ab08aab85265926712221", func := "loop.example/g01368/laws.FnExactLeagueTable", spec := "fnExactLeagueTable", unfollowed := true, recurses := true, plainKeys := false, apart := false }
def FnExactLeagueTableSaid : Prop := fnExactLeagueTableRow.holds Try.pinned (OpenSpec.ofChange fnExactLeagueTableSpec)

/-- ITS FALSE NEIGHBOUR: 'it returns false'. Refute it at one input. -/
def fnExactLeagueTableWrong : ChangeSpec := { name := "fnExactLeagueTable", fn := fun _ => fun
  | [d] => { results := [.lit (.bool false)], args := [d] }
  | _ => none }
def FnExactLeagueTableWrongFalsely : Prop := fnExactLeagueTableRow.holds Try.pinned (OpenSpec.ofChange fnExactLeagueTableWrong)

/-- 'laws.FnExactRankOfTeam': WHATEVER THE INPUT: true; the input reads as it did. -/
def fnExactRankOfTeamSpec : ChangeSpec := { name := "fnExactRankOfTeam", fn := fun _ => fun
  | [d1, d2] => { results := [.lit (.bool true)], args := [d1, d2] }
  | _ => none }
def fnExactRankOfTeamRow : OpenClaim := { program := "ythbkclgdoopbpaa", sum := "da450f506e3fdce09e90624ea0fea433c7a00fd2314ab08aab85265926712221", func := "loop.example/g01368/laws.FnExactRankOfTeam", spec := "fnExactRankOfTeam", unfollowed := true, recurses := true, plainKeys := false, apart := false }
def FnExactRankOfTeamSaid : Prop := fnExactRankOfTeamRow.holds Try.pinned (OpenSpec.ofChange fnExactRankOfTeamSpec)

/-- ITS FALSE NEIGHBOUR: 'it returns false'. Refute it at one input. -/
def fnExactRankOfTeamWrong : ChangeSpec := { name := "fnExactRankOfTeam", fn := fun _ => fun
  | [d1, d2] => { results := [.lit (.bool false)], args := [d1, d2] }
  | _ => none }
def FnExactRankOfTeamWrongFalsely : Prop := fnExactRankOfTeamRow.holds Try.pinned (OpenSpec.ofChange fnExactRankOfTeamWrong)

/-- 'laws.FnExactRoundsFor': WHATEVER THE INPUT: true; the input reads as it did. -/
def fnExactRoundsForSpec : ChangeSpec := { name := "fnExactRoundsFor", fn := fun _ => fun
  | [d] => { results := [.lit (.bool true)], args := [d] }
  | _ => none }
def fnExactRoundsForRow : OpenClaim := { program := "ythbkclgdoopbpaa", sum := "da450f506e3fdce09e90624ea0fea433c7a00fd2314ab08aab85265926712221", func := "loop.example/g01368/laws.FnExactRoundsFor", spec := "fnExactRoundsFor", plainKeys := false, apart := false }
def FnExactRoundsForSaid : Prop := fnExactRoundsForRow.holds Try.pinned (OpenSpec.ofChange fnExactRoundsForSpec)

/-- ITS FALSE NEIGHBOUR: 'it returns false'. Refute it at one input. -/
def fnExactRoundsForWrong : ChangeSpec := { name := "fnExactRoundsFor", fn := fun _ => fun
  | [d] => { results := [.lit (.bool false)], args := [d] }
  | _ => none }
def FnExactRoundsForWrongFalsely : Prop := fnExactRoundsForRow.holds Try.pinned (OpenSpec.ofChange fnExactRoundsForWrong)

/- THE SECOND FORM. 'bulk': how many values and letters a reading holds, each counted each time it is reached (what is shared counts as often as it is met; a slice's spare places count too). A statement '..UptoSaid' is the law's where the arguments, and the package variables that the reading takes, are together of bulk at most 1048576: NARROWER than '..Said'. Prove '..Said' where nothing that the law and all that it calls make is longer than what came in: it says more and counts as full. Else prove '..UptoSaid'. A law counts once. -/
mutual
def uptoBulk {H : Type} : DataW H → Nat
  | .lit (.string bytes) => bytes.length + 1
  | .lit _ => 1
  | .nil => 1
  | .ptr d => uptoBulk d + 1
  | .slice elems spare => uptoBulkAll elems + uptoBulkAll spare + 1
  | .agg parts => uptoBulkAll parts + 1
  | .iface _ d => uptoBulk d + 1
  | .map entries => uptoBulkEntries entries + 1
  | .held _ => 1
def uptoBulkAll {H : Type} : List (DataW H) → Nat
  | [] => 0
  | d :: r => uptoBulk d + uptoBulkAll r
def uptoBulkEntries {H : Type} : List (Lit × DataW H) → Nat
  | [] => 0
  | x :: r => uptoBulkEntry x + uptoBulkEntries r
def uptoBulkEntry {H : Type} : Lit × DataW H → Nat
  | (.string bytes, d) => bytes.length + uptoBulk d + 1
  | (_, d) => uptoBulk d + 1
 end
def uptoSmall : (H : Type) → List (DataW H) → Bool := fun _ ds => decide (uptoBulkAll ds ≤ 1048576)
def OpenSpec.upto (s : _root_.Go.ChangeSpec) : _root_.Go.OpenSpec := { _root_.Go.OpenSpec.ofChange s with cond := some uptoSmall }

/-- 'laws.FnExactCountGamesOf', WHERE WHAT IT READS IS OF BULK AT MOST 1048576: true; the input reads as it did. -/
def fnExactCountGamesOfUptoRow : OpenClaim := { program := "ythbkclgdoopbpaa", sum := "da450f506e3fdce09e90624ea0fea433c7a00fd2314ab08aab85265926712221", func := "loop.example/g01368/laws.FnExactCountGamesOf", spec := "fnExactCountGamesOf", recurses := true, plainKeys := false, apart := false, narrowed := true }
def FnExactCountGamesOfUptoSaid : Prop := fnExactCountGamesOfUptoRow.holds Try.pinned (OpenSpec.upto fnExactCountGamesOfSpec)

/-- 'laws.FnExactFirstGameOf', WHERE WHAT IT READS IS OF BULK AT MOST 1048576: true; the input reads as it did. -/
def fnExactFirstGameOfUptoRow : OpenClaim := { program := "ythbkclgdoopbpaa", sum := "da450f506e3fdce09e90624ea0fea433c7a00fd2314ab08aab85265926712221", func := "loop.example/g01368/laws.FnExactFirstGameOf", spec := "fnExactFirstGameOf", recurses := true, plainKeys := false, apart := false, narrowed := true }
def FnExactFirstGameOfUptoSaid : Prop := fnExactFirstGameOfUptoRow.holds Try.pinned (OpenSpec.upto fnExactFirstGameOfSpec)

/-- 'laws.FnExactMostGames', WHERE WHAT IT READS IS OF BULK AT MOST 1048576: true; the input reads as it did. -/
def fnExactMostGamesUptoRow : OpenClaim := { program := "ythbkclgdoopbpaa", sum := "da450f506e3fdce09e90624ea0fea433c7a00fd2314ab08aab85265926712221", func := "loop.example/g01368/laws.FnExactMostGames", spec := "fnExactMostGames", recurses := true, plainKeys := false, apart := false, narrowed := true }
def FnExactMostGamesUptoSaid : Prop := fnExactMostGamesUptoRow.holds Try.pinned (OpenSpec.upto fnExactMostGamesSpec)

/-- 'laws.FnExactLeagueTable', WHERE WHAT IT READS IS OF BULK AT MOST 1048576: true; the input reads as it did. -/
def fnExactLeagueTableUptoRow : OpenClaim := { program := "ythbkclgdoopbpaa", sum := "da450f506e3fdce09e90624ea0fea433c7a00fd2314ab08aab85265926712221", func := "loop.example/g01368/laws.FnExactLeagueTable", spec := "fnExactLeagueTable", unfollowed := true, recurses := true, plainKeys := false, apart := false, narrowed := true }
def FnExactLeagueTableUptoSaid : Prop := fnExactLeagueTableUptoRow.holds Try.pinned (OpenSpec.upto fnExactLeagueTableSpec)

/-- 'laws.FnExactRankOfTeam', WHERE WHAT IT READS IS OF BULK AT MOST 1048576: true; the input reads as it did. -/
def fnExactRankOfTeamUptoRow : OpenClaim := { program := "ythbkclgdoopbpaa", sum := "da450f506e3fdce09e90624ea0fea433c7a00fd2314ab08aab85265926712221", func := "loop.example/g01368/laws.FnExactRankOfTeam", spec := "fnExactRankOfTeam", unfollowed := true, recurses := true, plainKeys := false, apart := false, narrowed := true }
def FnExactRankOfTeamUptoSaid : Prop := fnExactRankOfTeamUptoRow.holds Try.pinned (OpenSpec.upto fnExactRankOfTeamSpec)

/-- 'laws.FnExactRoundsFor', WHERE WHAT IT READS IS OF BULK AT MOST 1048576: true; the input reads as it did. -/
def fnExactRoundsForUptoRow : OpenClaim := { program := "ythbkclgdoopbpaa", sum := "da450f506e3fdce09e90624ea0fea433c7a00fd2314ab08aab85265926712221", func := "loop.example/g01368/laws.FnExactRoundsFor", spec := "fnExactRoundsFor", plainKeys := false, apart := false, narrowed := true }
def FnExactRoundsForUptoSaid : Prop := fnExactRoundsForUptoRow.holds Try.pinned (OpenSpec.upto fnExactRoundsForSpec)

end Rows
end Go.Proofs.Ythbkclgdoopbpaa
