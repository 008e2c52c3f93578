/-
  No cell of these rows narrows 'for every input' (looked for: loops, veiled, ifaces, maps, wideKeys, modest, calm, conditions, laid).
  DERIVED. THE GIVEN ROWS OF THIS SEAT. 7 by the template 'for every input the law returns true; each argument reads behind the call as it read before'; 0 by the template 'total and deterministic' (their statements: YtooaeafnneikkabTotals.lean).
  GIVEN WITH THE SEED: the statements are not yours to turn. If you find one false, say at which input.
  Laid BY PROGRAM, IN A SANDBOX (cutbox-rows.mjs): the forced cells as the released guide's own fill.sh prints them over the translation fd692cb306a7e2eb… (all of the seat's roots in one cut). By AI agents, Wed Nov 11 2026. No macro, syntax, notation, axiom, sorry.
-/
import Derived.Test.YtooaeafnneikkabChecked
import GoSem.Claim
import GoSem.ClaimJoined
import GoSem.ClaimMapViews
import Derived.JoinedTies
import Derived.KernelRfl
namespace Go.Proofs.Ytooaeafnneikkab
/- THE CELL 'sum', in the pinned program and in every row, IS THE sha256 OF THE DUMP (.gsa) THAT YtooaeafnneikkabProg.lean LOADS. Nothing in Lean hashes anything: it is a label: what it is worth is what the hold of that sum in a sandbox is worth. -/
noncomputable def Try.pinned : Pinned := { name := "ytooaeafnneikkab", sum := "fd692cb306a7e2eb40080832d57475d7b050ee1e02fc00e7774531cc920012c4", checked := Try.checked }
namespace Rows
def none {H : Type} : Left H := { results := [], args := [] }

/-- 'laws.FnExactAddResult': WHATEVER THE INPUT: true; the input reads as it did. -/
def fnExactAddResultSpec : ChangeSpec := { name := "fnExactAddResult", fn := fun _ => fun
  | [d1, d2] => { results := [.lit (.bool true)], args := [d1, d2] }
  | _ => none }
def fnExactAddResultRow : OpenClaim := { program := "ytooaeafnneikkab", sum := "fd692cb306a7e2eb40080832d57475d7b050ee1e02fc00e7774531cc920012c4", func := "loop.example/g01368/laws.FnExactAddResult", spec := "fnExactAddResult", unfollowed := true, recurses := true, apart := false }
def FnExactAddResultSaid : Prop := fnExactAddResultRow.holds Try.pinned (OpenSpec.ofChange fnExactAddResultSpec)

/-- ITS FALSE NEIGHBOUR: 'it returns false'. Refute it at one input. -/
def fnExactAddResultWrong : ChangeSpec := { name := "fnExactAddResult", fn := fun _ => fun
  | [d1, d2] => { results := [.lit (.bool false)], args := [d1, d2] }
  | _ => none }
def FnExactAddResultWrongFalsely : Prop := fnExactAddResultRow.holds Try.pinned (OpenSpec.ofChange fnExactAddResultWrong)

/-- 'laws.FnExactRoundsFor': WHATEVER THE INPUT: true; the input reads as it did. -/
def fnExactRoundsForSpec : ChangeSpec := { name := "fnExactRoundsFor", fn := fun _ => fun
  | [d] => { results := [.lit (.bool true)], args := [d] }
  | _ => none }
def fnExactRoundsForRow : OpenClaim := { program := "ytooaeafnneikkab", sum := "fd692cb306a7e2eb40080832d57475d7b050ee1e02fc00e7774531cc920012c4", func := "loop.example/g01368/laws.FnExactRoundsFor", spec := "fnExactRoundsFor", apart := false }
def FnExactRoundsForSaid : Prop := fnExactRoundsForRow.holds Try.pinned (OpenSpec.ofChange fnExactRoundsForSpec)

/-- ITS FALSE NEIGHBOUR: 'it returns false'. Refute it at one input. -/
def fnExactRoundsForWrong : ChangeSpec := { name := "fnExactRoundsFor", fn := fun _ => fun
  | [d] => { results := [.lit (.bool false)], args := [d] }
  | _ => none }
def FnExactRoundsForWrongFalsely : Prop := fnExactRoundsForRow.holds Try.pinned (OpenSpec.ofChange fnExactRoundsForWrong)

/-- 'laws.FnExactLeagueTable': WHATEVER THE INPUT: true; the input reads as it did. -/
def fnExactLeagueTableSpec : ChangeSpec := { name := "fnExactLeagueTable", fn := fun _ => fun
  | [d] => { results := [.lit (.bool true)], args := [d] }
  | _ => none }
def fnExactLeagueTableRow : OpenClaim := { program := "ytooaeafnneikkab", sum := "fd692cb306a7e2eb40080832d57475d7b050ee1e02fc00e7774531cc920012c4", func := "loop.example/g01368/laws.FnExactLeagueTable", spec := "fnExactLeagueTable", unfollowed := true, recurses := true, apart := false }
def FnExactLeagueTableSaid : Prop := fnExactLeagueTableRow.holds Try.pinned (OpenSpec.ofChange fnExactLeagueTableSpec)

/-- ITS FALSE NEIGHBOUR: 'it returns false'. Refute it at one input. -/
def fnExactLeagueTableWrong : ChangeSpec := { name := "fnExactLeagueTable", fn := fun _ => fun
  | [d] => { results := [.lit (.bool false)], args := [d] }
  | _ => none }
def FnExactLeagueTableWrongFalsely : Prop := fnExactLeagueTableRow.holds Try.pinned (OpenSpec.ofChange fnExactLeagueTableWrong)

/-- 'laws.FnExactRankOfTeam': WHATEVER THE INPUT: true; the input reads as it did. -/
def fnExactRankOfTeamSpec : ChangeSpec := { name := "fnExactRankOfTeam", fn := fun _ => fun
  | [d1, d2] => { results := [.lit (.bool true)], args := [d1, d2] }
  | _ => none }
def fnExactRankOfTeamRow : OpenClaim := { program := "ytooaeafnneikkab", sum := "fd692cb306a7e2eb40080832d57475d7b050ee1e02fc00e7774531cc920012c4", func := "loop.example/g01368/laws.FnExactRankOfTeam", spec := "fnExactRankOfTeam", unfollowed := true, recurses := true, apart := false }
def FnExactRankOfTeamSaid : Prop := fnExactRankOfTeamRow.holds Try.pinned (OpenSpec.ofChange fnExactRankOfTeamSpec)

/-- ITS FALSE NEIGHBOUR: 'it returns false'. Refute it at one input. -/
def fnExactRankOfTeamWrong : ChangeSpec := { name := "fnExactRankOfTeam", fn := fun _ => fun
  | [d1, d2] => { results := [.lit (.bool false)], args := [d1, d2] }
  | _ => none }
def FnExactRankOfTeamWrongFalsely : Prop := fnExactRankOfTeamRow.holds Try.pinned (OpenSpec.ofChange fnExactRankOfTeamWrong)

/-- 'laws.FnExactCountGoalOrders': WHATEVER THE INPUT: true; the input reads as it did. -/
def fnExactCountGoalOrdersSpec : ChangeSpec := { name := "fnExactCountGoalOrders", fn := fun _ => fun
  | [d1, d2] => { results := [.lit (.bool true)], args := [d1, d2] }
  | _ => none }
def fnExactCountGoalOrdersRow : OpenClaim := { program := "ytooaeafnneikkab", sum := "fd692cb306a7e2eb40080832d57475d7b050ee1e02fc00e7774531cc920012c4", func := "loop.example/g01368/laws.FnExactCountGoalOrders", spec := "fnExactCountGoalOrders", unfollowed := true, recurses := true, apart := false }
def FnExactCountGoalOrdersSaid : Prop := fnExactCountGoalOrdersRow.holds Try.pinned (OpenSpec.ofChange fnExactCountGoalOrdersSpec)

/-- ITS FALSE NEIGHBOUR: 'it returns false'. Refute it at one input. -/
def fnExactCountGoalOrdersWrong : ChangeSpec := { name := "fnExactCountGoalOrders", fn := fun _ => fun
  | [d1, d2] => { results := [.lit (.bool false)], args := [d1, d2] }
  | _ => none }
def FnExactCountGoalOrdersWrongFalsely : Prop := fnExactCountGoalOrdersRow.holds Try.pinned (OpenSpec.ofChange fnExactCountGoalOrdersWrong)

/-- 'laws.FnExactCountGames': WHATEVER THE INPUT: true; the input reads as it did. -/
def fnExactCountGamesSpec : ChangeSpec := { name := "fnExactCountGames", fn := fun _ => fun
  | [d1, d2, d3] => { results := [.lit (.bool true)], args := [d1, d2, d3] }
  | _ => none }
def fnExactCountGamesRow : OpenClaim := { program := "ytooaeafnneikkab", sum := "fd692cb306a7e2eb40080832d57475d7b050ee1e02fc00e7774531cc920012c4", func := "loop.example/g01368/laws.FnExactCountGames", spec := "fnExactCountGames", unfollowed := true, recurses := true, apart := false }
def FnExactCountGamesSaid : Prop := fnExactCountGamesRow.holds Try.pinned (OpenSpec.ofChange fnExactCountGamesSpec)

/-- ITS FALSE NEIGHBOUR: 'it returns false'. Refute it at one input. -/
def fnExactCountGamesWrong : ChangeSpec := { name := "fnExactCountGames", fn := fun _ => fun
  | [d1, d2, d3] => { results := [.lit (.bool false)], args := [d1, d2, d3] }
  | _ => none }
def FnExactCountGamesWrongFalsely : Prop := fnExactCountGamesRow.holds Try.pinned (OpenSpec.ofChange fnExactCountGamesWrong)

/-- 'laws.FnExactCountNeverBehind': WHATEVER THE INPUT: true; the input reads as it did. -/
def fnExactCountNeverBehindSpec : ChangeSpec := { name := "fnExactCountNeverBehind", fn := fun _ => fun
  | [d1, d2, d3] => { results := [.lit (.bool true)], args := [d1, d2, d3] }
  | _ => none }
def fnExactCountNeverBehindRow : OpenClaim := { program := "ytooaeafnneikkab", sum := "fd692cb306a7e2eb40080832d57475d7b050ee1e02fc00e7774531cc920012c4", func := "loop.example/g01368/laws.FnExactCountNeverBehind", spec := "fnExactCountNeverBehind", unfollowed := true, recurses := true, apart := false }
def FnExactCountNeverBehindSaid : Prop := fnExactCountNeverBehindRow.holds Try.pinned (OpenSpec.ofChange fnExactCountNeverBehindSpec)

/-- ITS FALSE NEIGHBOUR: 'it returns false'. Refute it at one input. -/
def fnExactCountNeverBehindWrong : ChangeSpec := { name := "fnExactCountNeverBehind", fn := fun _ => fun
  | [d1, d2, d3] => { results := [.lit (.bool false)], args := [d1, d2, d3] }
  | _ => none }
def FnExactCountNeverBehindWrongFalsely : Prop := fnExactCountNeverBehindRow.holds Try.pinned (OpenSpec.ofChange fnExactCountNeverBehindWrong)

/- THE SECOND FORM. 'bulk': how many values and letters a reading holds, each counted each time it is reached (what is shared counts as often as it is met; a slice's spare places count too). A statement '..UptoSaid' is the law's where the arguments, and the package variables that the reading takes, are together of bulk at most 1048576: NARROWER than '..Said'. Prove '..Said' where nothing that the law and all that it calls make is longer than what came in: it says more and counts as full. Else prove '..UptoSaid'. A law counts once. -/
mutual
def uptoBulk {H : Type} : DataW H → Nat
  | .lit (.string bytes) => bytes.length + 1
  | .lit _ => 1
  | .nil => 1
  | .ptr d => uptoBulk d + 1
  | .slice elems spare => uptoBulkAll elems + uptoBulkAll spare + 1
  | .agg parts => uptoBulkAll parts + 1
  | .iface _ d => uptoBulk d + 1
  | .map entries => uptoBulkEntries entries + 1
  | .held _ => 1
def uptoBulkAll {H : Type} : List (DataW H) → Nat
  | [] => 0
  | d :: r => uptoBulk d + uptoBulkAll r
def uptoBulkEntries {H : Type} : List (Lit × DataW H) → Nat
  | [] => 0
  | x :: r => uptoBulkEntry x + uptoBulkEntries r
def uptoBulkEntry {H : Type} : Lit × DataW H → Nat
  | (.string bytes, d) => bytes.length + uptoBulk d + 1
  | (_, d) => uptoBulk d + 1
 end
def uptoSmall : (H : Type) → List (DataW H) → Bool := fun _ ds => decide (uptoBulkAll ds ≤ 1048576)
def OpenSpec.upto (s : _root_.Go.ChangeSpec) : _root_.Go.OpenSpec := { _root_.Go.OpenSpec.ofChange s with cond := some uptoSmall }

/-- 'laws.FnExactAddResult', WHERE WHAT IT READS IS OF BULK AT MOST 1048576: true; the input reads as it did. -/
def fnExactAddResultUptoRow : OpenClaim := { program := "ytooaeafnneikkab", sum := "fd692cb306a7e2eb40080832d57475d7b050ee1e02fc00e7774531cc920012c4", func := "loop.example/g01368/laws.FnExactAddResult", spec := "fnExactAddResult", unfollowed := true, recurses := true, apart := false, narrowed := true }
def FnExactAddResultUptoSaid : Prop := fnExactAddResultUptoRow.holds Try.pinned (OpenSpec.upto fnExactAddResultSpec)

/-- 'laws.FnExactRoundsFor', WHERE WHAT IT READS IS OF BULK AT MOST 1048576: true; the input reads as it did. -/
def fnExactRoundsForUptoRow : OpenClaim := { program := "ytooaeafnneikkab", sum := "fd692cb306a7e2eb40080832d57475d7b050ee1e02fc00e7774531cc920012c4", func := "loop.example/g01368/laws.FnExactRoundsFor", spec := "fnExactRoundsFor", apart := false, narrowed := true }
def FnExactRoundsForUptoSaid : Prop := fnExactRoundsForUptoRow.holds Try.pinned (OpenSpec.upto fnExactRoundsForSpec)

/-- 'laws.FnExactLeagueTable', WHERE WHAT IT READS IS OF BULK AT MOST 1048576: true; the input reads as it did. -/
def fnExactLeagueTableUptoRow : OpenClaim := { program := "ytooaeafnneikkab", sum := "fd692cb306a7e2eb40080832d57475d7b050ee1e02fc00e7774531cc920012c4", func := "loop.example/g01368/laws.FnExactLeagueTable", spec := "fnExactLeagueTable", unfollowed := true, recurses := true, apart := false, narrowed := true }
def FnExactLeagueTableUptoSaid : Prop := fnExactLeagueTableUptoRow.holds Try.pinned (OpenSpec.upto fnExactLeagueTableSpec)

/-- 'laws.FnExactRankOfTeam', WHERE WHAT IT READS IS OF BULK AT MOST 1048576: true; the input reads as it did. -/
def fnExactRankOfTeamUptoRow : OpenClaim := { program := "ytooaeafnneikkab", sum := "fd692cb306a7e2eb40080832d57475d7b050ee1e02fc00e7774531cc920012c4", func := "loop.example/g01368/laws.FnExactRankOfTeam", spec := "fnExactRankOfTeam", unfollowed := true, recurses := true, apart := false, narrowed := true }
def FnExactRankOfTeamUptoSaid : Prop := fnExactRankOfTeamUptoRow.holds Try.pinned (OpenSpec.upto fnExactRankOfTeamSpec)

/-- 'laws.FnExactCountGoalOrders', WHERE WHAT IT READS IS OF BULK AT MOST 1048576: true; the input reads as it did. -/
def fnExactCountGoalOrdersUptoRow : OpenClaim := { program := "ytooaeafnneikkab", sum := "fd692cb306a7e2eb40080832d57475d7b050ee1e02fc00e7774531cc920012c4", func := "loop.example/g01368/laws.FnExactCountGoalOrders", spec := "fnExactCountGoalOrders", unfollowed := true, recurses := true, apart := false, narrowed := true }
def FnExactCountGoalOrdersUptoSaid : Prop := fnExactCountGoalOrdersUptoRow.holds Try.pinned (OpenSpec.upto fnExactCountGoalOrdersSpec)

/-- 'laws.FnExactCountGames', WHERE WHAT IT READS IS OF BULK AT MOST 1048576: true; the input reads as it did. -/
def fnExactCountGamesUptoRow : OpenClaim := { program := "ytooaeafnneikkab", sum := "fd692cb306a7e2eb40080832d57475d7b050ee1e02fc00e7774531cc920012c4", func := "loop.example/g01368/laws.FnExactCountGames", spec := "fnExactCountGames", unfollowed := true, recurses := true, apart := false, narrowed := true }
def FnExactCountGamesUptoSaid : Prop := fnExactCountGamesUptoRow.holds Try.pinned (OpenSpec.upto fnExactCountGamesSpec)

/-- 'laws.FnExactCountNeverBehind', WHERE WHAT IT READS IS OF BULK AT MOST 1048576: true; the input reads as it did. -/
def fnExactCountNeverBehindUptoRow : OpenClaim := { program := "ytooaeafnneikkab", sum := "fd692cb306a7e2eb40080832d57475d7b050ee1e02fc00e7774531cc920012c4", func := "loop.example/g01368/laws.FnExactCountNeverBehind", spec := "fnExactCountNeverBehind", unfollowed := true, recurses := true, apart := false, narrowed := true }
def FnExactCountNeverBehindUptoSaid : Prop := fnExactCountNeverBehindUptoRow.holds Try.pinned (OpenSpec.upto fnExactCountNeverBehindSpec)

end Rows
end Go.Proofs.Ytooaeafnneikkab
