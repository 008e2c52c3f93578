/-
  DERIVED. GIVEN WITH THE SEED: THE CARDS: each row of YtooaeafnneikkaaDoorRows.lean that lists a variable, with what it lists TIED to the program's text (the seventh form; the later family's looks); each row that meets fmt, with fmt's text TOLD by the authors' own Lean function (tested against real Go, not proved from fmt's source: count such statements apart). THE CARD IS WHAT COUNTS. Prove the row's statement (the work); the ties are given (YtooaeafnneikkaaDoorTie.lean); close each card by the builder's one call (the guide's Derived/Test/ToyasCard.lean, 'card_holds'). Laid BY PROGRAM, IN A SANDBOX (cutbox-door.mjs). By AI agents, Wed Nov 11 2026. No macro, syntax, notation, axiom, sorry.
-/
import Derived.Test.YtooaeafnneikkaaDoorRows
import GoSem.ClaimSeven
namespace Go.Proofs.YtooaeafnneikkaaDoor
namespace Rows

/-- THE TIED CARD OF 'laws.FnExactIsPlay'. -/
def fnExactIsPlayCard : Claim7 := { stood := { row := fnExactIsPlayRow, standIns := [], harness := (true, "2ac0465570ee83869b6606149ed59f012b57da923e0d12f118675de2aa288d66"), looks := true }, kinds := [], alts := [], laidByText := true, laidKinds := [.sentinel, .sentinel], laidTests := true, laidLooks := .later }
def FnExactIsPlayCardSaid : Prop := Claim7.holds Tryd.pinned (.plain (OpenSpec.ofChange fnExactIsPlaySpec)) fnExactIsPlayCard

/-- THE TIED CARD OF 'laws.FnExactWinnerOf'. -/
def fnExactWinnerOfCard : Claim7 := { stood := { row := fnExactWinnerOfRow, standIns := [], harness := (true, "2ac0465570ee83869b6606149ed59f012b57da923e0d12f118675de2aa288d66"), looks := true }, kinds := [], alts := [], laidByText := true, laidKinds := [.sentinel, .sentinel], laidTests := true, laidLooks := .later }
def FnExactWinnerOfCardSaid : Prop := Claim7.holds Tryd.pinned (.plain (OpenSpec.ofChange fnExactWinnerOfSpec)) fnExactWinnerOfCard

/-- THE TIED CARD OF 'laws.FnExactPointsIn'. -/
def fnExactPointsInCard : Claim7 := { stood := { row := fnExactPointsInRow, standIns := [], harness := (true, "2ac0465570ee83869b6606149ed59f012b57da923e0d12f118675de2aa288d66"), looks := true }, kinds := [], alts := [], laidByText := true, laidKinds := [.sentinel, .sentinel], laidTests := true, laidLooks := .later }
def FnExactPointsInCardSaid : Prop := Claim7.holds Tryd.pinned (.plain (OpenSpec.ofChange fnExactPointsInSpec)) fnExactPointsInCard

/-- THE TIED CARD OF 'laws.FnExactNextWinners'. -/
def fnExactNextWinnersCard : Claim7 := { stood := { row := fnExactNextWinnersRow, standIns := [], harness := (true, "2ac0465570ee83869b6606149ed59f012b57da923e0d12f118675de2aa288d66"), looks := true }, kinds := [], alts := [], laidByText := true, laidKinds := [.sentinel, .sentinel], laidTests := true, laidLooks := .later }
def FnExactNextWinnersCardSaid : Prop := Claim7.holds Tryd.pinned (.plain (OpenSpec.ofChange fnExactNextWinnersSpec)) fnExactNextWinnersCard

/-- THE TIED CARD OF 'laws.FnExactFewestToWin'. -/
def fnExactFewestToWinCard : Claim7 := { stood := { row := fnExactFewestToWinRow, standIns := [], harness := (true, "2ac0465570ee83869b6606149ed59f012b57da923e0d12f118675de2aa288d66"), looks := true }, kinds := [], alts := [], laidByText := true, laidKinds := [.sentinel, .sentinel], laidTests := true, laidLooks := .later }
def FnExactFewestToWinCardSaid : Prop := Claim7.holds Tryd.pinned (.plain (OpenSpec.ofChange fnExactFewestToWinSpec)) fnExactFewestToWinCard

/-- THE TIED CARD OF 'laws.FnExactRankOfPlay'. -/
def fnExactRankOfPlayCard : Claim7 := { stood := { row := fnExactRankOfPlayRow, standIns := [], harness := (true, "2ac0465570ee83869b6606149ed59f012b57da923e0d12f118675de2aa288d66"), looks := true }, kinds := [], alts := [], laidByText := true, laidKinds := [.sentinel, .sentinel], laidTests := true, laidLooks := .later }
def FnExactRankOfPlayCardSaid : Prop := Claim7.holds Tryd.pinned (.plain (OpenSpec.ofChange fnExactRankOfPlaySpec)) fnExactRankOfPlayCard

/-- THE TIED CARD OF 'laws.FnExactGreatestComeback'. -/
def fnExactGreatestComebackCard : Claim7 := { stood := { row := fnExactGreatestComebackRow, standIns := [], harness := (true, "2ac0465570ee83869b6606149ed59f012b57da923e0d12f118675de2aa288d66"), looks := true }, kinds := [], alts := [], laidByText := true, laidKinds := [.sentinel, .sentinel], laidTests := true, laidLooks := .later }
def FnExactGreatestComebackCardSaid : Prop := Claim7.holds Tryd.pinned (.plain (OpenSpec.ofChange fnExactGreatestComebackSpec)) fnExactGreatestComebackCard

/-- THE TIED CARD OF 'laws.FnExactMatchOf'. -/
def fnExactMatchOfCard : Claim7 := { stood := { row := fnExactMatchOfRow, standIns := [], harness := (true, "2ac0465570ee83869b6606149ed59f012b57da923e0d12f118675de2aa288d66"), looks := true }, kinds := [], alts := [], laidByText := true, laidKinds := [.sentinel, .sentinel], laidTests := true, laidLooks := .later }
def FnExactMatchOfCardSaid : Prop := Claim7.holds Tryd.pinned (.plain (OpenSpec.ofChange fnExactMatchOfSpec)) fnExactMatchOfCard

/-- THE TIED CARD OF 'laws.FnExactTurnPlay'. -/
def fnExactTurnPlayCard : Claim7 := { stood := { row := fnExactTurnPlayRow, standIns := [], harness := (true, "2ac0465570ee83869b6606149ed59f012b57da923e0d12f118675de2aa288d66"), looks := true }, kinds := [], alts := [], laidByText := true, laidKinds := [.data, .pinned], laidTests := true, laidLooks := .later }
def FnExactTurnPlayCardSaid : Prop := Claim7.holds Tryd.pinned (.plain (OpenSpec.ofChange fnExactTurnPlaySpec)) fnExactTurnPlayCard

/-- THE TIED CARD OF 'laws.FnExactRaceText'. -/
def fnExactRaceTextCard : Claim7 := { stood := { row := fnExactRaceTextRow, standIns := [], harness := (true, "2ac0465570ee83869b6606149ed59f012b57da923e0d12f118675de2aa288d66"), looks := true }, kinds := [], alts := [], laidByText := true, laidKinds := [.data, .data, .data], laidTests := true, laidLooks := .later }
def FnExactRaceTextCardSaid : Prop := Claim7.holds Tryd.pinned (.plain (OpenSpec.ofChange fnExactRaceTextSpec)) fnExactRaceTextCard

/-- THE TIED CARD OF 'laws.FnExactParseRace'. -/
def fnExactParseRaceCard : Claim7 := { stood := { row := fnExactParseRaceRow, standIns := [], harness := (true, "2ac0465570ee83869b6606149ed59f012b57da923e0d12f118675de2aa288d66"), looks := true }, kinds := [], alts := [], laidByText := true, laidKinds := [.data, .data, .data, .sentinel, .sentinel], laidTests := true, laidLooks := .later }
def FnExactParseRaceCardSaid : Prop := Claim7.holds Tryd.pinned (.plain (OpenSpec.ofChange fnExactParseRaceSpec)) fnExactParseRaceCard

/-- THE SECOND FORM's CARD OF 'laws.FnExactIsPlay'. -/
def fnExactIsPlayUptoCard : Claim7 := { stood := { row := fnExactIsPlayUptoRow, standIns := [], harness := (true, "2ac0465570ee83869b6606149ed59f012b57da923e0d12f118675de2aa288d66"), looks := true }, kinds := [], alts := [], laidByText := true, laidKinds := [.sentinel, .sentinel], laidTests := true, laidLooks := .later }
def FnExactIsPlayUptoCardSaid : Prop := Claim7.holds Tryd.pinned (.plain (OpenSpec.upto fnExactIsPlaySpec)) fnExactIsPlayUptoCard

/-- THE SECOND FORM's CARD OF 'laws.FnExactWinnerOf'. -/
def fnExactWinnerOfUptoCard : Claim7 := { stood := { row := fnExactWinnerOfUptoRow, standIns := [], harness := (true, "2ac0465570ee83869b6606149ed59f012b57da923e0d12f118675de2aa288d66"), looks := true }, kinds := [], alts := [], laidByText := true, laidKinds := [.sentinel, .sentinel], laidTests := true, laidLooks := .later }
def FnExactWinnerOfUptoCardSaid : Prop := Claim7.holds Tryd.pinned (.plain (OpenSpec.upto fnExactWinnerOfSpec)) fnExactWinnerOfUptoCard

/-- THE SECOND FORM's CARD OF 'laws.FnExactPointsIn'. -/
def fnExactPointsInUptoCard : Claim7 := { stood := { row := fnExactPointsInUptoRow, standIns := [], harness := (true, "2ac0465570ee83869b6606149ed59f012b57da923e0d12f118675de2aa288d66"), looks := true }, kinds := [], alts := [], laidByText := true, laidKinds := [.sentinel, .sentinel], laidTests := true, laidLooks := .later }
def FnExactPointsInUptoCardSaid : Prop := Claim7.holds Tryd.pinned (.plain (OpenSpec.upto fnExactPointsInSpec)) fnExactPointsInUptoCard

/-- THE SECOND FORM's CARD OF 'laws.FnExactNextWinners'. -/
def fnExactNextWinnersUptoCard : Claim7 := { stood := { row := fnExactNextWinnersUptoRow, standIns := [], harness := (true, "2ac0465570ee83869b6606149ed59f012b57da923e0d12f118675de2aa288d66"), looks := true }, kinds := [], alts := [], laidByText := true, laidKinds := [.sentinel, .sentinel], laidTests := true, laidLooks := .later }
def FnExactNextWinnersUptoCardSaid : Prop := Claim7.holds Tryd.pinned (.plain (OpenSpec.upto fnExactNextWinnersSpec)) fnExactNextWinnersUptoCard

/-- THE SECOND FORM's CARD OF 'laws.FnExactFewestToWin'. -/
def fnExactFewestToWinUptoCard : Claim7 := { stood := { row := fnExactFewestToWinUptoRow, standIns := [], harness := (true, "2ac0465570ee83869b6606149ed59f012b57da923e0d12f118675de2aa288d66"), looks := true }, kinds := [], alts := [], laidByText := true, laidKinds := [.sentinel, .sentinel], laidTests := true, laidLooks := .later }
def FnExactFewestToWinUptoCardSaid : Prop := Claim7.holds Tryd.pinned (.plain (OpenSpec.upto fnExactFewestToWinSpec)) fnExactFewestToWinUptoCard

/-- THE SECOND FORM's CARD OF 'laws.FnExactRankOfPlay'. -/
def fnExactRankOfPlayUptoCard : Claim7 := { stood := { row := fnExactRankOfPlayUptoRow, standIns := [], harness := (true, "2ac0465570ee83869b6606149ed59f012b57da923e0d12f118675de2aa288d66"), looks := true }, kinds := [], alts := [], laidByText := true, laidKinds := [.sentinel, .sentinel], laidTests := true, laidLooks := .later }
def FnExactRankOfPlayUptoCardSaid : Prop := Claim7.holds Tryd.pinned (.plain (OpenSpec.upto fnExactRankOfPlaySpec)) fnExactRankOfPlayUptoCard

/-- THE SECOND FORM's CARD OF 'laws.FnExactGreatestComeback'. -/
def fnExactGreatestComebackUptoCard : Claim7 := { stood := { row := fnExactGreatestComebackUptoRow, standIns := [], harness := (true, "2ac0465570ee83869b6606149ed59f012b57da923e0d12f118675de2aa288d66"), looks := true }, kinds := [], alts := [], laidByText := true, laidKinds := [.sentinel, .sentinel], laidTests := true, laidLooks := .later }
def FnExactGreatestComebackUptoCardSaid : Prop := Claim7.holds Tryd.pinned (.plain (OpenSpec.upto fnExactGreatestComebackSpec)) fnExactGreatestComebackUptoCard

/-- THE SECOND FORM's CARD OF 'laws.FnExactMatchOf'. -/
def fnExactMatchOfUptoCard : Claim7 := { stood := { row := fnExactMatchOfUptoRow, standIns := [], harness := (true, "2ac0465570ee83869b6606149ed59f012b57da923e0d12f118675de2aa288d66"), looks := true }, kinds := [], alts := [], laidByText := true, laidKinds := [.sentinel, .sentinel], laidTests := true, laidLooks := .later }
def FnExactMatchOfUptoCardSaid : Prop := Claim7.holds Tryd.pinned (.plain (OpenSpec.upto fnExactMatchOfSpec)) fnExactMatchOfUptoCard

/-- THE SECOND FORM's CARD OF 'laws.FnExactTurnPlay'. -/
def fnExactTurnPlayUptoCard : Claim7 := { stood := { row := fnExactTurnPlayUptoRow, standIns := [], harness := (true, "2ac0465570ee83869b6606149ed59f012b57da923e0d12f118675de2aa288d66"), looks := true }, kinds := [], alts := [], laidByText := true, laidKinds := [.data, .pinned], laidTests := true, laidLooks := .later }
def FnExactTurnPlayUptoCardSaid : Prop := Claim7.holds Tryd.pinned (.plain (OpenSpec.upto fnExactTurnPlaySpec)) fnExactTurnPlayUptoCard

/-- THE SECOND FORM's CARD OF 'laws.FnExactRaceText'. -/
def fnExactRaceTextUptoCard : Claim7 := { stood := { row := fnExactRaceTextUptoRow, standIns := [], harness := (true, "2ac0465570ee83869b6606149ed59f012b57da923e0d12f118675de2aa288d66"), looks := true }, kinds := [], alts := [], laidByText := true, laidKinds := [.data, .data, .data], laidTests := true, laidLooks := .later }
def FnExactRaceTextUptoCardSaid : Prop := Claim7.holds Tryd.pinned (.plain (OpenSpec.upto fnExactRaceTextSpec)) fnExactRaceTextUptoCard

/-- THE SECOND FORM's CARD OF 'laws.FnExactParseRace'. -/
def fnExactParseRaceUptoCard : Claim7 := { stood := { row := fnExactParseRaceUptoRow, standIns := [], harness := (true, "2ac0465570ee83869b6606149ed59f012b57da923e0d12f118675de2aa288d66"), looks := true }, kinds := [], alts := [], laidByText := true, laidKinds := [.data, .data, .data, .sentinel, .sentinel], laidTests := true, laidLooks := .later }
def FnExactParseRaceUptoCardSaid : Prop := Claim7.holds Tryd.pinned (.plain (OpenSpec.upto fnExactParseRaceSpec)) fnExactParseRaceUptoCard
end Rows
end Go.Proofs.YtooaeafnneikkaaDoor
