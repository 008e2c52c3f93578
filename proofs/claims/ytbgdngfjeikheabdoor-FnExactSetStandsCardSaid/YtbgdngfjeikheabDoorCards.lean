/-
  DERIVED. GIVEN WITH THE SEED: THE CARDS: each row of YtbgdngfjeikheabDoorRows.lean that lists a variable, with what it lists TIED to the program's text (the seventh form; the later family's looks); each row that meets fmt, with fmt's text TOLD by the authors' own Lean function (tested against real Go, not proved from fmt's source: count such statements apart). THE CARD IS WHAT COUNTS. Prove the row's statement (the work); the ties are given (YtbgdngfjeikheabDoorTie.lean); close each card by the builder's one call (the guide's Derived/Test/ToyasCard.lean, 'card_holds'). Laid BY PROGRAM, IN A SANDBOX (cutbox-door.mjs). By AI agents, Wed Nov 11 2026. No macro, syntax, notation, axiom, sorry.
-/
import Derived.Test.YtbgdngfjeikheabDoorRows
import GoSem.ClaimSeven
namespace Go.Proofs.YtbgdngfjeikheabDoor
namespace Rows

/-- THE TIED CARD OF 'laws.FnExactTieStands'. -/
def fnExactTieStandsCard : Claim7 := { stood := { row := fnExactTieStandsRow, standIns := [], harness := (true, "5ae0c007743b4a2244a5586e0a8a2422329cbd026aa24f05d07db1b5650c10cd"), looks := true }, kinds := [], alts := [], laidByText := true, laidKinds := [.data, .data, .data, .sentinel, .sentinel], laidTests := true, laidLooks := .later }
def FnExactTieStandsCardSaid : Prop := Claim7.holds Tryd.pinned (.plain (OpenSpec.ofChange fnExactTieStandsSpec)) fnExactTieStandsCard

/-- THE TIED CARD OF 'laws.FnExactIsSet'. -/
def fnExactIsSetCard : Claim7 := { stood := { row := fnExactIsSetRow, standIns := [], harness := (true, "5ae0c007743b4a2244a5586e0a8a2422329cbd026aa24f05d07db1b5650c10cd"), looks := true }, kinds := [], alts := [], laidByText := true, laidKinds := [.handle, .sentinel, .sentinel], laidTests := true, laidLooks := .later }
def FnExactIsSetCardSaid : Prop := Claim7.holds Tryd.pinned (.plain (OpenSpec.ofChange fnExactIsSetSpec)) fnExactIsSetCard

/-- THE TIED CARD OF 'laws.FnExactGamesOf'. -/
def fnExactGamesOfCard : Claim7 := { stood := { row := fnExactGamesOfRow, standIns := [], harness := (true, "5ae0c007743b4a2244a5586e0a8a2422329cbd026aa24f05d07db1b5650c10cd"), looks := true }, kinds := [], alts := [], laidByText := true, laidKinds := [.handle, .sentinel, .sentinel], laidTests := true, laidLooks := .later }
def FnExactGamesOfCardSaid : Prop := Claim7.holds Tryd.pinned (.plain (OpenSpec.ofChange fnExactGamesOfSpec)) fnExactGamesOfCard

/-- THE TIED CARD OF 'laws.FnExactSetStands'. -/
def fnExactSetStandsCard : Claim7 := { stood := { row := fnExactSetStandsRow, standIns := [], harness := (true, "5ae0c007743b4a2244a5586e0a8a2422329cbd026aa24f05d07db1b5650c10cd"), looks := true }, kinds := [], alts := [], laidByText := true, laidKinds := [.data, .data, .data, .handle, .sentinel, .sentinel], laidTests := true, laidLooks := .later }
def FnExactSetStandsCardSaid : Prop := Claim7.holds Tryd.pinned (.plain (OpenSpec.ofChange fnExactSetStandsSpec)) fnExactSetStandsCard

/-- THE TIED CARD OF 'laws.FnExactSetWinner'. -/
def fnExactSetWinnerCard : Claim7 := { stood := { row := fnExactSetWinnerRow, standIns := [], harness := (true, "5ae0c007743b4a2244a5586e0a8a2422329cbd026aa24f05d07db1b5650c10cd"), looks := true }, kinds := [], alts := [], laidByText := true, laidKinds := [.handle, .sentinel, .sentinel], laidTests := true, laidLooks := .later }
def FnExactSetWinnerCardSaid : Prop := Claim7.holds Tryd.pinned (.plain (OpenSpec.ofChange fnExactSetWinnerSpec)) fnExactSetWinnerCard

/-- THE TIED CARD OF 'laws.FnExactBreaksIn'. -/
def fnExactBreaksInCard : Claim7 := { stood := { row := fnExactBreaksInRow, standIns := [], harness := (true, "5ae0c007743b4a2244a5586e0a8a2422329cbd026aa24f05d07db1b5650c10cd"), looks := true }, kinds := [], alts := [], laidByText := true, laidKinds := [.handle, .sentinel, .sentinel], laidTests := true, laidLooks := .later }
def FnExactBreaksInCardSaid : Prop := Claim7.holds Tryd.pinned (.plain (OpenSpec.ofChange fnExactBreaksInSpec)) fnExactBreaksInCard

/-- THE TIED CARD OF 'laws.FnExactPointsOfSet'. -/
def fnExactPointsOfSetCard : Claim7 := { stood := { row := fnExactPointsOfSetRow, standIns := [], harness := (true, "5ae0c007743b4a2244a5586e0a8a2422329cbd026aa24f05d07db1b5650c10cd"), looks := true }, kinds := [], alts := [], laidByText := true, laidKinds := [.handle, .sentinel, .sentinel], laidTests := true, laidLooks := .later }
def FnExactPointsOfSetCardSaid : Prop := Claim7.holds Tryd.pinned (.plain (OpenSpec.ofChange fnExactPointsOfSetSpec)) fnExactPointsOfSetCard

/-- THE TIED CARD OF 'laws.FnExactFewestToSet'. -/
def fnExactFewestToSetCard : Claim7 := { stood := { row := fnExactFewestToSetRow, standIns := [], harness := (true, "5ae0c007743b4a2244a5586e0a8a2422329cbd026aa24f05d07db1b5650c10cd"), looks := true }, kinds := [], alts := [], laidByText := true, laidKinds := [.handle, .sentinel, .sentinel], laidTests := true, laidLooks := .later }
def FnExactFewestToSetCardSaid : Prop := Claim7.holds Tryd.pinned (.plain (OpenSpec.ofChange fnExactFewestToSetSpec)) fnExactFewestToSetCard

/-- THE TIED CARD OF 'laws.FnExactMatchSets'. -/
def fnExactMatchSetsCard : Claim7 := { stood := { row := fnExactMatchSetsRow, standIns := [], harness := (true, "5ae0c007743b4a2244a5586e0a8a2422329cbd026aa24f05d07db1b5650c10cd"), looks := true }, kinds := [], alts := [], laidByText := true, laidKinds := [.handle, .sentinel, .sentinel], laidTests := true, laidLooks := .later }
def FnExactMatchSetsCardSaid : Prop := Claim7.holds Tryd.pinned (.plain (OpenSpec.ofChange fnExactMatchSetsSpec)) fnExactMatchSetsCard

/-- THE TIED CARD OF 'laws.FnExactPlayFrame'. -/
def fnExactPlayFrameCard : Claim7 := { stood := { row := fnExactPlayFrameRow, standIns := [], harness := (true, "5ae0c007743b4a2244a5586e0a8a2422329cbd026aa24f05d07db1b5650c10cd"), looks := true }, kinds := [], alts := [], laidByText := true, laidKinds := [.data, .data, .data], laidTests := true, laidLooks := .later }
def FnExactPlayFrameCardSaid : Prop := Claim7.holds Tryd.pinned (.plain (OpenSpec.ofChange fnExactPlayFrameSpec)) fnExactPlayFrameCard

/-- THE TIED CARD OF 'laws.FnExactCountByPoints'. -/
def fnExactCountByPointsCard : Claim7 := { stood := { row := fnExactCountByPointsRow, standIns := [], harness := (true, "5ae0c007743b4a2244a5586e0a8a2422329cbd026aa24f05d07db1b5650c10cd"), looks := true }, kinds := [], alts := [], laidByText := true, laidKinds := [.data, .data, .data], laidTests := true, laidLooks := .later }
def FnExactCountByPointsCardSaid : Prop := Claim7.holds Tryd.pinned (.plain (OpenSpec.ofChange fnExactCountByPointsSpec)) fnExactCountByPointsCard

/-- THE TIED CARD OF 'laws.FnExactFirstWithPoints'. -/
def fnExactFirstWithPointsCard : Claim7 := { stood := { row := fnExactFirstWithPointsRow, standIns := [], harness := (true, "5ae0c007743b4a2244a5586e0a8a2422329cbd026aa24f05d07db1b5650c10cd"), looks := true }, kinds := [], alts := [], laidByText := true, laidKinds := [.data, .data, .data], laidTests := true, laidLooks := .later }
def FnExactFirstWithPointsCardSaid : Prop := Claim7.holds Tryd.pinned (.plain (OpenSpec.ofChange fnExactFirstWithPointsSpec)) fnExactFirstWithPointsCard

/-- THE SECOND FORM's CARD OF 'laws.FnExactTieStands'. -/
def fnExactTieStandsUptoCard : Claim7 := { stood := { row := fnExactTieStandsUptoRow, standIns := [], harness := (true, "5ae0c007743b4a2244a5586e0a8a2422329cbd026aa24f05d07db1b5650c10cd"), looks := true }, kinds := [], alts := [], laidByText := true, laidKinds := [.data, .data, .data, .sentinel, .sentinel], laidTests := true, laidLooks := .later }
def FnExactTieStandsUptoCardSaid : Prop := Claim7.holds Tryd.pinned (.plain (OpenSpec.upto fnExactTieStandsSpec)) fnExactTieStandsUptoCard

/-- THE SECOND FORM's CARD OF 'laws.FnExactIsSet'. -/
def fnExactIsSetUptoCard : Claim7 := { stood := { row := fnExactIsSetUptoRow, standIns := [], harness := (true, "5ae0c007743b4a2244a5586e0a8a2422329cbd026aa24f05d07db1b5650c10cd"), looks := true }, kinds := [], alts := [], laidByText := true, laidKinds := [.handle, .sentinel, .sentinel], laidTests := true, laidLooks := .later }
def FnExactIsSetUptoCardSaid : Prop := Claim7.holds Tryd.pinned (.plain (OpenSpec.upto fnExactIsSetSpec)) fnExactIsSetUptoCard

/-- THE SECOND FORM's CARD OF 'laws.FnExactGamesOf'. -/
def fnExactGamesOfUptoCard : Claim7 := { stood := { row := fnExactGamesOfUptoRow, standIns := [], harness := (true, "5ae0c007743b4a2244a5586e0a8a2422329cbd026aa24f05d07db1b5650c10cd"), looks := true }, kinds := [], alts := [], laidByText := true, laidKinds := [.handle, .sentinel, .sentinel], laidTests := true, laidLooks := .later }
def FnExactGamesOfUptoCardSaid : Prop := Claim7.holds Tryd.pinned (.plain (OpenSpec.upto fnExactGamesOfSpec)) fnExactGamesOfUptoCard

/-- THE SECOND FORM's CARD OF 'laws.FnExactSetStands'. -/
def fnExactSetStandsUptoCard : Claim7 := { stood := { row := fnExactSetStandsUptoRow, standIns := [], harness := (true, "5ae0c007743b4a2244a5586e0a8a2422329cbd026aa24f05d07db1b5650c10cd"), looks := true }, kinds := [], alts := [], laidByText := true, laidKinds := [.data, .data, .data, .handle, .sentinel, .sentinel], laidTests := true, laidLooks := .later }
def FnExactSetStandsUptoCardSaid : Prop := Claim7.holds Tryd.pinned (.plain (OpenSpec.upto fnExactSetStandsSpec)) fnExactSetStandsUptoCard

/-- THE SECOND FORM's CARD OF 'laws.FnExactSetWinner'. -/
def fnExactSetWinnerUptoCard : Claim7 := { stood := { row := fnExactSetWinnerUptoRow, standIns := [], harness := (true, "5ae0c007743b4a2244a5586e0a8a2422329cbd026aa24f05d07db1b5650c10cd"), looks := true }, kinds := [], alts := [], laidByText := true, laidKinds := [.handle, .sentinel, .sentinel], laidTests := true, laidLooks := .later }
def FnExactSetWinnerUptoCardSaid : Prop := Claim7.holds Tryd.pinned (.plain (OpenSpec.upto fnExactSetWinnerSpec)) fnExactSetWinnerUptoCard

/-- THE SECOND FORM's CARD OF 'laws.FnExactBreaksIn'. -/
def fnExactBreaksInUptoCard : Claim7 := { stood := { row := fnExactBreaksInUptoRow, standIns := [], harness := (true, "5ae0c007743b4a2244a5586e0a8a2422329cbd026aa24f05d07db1b5650c10cd"), looks := true }, kinds := [], alts := [], laidByText := true, laidKinds := [.handle, .sentinel, .sentinel], laidTests := true, laidLooks := .later }
def FnExactBreaksInUptoCardSaid : Prop := Claim7.holds Tryd.pinned (.plain (OpenSpec.upto fnExactBreaksInSpec)) fnExactBreaksInUptoCard

/-- THE SECOND FORM's CARD OF 'laws.FnExactPointsOfSet'. -/
def fnExactPointsOfSetUptoCard : Claim7 := { stood := { row := fnExactPointsOfSetUptoRow, standIns := [], harness := (true, "5ae0c007743b4a2244a5586e0a8a2422329cbd026aa24f05d07db1b5650c10cd"), looks := true }, kinds := [], alts := [], laidByText := true, laidKinds := [.handle, .sentinel, .sentinel], laidTests := true, laidLooks := .later }
def FnExactPointsOfSetUptoCardSaid : Prop := Claim7.holds Tryd.pinned (.plain (OpenSpec.upto fnExactPointsOfSetSpec)) fnExactPointsOfSetUptoCard

/-- THE SECOND FORM's CARD OF 'laws.FnExactFewestToSet'. -/
def fnExactFewestToSetUptoCard : Claim7 := { stood := { row := fnExactFewestToSetUptoRow, standIns := [], harness := (true, "5ae0c007743b4a2244a5586e0a8a2422329cbd026aa24f05d07db1b5650c10cd"), looks := true }, kinds := [], alts := [], laidByText := true, laidKinds := [.handle, .sentinel, .sentinel], laidTests := true, laidLooks := .later }
def FnExactFewestToSetUptoCardSaid : Prop := Claim7.holds Tryd.pinned (.plain (OpenSpec.upto fnExactFewestToSetSpec)) fnExactFewestToSetUptoCard

/-- THE SECOND FORM's CARD OF 'laws.FnExactMatchSets'. -/
def fnExactMatchSetsUptoCard : Claim7 := { stood := { row := fnExactMatchSetsUptoRow, standIns := [], harness := (true, "5ae0c007743b4a2244a5586e0a8a2422329cbd026aa24f05d07db1b5650c10cd"), looks := true }, kinds := [], alts := [], laidByText := true, laidKinds := [.handle, .sentinel, .sentinel], laidTests := true, laidLooks := .later }
def FnExactMatchSetsUptoCardSaid : Prop := Claim7.holds Tryd.pinned (.plain (OpenSpec.upto fnExactMatchSetsSpec)) fnExactMatchSetsUptoCard

/-- THE SECOND FORM's CARD OF 'laws.FnExactPlayFrame'. -/
def fnExactPlayFrameUptoCard : Claim7 := { stood := { row := fnExactPlayFrameUptoRow, standIns := [], harness := (true, "5ae0c007743b4a2244a5586e0a8a2422329cbd026aa24f05d07db1b5650c10cd"), looks := true }, kinds := [], alts := [], laidByText := true, laidKinds := [.data, .data, .data], laidTests := true, laidLooks := .later }
def FnExactPlayFrameUptoCardSaid : Prop := Claim7.holds Tryd.pinned (.plain (OpenSpec.upto fnExactPlayFrameSpec)) fnExactPlayFrameUptoCard

/-- THE SECOND FORM's CARD OF 'laws.FnExactCountByPoints'. -/
def fnExactCountByPointsUptoCard : Claim7 := { stood := { row := fnExactCountByPointsUptoRow, standIns := [], harness := (true, "5ae0c007743b4a2244a5586e0a8a2422329cbd026aa24f05d07db1b5650c10cd"), looks := true }, kinds := [], alts := [], laidByText := true, laidKinds := [.data, .data, .data], laidTests := true, laidLooks := .later }
def FnExactCountByPointsUptoCardSaid : Prop := Claim7.holds Tryd.pinned (.plain (OpenSpec.upto fnExactCountByPointsSpec)) fnExactCountByPointsUptoCard

/-- THE SECOND FORM's CARD OF 'laws.FnExactFirstWithPoints'. -/
def fnExactFirstWithPointsUptoCard : Claim7 := { stood := { row := fnExactFirstWithPointsUptoRow, standIns := [], harness := (true, "5ae0c007743b4a2244a5586e0a8a2422329cbd026aa24f05d07db1b5650c10cd"), looks := true }, kinds := [], alts := [], laidByText := true, laidKinds := [.data, .data, .data], laidTests := true, laidLooks := .later }
def FnExactFirstWithPointsUptoCardSaid : Prop := Claim7.holds Tryd.pinned (.plain (OpenSpec.upto fnExactFirstWithPointsSpec)) fnExactFirstWithPointsUptoCard
end Rows
end Go.Proofs.YtbgdngfjeikheabDoor
