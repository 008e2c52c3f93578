/-
  DERIVED. GIVEN WITH THE SEED: THE CARDS: each row of YtbgdngfjeikheaaDoorRows.lean that lists a variable, with what it lists TIED to the program's text (the seventh form; the later family's looks); each row that meets fmt, with fmt's text TOLD by the authors' own Lean function (tested against real Go, not proved from fmt's source: count such statements apart). THE CARD IS WHAT COUNTS. Prove the row's statement (the work); the ties are given (YtbgdngfjeikheaaDoorTie.lean); close each card by the builder's one call (the guide's Derived/Test/ToyasCard.lean, 'card_holds'). Laid BY PROGRAM, IN A SANDBOX (cutbox-door.mjs). By AI agents, Wed Nov 11 2026. No macro, syntax, notation, axiom, sorry.
-/
import Derived.Test.YtbgdngfjeikheaaDoorRows
import GoSem.ClaimSeven
namespace Go.Proofs.YtbgdngfjeikheaaDoor
namespace Rows

/-- THE TIED CARD OF 'laws.FnExactMakePuzzle'. -/
def fnExactMakePuzzleCard : Claim7 := { stood := { row := fnExactMakePuzzleRow, standIns := [], harness := (true, "94f8f11736465bb2808c62ee50f50d42adc3e3fc1f82ac046cd0c5f0bbc559d5"), looks := true }, kinds := [], alts := [], laidByText := true, laidKinds := [.sentinel, .sentinel], laidTests := true, laidLooks := .later }
def FnExactMakePuzzleCardSaid : Prop := Claim7.holds Tryd.pinned (.plain (OpenSpec.ofChange fnExactMakePuzzleSpec)) fnExactMakePuzzleCard

/-- THE TIED CARD OF 'laws.FnExactPuzzleText'. -/
def fnExactPuzzleTextCard : Claim7 := { stood := { row := fnExactPuzzleTextRow, standIns := [], harness := (true, "94f8f11736465bb2808c62ee50f50d42adc3e3fc1f82ac046cd0c5f0bbc559d5"), looks := true }, kinds := [], alts := [], laidByText := true, laidKinds := [.data, .data, .data], laidTests := true, laidLooks := .later }
def FnExactPuzzleTextCardSaid : Prop := Claim7.holds Tryd.pinned (.plain (OpenSpec.ofChange fnExactPuzzleTextSpec)) fnExactPuzzleTextCard

/-- THE TIED CARD OF 'laws.FnExactParsePuzzle'. -/
def fnExactParsePuzzleCard : Claim7 := { stood := { row := fnExactParsePuzzleRow, standIns := [], harness := (true, "94f8f11736465bb2808c62ee50f50d42adc3e3fc1f82ac046cd0c5f0bbc559d5"), looks := true }, kinds := [], alts := [], laidByText := true, laidKinds := [.data, .data, .data, .data, .sentinel, .sentinel, .pinned], laidTests := true, laidLooks := .later }
def FnExactParsePuzzleCardSaid : Prop := Claim7.holds Tryd.pinned (.plain (OpenSpec.ofChange fnExactParsePuzzleSpec)) fnExactParsePuzzleCard

/-- THE TIED CARD OF 'laws.FnExactParseLeague'. -/
def fnExactParseLeagueCard : Claim7 := { stood := { row := fnExactParseLeagueRow, standIns := [], harness := (true, "94f8f11736465bb2808c62ee50f50d42adc3e3fc1f82ac046cd0c5f0bbc559d5"), looks := true }, kinds := [], alts := [], laidByText := true, laidKinds := [.data, .data, .data, .data, .sentinel, .sentinel, .pinned], laidTests := true, laidLooks := .later }
def FnExactParseLeagueCardSaid : Prop := Claim7.holds Tryd.pinned (.plain (OpenSpec.ofChange fnExactParseLeagueSpec)) fnExactParseLeagueCard

/-- THE TIED CARD OF 'laws.FnExactLeagueText'. -/
def fnExactLeagueTextCard : Claim7 := { stood := { row := fnExactLeagueTextRow, standIns := [], harness := (true, "94f8f11736465bb2808c62ee50f50d42adc3e3fc1f82ac046cd0c5f0bbc559d5"), looks := true }, kinds := [], alts := [], laidByText := true, laidKinds := [.data, .data, .data], laidTests := true, laidLooks := .later }
def FnExactLeagueTextCardSaid : Prop := Claim7.holds Tryd.pinned (.plain (OpenSpec.ofChange fnExactLeagueTextSpec)) fnExactLeagueTextCard

/-- THE TIED CARD OF 'laws.FnExactParseKinds'. -/
def fnExactParseKindsCard : Claim7 := { stood := { row := fnExactParseKindsRow, standIns := [], harness := (true, "94f8f11736465bb2808c62ee50f50d42adc3e3fc1f82ac046cd0c5f0bbc559d5"), looks := true }, kinds := [], alts := [], laidByText := true, laidKinds := [.data, .data, .data, .data, .sentinel, .sentinel, .pinned], laidTests := true, laidLooks := .later }
def FnExactParseKindsCardSaid : Prop := Claim7.holds Tryd.pinned (.plain (OpenSpec.ofChange fnExactParseKindsSpec)) fnExactParseKindsCard

/-- THE TIED CARD OF 'laws.FnExactKindsText'. -/
def fnExactKindsTextCard : Claim7 := { stood := { row := fnExactKindsTextRow, standIns := [], harness := (true, "94f8f11736465bb2808c62ee50f50d42adc3e3fc1f82ac046cd0c5f0bbc559d5"), looks := true }, kinds := [], alts := [], laidByText := true, laidKinds := [.data, .data, .data], laidTests := true, laidLooks := .later }
def FnExactKindsTextCardSaid : Prop := Claim7.holds Tryd.pinned (.plain (OpenSpec.ofChange fnExactKindsTextSpec)) fnExactKindsTextCard

/-- THE TIED CARD OF 'laws.FnExactParseRolls'. -/
def fnExactParseRollsCard : Claim7 := { stood := { row := fnExactParseRollsRow, standIns := [], harness := (true, "94f8f11736465bb2808c62ee50f50d42adc3e3fc1f82ac046cd0c5f0bbc559d5"), looks := true }, kinds := [], alts := [], laidByText := true, laidKinds := [.data, .data, .data], laidTests := true, laidLooks := .later }
def FnExactParseRollsCardSaid : Prop := Claim7.holds Tryd.pinned (.plain (OpenSpec.ofChange fnExactParseRollsSpec)) fnExactParseRollsCard

/-- THE TIED CARD OF 'laws.FnExactTurnGame'. -/
def fnExactTurnGameCard : Claim7 := { stood := { row := fnExactTurnGameRow, standIns := [], harness := (true, "94f8f11736465bb2808c62ee50f50d42adc3e3fc1f82ac046cd0c5f0bbc559d5"), looks := true }, kinds := [], alts := [], laidByText := true, laidKinds := [.data, .pinned], laidTests := true, laidLooks := .later }
def FnExactTurnGameCardSaid : Prop := Claim7.holds Tryd.pinned (.plain (OpenSpec.ofChange fnExactTurnGameSpec)) fnExactTurnGameCard

/-- THE TIED CARD OF 'laws.FnExactFirstDesk'. -/
def fnExactFirstDeskCard : Claim7 := { stood := { row := fnExactFirstDeskRow, standIns := [], harness := (true, "94f8f11736465bb2808c62ee50f50d42adc3e3fc1f82ac046cd0c5f0bbc559d5"), looks := true }, kinds := [], alts := [], laidByText := true, laidKinds := [.data, .data, .data, .data, .sentinel, .sentinel, .pinned], laidTests := true, laidLooks := .later }
def FnExactFirstDeskCardSaid : Prop := Claim7.holds Tryd.pinned (.plain (OpenSpec.ofChange fnExactFirstDeskSpec)) fnExactFirstDeskCard

/-- THE SECOND FORM's CARD OF 'laws.FnExactMakePuzzle'. -/
def fnExactMakePuzzleUptoCard : Claim7 := { stood := { row := fnExactMakePuzzleUptoRow, standIns := [], harness := (true, "94f8f11736465bb2808c62ee50f50d42adc3e3fc1f82ac046cd0c5f0bbc559d5"), looks := true }, kinds := [], alts := [], laidByText := true, laidKinds := [.sentinel, .sentinel], laidTests := true, laidLooks := .later }
def FnExactMakePuzzleUptoCardSaid : Prop := Claim7.holds Tryd.pinned (.plain (OpenSpec.upto fnExactMakePuzzleSpec)) fnExactMakePuzzleUptoCard

/-- THE SECOND FORM's CARD OF 'laws.FnExactPuzzleText'. -/
def fnExactPuzzleTextUptoCard : Claim7 := { stood := { row := fnExactPuzzleTextUptoRow, standIns := [], harness := (true, "94f8f11736465bb2808c62ee50f50d42adc3e3fc1f82ac046cd0c5f0bbc559d5"), looks := true }, kinds := [], alts := [], laidByText := true, laidKinds := [.data, .data, .data], laidTests := true, laidLooks := .later }
def FnExactPuzzleTextUptoCardSaid : Prop := Claim7.holds Tryd.pinned (.plain (OpenSpec.upto fnExactPuzzleTextSpec)) fnExactPuzzleTextUptoCard

/-- THE SECOND FORM's CARD OF 'laws.FnExactParsePuzzle'. -/
def fnExactParsePuzzleUptoCard : Claim7 := { stood := { row := fnExactParsePuzzleUptoRow, standIns := [], harness := (true, "94f8f11736465bb2808c62ee50f50d42adc3e3fc1f82ac046cd0c5f0bbc559d5"), looks := true }, kinds := [], alts := [], laidByText := true, laidKinds := [.data, .data, .data, .data, .sentinel, .sentinel, .pinned], laidTests := true, laidLooks := .later }
def FnExactParsePuzzleUptoCardSaid : Prop := Claim7.holds Tryd.pinned (.plain (OpenSpec.upto fnExactParsePuzzleSpec)) fnExactParsePuzzleUptoCard

/-- THE SECOND FORM's CARD OF 'laws.FnExactParseLeague'. -/
def fnExactParseLeagueUptoCard : Claim7 := { stood := { row := fnExactParseLeagueUptoRow, standIns := [], harness := (true, "94f8f11736465bb2808c62ee50f50d42adc3e3fc1f82ac046cd0c5f0bbc559d5"), looks := true }, kinds := [], alts := [], laidByText := true, laidKinds := [.data, .data, .data, .data, .sentinel, .sentinel, .pinned], laidTests := true, laidLooks := .later }
def FnExactParseLeagueUptoCardSaid : Prop := Claim7.holds Tryd.pinned (.plain (OpenSpec.upto fnExactParseLeagueSpec)) fnExactParseLeagueUptoCard

/-- THE SECOND FORM's CARD OF 'laws.FnExactLeagueText'. -/
def fnExactLeagueTextUptoCard : Claim7 := { stood := { row := fnExactLeagueTextUptoRow, standIns := [], harness := (true, "94f8f11736465bb2808c62ee50f50d42adc3e3fc1f82ac046cd0c5f0bbc559d5"), looks := true }, kinds := [], alts := [], laidByText := true, laidKinds := [.data, .data, .data], laidTests := true, laidLooks := .later }
def FnExactLeagueTextUptoCardSaid : Prop := Claim7.holds Tryd.pinned (.plain (OpenSpec.upto fnExactLeagueTextSpec)) fnExactLeagueTextUptoCard

/-- THE SECOND FORM's CARD OF 'laws.FnExactParseKinds'. -/
def fnExactParseKindsUptoCard : Claim7 := { stood := { row := fnExactParseKindsUptoRow, standIns := [], harness := (true, "94f8f11736465bb2808c62ee50f50d42adc3e3fc1f82ac046cd0c5f0bbc559d5"), looks := true }, kinds := [], alts := [], laidByText := true, laidKinds := [.data, .data, .data, .data, .sentinel, .sentinel, .pinned], laidTests := true, laidLooks := .later }
def FnExactParseKindsUptoCardSaid : Prop := Claim7.holds Tryd.pinned (.plain (OpenSpec.upto fnExactParseKindsSpec)) fnExactParseKindsUptoCard

/-- THE SECOND FORM's CARD OF 'laws.FnExactKindsText'. -/
def fnExactKindsTextUptoCard : Claim7 := { stood := { row := fnExactKindsTextUptoRow, standIns := [], harness := (true, "94f8f11736465bb2808c62ee50f50d42adc3e3fc1f82ac046cd0c5f0bbc559d5"), looks := true }, kinds := [], alts := [], laidByText := true, laidKinds := [.data, .data, .data], laidTests := true, laidLooks := .later }
def FnExactKindsTextUptoCardSaid : Prop := Claim7.holds Tryd.pinned (.plain (OpenSpec.upto fnExactKindsTextSpec)) fnExactKindsTextUptoCard

/-- THE SECOND FORM's CARD OF 'laws.FnExactParseRolls'. -/
def fnExactParseRollsUptoCard : Claim7 := { stood := { row := fnExactParseRollsUptoRow, standIns := [], harness := (true, "94f8f11736465bb2808c62ee50f50d42adc3e3fc1f82ac046cd0c5f0bbc559d5"), looks := true }, kinds := [], alts := [], laidByText := true, laidKinds := [.data, .data, .data], laidTests := true, laidLooks := .later }
def FnExactParseRollsUptoCardSaid : Prop := Claim7.holds Tryd.pinned (.plain (OpenSpec.upto fnExactParseRollsSpec)) fnExactParseRollsUptoCard

/-- THE SECOND FORM's CARD OF 'laws.FnExactTurnGame'. -/
def fnExactTurnGameUptoCard : Claim7 := { stood := { row := fnExactTurnGameUptoRow, standIns := [], harness := (true, "94f8f11736465bb2808c62ee50f50d42adc3e3fc1f82ac046cd0c5f0bbc559d5"), looks := true }, kinds := [], alts := [], laidByText := true, laidKinds := [.data, .pinned], laidTests := true, laidLooks := .later }
def FnExactTurnGameUptoCardSaid : Prop := Claim7.holds Tryd.pinned (.plain (OpenSpec.upto fnExactTurnGameSpec)) fnExactTurnGameUptoCard

/-- THE SECOND FORM's CARD OF 'laws.FnExactFirstDesk'. -/
def fnExactFirstDeskUptoCard : Claim7 := { stood := { row := fnExactFirstDeskUptoRow, standIns := [], harness := (true, "94f8f11736465bb2808c62ee50f50d42adc3e3fc1f82ac046cd0c5f0bbc559d5"), looks := true }, kinds := [], alts := [], laidByText := true, laidKinds := [.data, .data, .data, .data, .sentinel, .sentinel, .pinned], laidTests := true, laidLooks := .later }
def FnExactFirstDeskUptoCardSaid : Prop := Claim7.holds Tryd.pinned (.plain (OpenSpec.upto fnExactFirstDeskSpec)) fnExactFirstDeskUptoCard
end Rows
end Go.Proofs.YtbgdngfjeikheaaDoor
