/-
  DERIVED. GIVEN WITH THE SEED: THE CARDS: each row of YthlkndloggmehaaDoorRows.lean that lists a variable, with what it lists TIED to the program's text (the seventh form; the later family's looks); each row that meets fmt, with fmt's text TOLD by the authors' own Lean function (tested against real Go, not proved from fmt's source: count such statements apart). THE CARD IS WHAT COUNTS. Prove the row's statement (the work); the ties are given (YthlkndloggmehaaDoorTie.lean); close each card by the builder's one call (the guide's Derived/Test/ToyasCard.lean, 'card_holds'). Laid BY PROGRAM, IN A SANDBOX (cutbox-door.mjs). By AI agents, Wed Nov 11 2026. No macro, syntax, notation, axiom, sorry.
-/
import Derived.Test.YthlkndloggmehaaDoorRows
import GoSem.ClaimSeven
namespace Go.Proofs.YthlkndloggmehaaDoor
namespace Rows

/-- THE TIED CARD OF 'laws.FnExactOddsText'. -/
def fnExactOddsTextCard : Claim7 := { stood := { row := fnExactOddsTextRow, standIns := [], harness := (true, "e033a610ab36551b13b298b61164bca49c7026dc2290d947119c2b291691ff90"), looks := true }, kinds := [], alts := [], laidByText := true, laidKinds := [.data, .data, .data], laidTests := true, laidLooks := .later }
def FnExactOddsTextCardSaid : Prop := Claim7.holds Tryd.pinned (.plain (OpenSpec.ofChange fnExactOddsTextSpec)) fnExactOddsTextCard

/-- THE TIED CARD OF 'laws.FnExactParseOdds'. -/
def fnExactParseOddsCard : Claim7 := { stood := { row := fnExactParseOddsRow, standIns := [], harness := (true, "e033a610ab36551b13b298b61164bca49c7026dc2290d947119c2b291691ff90"), looks := true }, kinds := [], alts := [], laidByText := true, laidKinds := [.data, .data, .data, .sentinel, .sentinel], laidTests := true, laidLooks := .later }
def FnExactParseOddsCardSaid : Prop := Claim7.holds Tryd.pinned (.plain (OpenSpec.ofChange fnExactParseOddsSpec)) fnExactParseOddsCard

/-- THE TIED CARD OF 'laws.FnExactRankOfPlay'. -/
def fnExactRankOfPlayCard : Claim7 := { stood := { row := fnExactRankOfPlayRow, standIns := [], harness := (true, "e033a610ab36551b13b298b61164bca49c7026dc2290d947119c2b291691ff90"), looks := true }, kinds := [], alts := [], laidByText := true, laidKinds := [.sentinel, .sentinel], laidTests := true, laidLooks := .later }
def FnExactRankOfPlayCardSaid : Prop := Claim7.holds Tryd.pinned (.plain (OpenSpec.ofChange fnExactRankOfPlaySpec)) fnExactRankOfPlayCard

/-- THE TIED CARD OF 'laws.FnExactMatchOf'. -/
def fnExactMatchOfCard : Claim7 := { stood := { row := fnExactMatchOfRow, standIns := [], harness := (true, "e033a610ab36551b13b298b61164bca49c7026dc2290d947119c2b291691ff90"), looks := true }, kinds := [], alts := [], laidByText := true, laidKinds := [.sentinel, .sentinel], laidTests := true, laidLooks := .later }
def FnExactMatchOfCardSaid : Prop := Claim7.holds Tryd.pinned (.plain (OpenSpec.ofChange fnExactMatchOfSpec)) fnExactMatchOfCard

/-- THE TIED CARD OF 'laws.FnExactRaceText'. -/
def fnExactRaceTextCard : Claim7 := { stood := { row := fnExactRaceTextRow, standIns := [], harness := (true, "e033a610ab36551b13b298b61164bca49c7026dc2290d947119c2b291691ff90"), looks := true }, kinds := [], alts := [], laidByText := true, laidKinds := [.data, .data, .data], laidTests := true, laidLooks := .later }
def FnExactRaceTextCardSaid : Prop := Claim7.holds Tryd.pinned (.plain (OpenSpec.ofChange fnExactRaceTextSpec)) fnExactRaceTextCard

/-- THE TIED CARD OF 'laws.FnExactParseRace'. -/
def fnExactParseRaceCard : Claim7 := { stood := { row := fnExactParseRaceRow, standIns := [], harness := (true, "e033a610ab36551b13b298b61164bca49c7026dc2290d947119c2b291691ff90"), looks := true }, kinds := [], alts := [], laidByText := true, laidKinds := [.data, .data, .data, .sentinel, .sentinel], laidTests := true, laidLooks := .later }
def FnExactParseRaceCardSaid : Prop := Claim7.holds Tryd.pinned (.plain (OpenSpec.ofChange fnExactParseRaceSpec)) fnExactParseRaceCard

/-- THE TIED CARD OF 'laws.FnExactTurnPlay'. -/
def fnExactTurnPlayCard : Claim7 := { stood := { row := fnExactTurnPlayRow, standIns := [], harness := (true, "e033a610ab36551b13b298b61164bca49c7026dc2290d947119c2b291691ff90"), looks := true }, kinds := [], alts := [], laidByText := true, laidKinds := [.data, .pinned], laidTests := true, laidLooks := .later }
def FnExactTurnPlayCardSaid : Prop := Claim7.holds Tryd.pinned (.plain (OpenSpec.ofChange fnExactTurnPlaySpec)) fnExactTurnPlayCard

/-- THE SECOND FORM's CARD OF 'laws.FnExactOddsText'. -/
def fnExactOddsTextUptoCard : Claim7 := { stood := { row := fnExactOddsTextUptoRow, standIns := [], harness := (true, "e033a610ab36551b13b298b61164bca49c7026dc2290d947119c2b291691ff90"), looks := true }, kinds := [], alts := [], laidByText := true, laidKinds := [.data, .data, .data], laidTests := true, laidLooks := .later }
def FnExactOddsTextUptoCardSaid : Prop := Claim7.holds Tryd.pinned (.plain (OpenSpec.upto fnExactOddsTextSpec)) fnExactOddsTextUptoCard

/-- THE SECOND FORM's CARD OF 'laws.FnExactParseOdds'. -/
def fnExactParseOddsUptoCard : Claim7 := { stood := { row := fnExactParseOddsUptoRow, standIns := [], harness := (true, "e033a610ab36551b13b298b61164bca49c7026dc2290d947119c2b291691ff90"), looks := true }, kinds := [], alts := [], laidByText := true, laidKinds := [.data, .data, .data, .sentinel, .sentinel], laidTests := true, laidLooks := .later }
def FnExactParseOddsUptoCardSaid : Prop := Claim7.holds Tryd.pinned (.plain (OpenSpec.upto fnExactParseOddsSpec)) fnExactParseOddsUptoCard

/-- THE SECOND FORM's CARD OF 'laws.FnExactRankOfPlay'. -/
def fnExactRankOfPlayUptoCard : Claim7 := { stood := { row := fnExactRankOfPlayUptoRow, standIns := [], harness := (true, "e033a610ab36551b13b298b61164bca49c7026dc2290d947119c2b291691ff90"), looks := true }, kinds := [], alts := [], laidByText := true, laidKinds := [.sentinel, .sentinel], laidTests := true, laidLooks := .later }
def FnExactRankOfPlayUptoCardSaid : Prop := Claim7.holds Tryd.pinned (.plain (OpenSpec.upto fnExactRankOfPlaySpec)) fnExactRankOfPlayUptoCard

/-- THE SECOND FORM's CARD OF 'laws.FnExactMatchOf'. -/
def fnExactMatchOfUptoCard : Claim7 := { stood := { row := fnExactMatchOfUptoRow, standIns := [], harness := (true, "e033a610ab36551b13b298b61164bca49c7026dc2290d947119c2b291691ff90"), looks := true }, kinds := [], alts := [], laidByText := true, laidKinds := [.sentinel, .sentinel], laidTests := true, laidLooks := .later }
def FnExactMatchOfUptoCardSaid : Prop := Claim7.holds Tryd.pinned (.plain (OpenSpec.upto fnExactMatchOfSpec)) fnExactMatchOfUptoCard

/-- THE SECOND FORM's CARD OF 'laws.FnExactRaceText'. -/
def fnExactRaceTextUptoCard : Claim7 := { stood := { row := fnExactRaceTextUptoRow, standIns := [], harness := (true, "e033a610ab36551b13b298b61164bca49c7026dc2290d947119c2b291691ff90"), looks := true }, kinds := [], alts := [], laidByText := true, laidKinds := [.data, .data, .data], laidTests := true, laidLooks := .later }
def FnExactRaceTextUptoCardSaid : Prop := Claim7.holds Tryd.pinned (.plain (OpenSpec.upto fnExactRaceTextSpec)) fnExactRaceTextUptoCard

/-- THE SECOND FORM's CARD OF 'laws.FnExactParseRace'. -/
def fnExactParseRaceUptoCard : Claim7 := { stood := { row := fnExactParseRaceUptoRow, standIns := [], harness := (true, "e033a610ab36551b13b298b61164bca49c7026dc2290d947119c2b291691ff90"), looks := true }, kinds := [], alts := [], laidByText := true, laidKinds := [.data, .data, .data, .sentinel, .sentinel], laidTests := true, laidLooks := .later }
def FnExactParseRaceUptoCardSaid : Prop := Claim7.holds Tryd.pinned (.plain (OpenSpec.upto fnExactParseRaceSpec)) fnExactParseRaceUptoCard

/-- THE SECOND FORM's CARD OF 'laws.FnExactTurnPlay'. -/
def fnExactTurnPlayUptoCard : Claim7 := { stood := { row := fnExactTurnPlayUptoRow, standIns := [], harness := (true, "e033a610ab36551b13b298b61164bca49c7026dc2290d947119c2b291691ff90"), looks := true }, kinds := [], alts := [], laidByText := true, laidKinds := [.data, .pinned], laidTests := true, laidLooks := .later }
def FnExactTurnPlayUptoCardSaid : Prop := Claim7.holds Tryd.pinned (.plain (OpenSpec.upto fnExactTurnPlaySpec)) fnExactTurnPlayUptoCard
end Rows
end Go.Proofs.YthlkndloggmehaaDoor
