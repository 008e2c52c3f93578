/-
  DERIVED. GIVEN WITH THE SEED: THE CARDS: each row of YtjiigljoekhljaaDoorRows.lean that lists a variable, with what it lists TIED to the program's text (the seventh form; the later family's looks); each row that meets fmt, with fmt's text TOLD by the authors' own Lean function (tested against real Go, not proved from fmt's source: count such statements apart). THE CARD IS WHAT COUNTS. Prove the row's statement (the work); the ties are given (YtjiigljoekhljaaDoorTie.lean); close each card by the builder's one call (the guide's Derived/Test/ToyasCard.lean, 'card_holds'). Laid BY PROGRAM, IN A SANDBOX (cutbox-door.mjs). By AI agents, Wed Nov 11 2026. No macro, syntax, notation, axiom, sorry.
-/
import Derived.Test.YtjiigljoekhljaaDoorRows
import GoSem.ClaimSeven
namespace Go.Proofs.YtjiigljoekhljaaDoor
namespace Rows

/-- THE TIED CARD OF 'laws.FnExactTurnGame'. -/
def fnExactTurnGameCard : Claim7 := { stood := { row := fnExactTurnGameRow, standIns := [], harness := (true, "02ecb31a7386278d078a98136d6d512fa4628da3cbe2833b51ea19c511ed3d9c"), looks := true }, kinds := [], alts := [], laidByText := true, laidKinds := [.data, .pinned], laidTests := true, laidLooks := .later }
def FnExactTurnGameCardSaid : Prop := Claim7.holds Tryd.pinned (.plain (OpenSpec.ofChange fnExactTurnGameSpec)) fnExactTurnGameCard

/-- THE TIED CARD OF 'laws.FnExactParseKinds'. -/
def fnExactParseKindsCard : Claim7 := { stood := { row := fnExactParseKindsRow, standIns := [], harness := (true, "02ecb31a7386278d078a98136d6d512fa4628da3cbe2833b51ea19c511ed3d9c"), looks := true }, kinds := [], alts := [], laidByText := true, laidKinds := [.data, .data, .data, .data, .sentinel, .sentinel, .pinned], laidTests := true, laidLooks := .later }
def FnExactParseKindsCardSaid : Prop := Claim7.holds Tryd.pinned (.plain (OpenSpec.ofChange fnExactParseKindsSpec)) fnExactParseKindsCard

/-- THE TIED CARD OF 'laws.FnExactParseDarts'. -/
def fnExactParseDartsCard : Claim7 := { stood := { row := fnExactParseDartsRow, standIns := [], harness := (true, "02ecb31a7386278d078a98136d6d512fa4628da3cbe2833b51ea19c511ed3d9c"), looks := true }, kinds := [], alts := [], laidByText := true, laidKinds := [.data, .data, .data, .data, .pinned], laidTests := true, laidLooks := .later }
def FnExactParseDartsCardSaid : Prop := Claim7.holds Tryd.pinned (.plain (OpenSpec.ofChange fnExactParseDartsSpec)) fnExactParseDartsCard

/-- THE TIED CARD OF 'laws.FnExactParseRolls'. -/
def fnExactParseRollsCard : Claim7 := { stood := { row := fnExactParseRollsRow, standIns := [], harness := (true, "02ecb31a7386278d078a98136d6d512fa4628da3cbe2833b51ea19c511ed3d9c"), looks := true }, kinds := [], alts := [], laidByText := true, laidKinds := [.data, .data, .data], laidTests := true, laidLooks := .later }
def FnExactParseRollsCardSaid : Prop := Claim7.holds Tryd.pinned (.plain (OpenSpec.ofChange fnExactParseRollsSpec)) fnExactParseRollsCard

/-- THE TIED CARD OF 'laws.FnExactLeagueText'. -/
def fnExactLeagueTextCard : Claim7 := { stood := { row := fnExactLeagueTextRow, standIns := [], harness := (true, "02ecb31a7386278d078a98136d6d512fa4628da3cbe2833b51ea19c511ed3d9c"), looks := true }, kinds := [], alts := [], laidByText := true, laidKinds := [.data, .data, .data], laidTests := true, laidLooks := .later }
def FnExactLeagueTextCardSaid : Prop := Claim7.holds Tryd.pinned (.plain (OpenSpec.ofChange fnExactLeagueTextSpec)) fnExactLeagueTextCard

/-- THE TIED CARD OF 'laws.FnExactParseLeague'. -/
def fnExactParseLeagueCard : Claim7 := { stood := { row := fnExactParseLeagueRow, standIns := [], harness := (true, "02ecb31a7386278d078a98136d6d512fa4628da3cbe2833b51ea19c511ed3d9c"), looks := true }, kinds := [], alts := [], laidByText := true, laidKinds := [.data, .data, .data, .data, .sentinel, .sentinel, .pinned], laidTests := true, laidLooks := .later }
def FnExactParseLeagueCardSaid : Prop := Claim7.holds Tryd.pinned (.plain (OpenSpec.ofChange fnExactParseLeagueSpec)) fnExactParseLeagueCard

/-- THE SECOND FORM's CARD OF 'laws.FnExactTurnGame'. -/
def fnExactTurnGameUptoCard : Claim7 := { stood := { row := fnExactTurnGameUptoRow, standIns := [], harness := (true, "02ecb31a7386278d078a98136d6d512fa4628da3cbe2833b51ea19c511ed3d9c"), looks := true }, kinds := [], alts := [], laidByText := true, laidKinds := [.data, .pinned], laidTests := true, laidLooks := .later }
def FnExactTurnGameUptoCardSaid : Prop := Claim7.holds Tryd.pinned (.plain (OpenSpec.upto fnExactTurnGameSpec)) fnExactTurnGameUptoCard

/-- THE SECOND FORM's CARD OF 'laws.FnExactParseKinds'. -/
def fnExactParseKindsUptoCard : Claim7 := { stood := { row := fnExactParseKindsUptoRow, standIns := [], harness := (true, "02ecb31a7386278d078a98136d6d512fa4628da3cbe2833b51ea19c511ed3d9c"), looks := true }, kinds := [], alts := [], laidByText := true, laidKinds := [.data, .data, .data, .data, .sentinel, .sentinel, .pinned], laidTests := true, laidLooks := .later }
def FnExactParseKindsUptoCardSaid : Prop := Claim7.holds Tryd.pinned (.plain (OpenSpec.upto fnExactParseKindsSpec)) fnExactParseKindsUptoCard

/-- THE SECOND FORM's CARD OF 'laws.FnExactParseDarts'. -/
def fnExactParseDartsUptoCard : Claim7 := { stood := { row := fnExactParseDartsUptoRow, standIns := [], harness := (true, "02ecb31a7386278d078a98136d6d512fa4628da3cbe2833b51ea19c511ed3d9c"), looks := true }, kinds := [], alts := [], laidByText := true, laidKinds := [.data, .data, .data, .data, .pinned], laidTests := true, laidLooks := .later }
def FnExactParseDartsUptoCardSaid : Prop := Claim7.holds Tryd.pinned (.plain (OpenSpec.upto fnExactParseDartsSpec)) fnExactParseDartsUptoCard

/-- THE SECOND FORM's CARD OF 'laws.FnExactParseRolls'. -/
def fnExactParseRollsUptoCard : Claim7 := { stood := { row := fnExactParseRollsUptoRow, standIns := [], harness := (true, "02ecb31a7386278d078a98136d6d512fa4628da3cbe2833b51ea19c511ed3d9c"), looks := true }, kinds := [], alts := [], laidByText := true, laidKinds := [.data, .data, .data], laidTests := true, laidLooks := .later }
def FnExactParseRollsUptoCardSaid : Prop := Claim7.holds Tryd.pinned (.plain (OpenSpec.upto fnExactParseRollsSpec)) fnExactParseRollsUptoCard

/-- THE SECOND FORM's CARD OF 'laws.FnExactLeagueText'. -/
def fnExactLeagueTextUptoCard : Claim7 := { stood := { row := fnExactLeagueTextUptoRow, standIns := [], harness := (true, "02ecb31a7386278d078a98136d6d512fa4628da3cbe2833b51ea19c511ed3d9c"), looks := true }, kinds := [], alts := [], laidByText := true, laidKinds := [.data, .data, .data], laidTests := true, laidLooks := .later }
def FnExactLeagueTextUptoCardSaid : Prop := Claim7.holds Tryd.pinned (.plain (OpenSpec.upto fnExactLeagueTextSpec)) fnExactLeagueTextUptoCard

/-- THE SECOND FORM's CARD OF 'laws.FnExactParseLeague'. -/
def fnExactParseLeagueUptoCard : Claim7 := { stood := { row := fnExactParseLeagueUptoRow, standIns := [], harness := (true, "02ecb31a7386278d078a98136d6d512fa4628da3cbe2833b51ea19c511ed3d9c"), looks := true }, kinds := [], alts := [], laidByText := true, laidKinds := [.data, .data, .data, .data, .sentinel, .sentinel, .pinned], laidTests := true, laidLooks := .later }
def FnExactParseLeagueUptoCardSaid : Prop := Claim7.holds Tryd.pinned (.plain (OpenSpec.upto fnExactParseLeagueSpec)) fnExactParseLeagueUptoCard
end Rows
end Go.Proofs.YtjiigljoekhljaaDoor
