/-
  DERIVED. GIVEN WITH THE SEED: THE CARDS: each row of YtgkkjlpfkoplhaaDoorRows.lean that lists a variable, with what it lists TIED to the program's text (the seventh form; the later family's looks); each row that meets fmt, with fmt's text TOLD by the authors' own Lean function (tested against real Go, not proved from fmt's source: count such statements apart). THE CARD IS WHAT COUNTS. Prove the row's statement (the work); the ties are given (YtgkkjlpfkoplhaaDoorTie.lean); close each card by the builder's one call (the guide's Derived/Test/ToyasCard.lean, 'card_holds'). Laid BY PROGRAM, IN A SANDBOX (cutbox-door.mjs). By AI agents, Wed Nov 11 2026. No macro, syntax, notation, axiom, sorry.
-/
import Derived.Test.YtgkkjlpfkoplhaaDoorRows
import GoSem.ClaimSeven
namespace Go.Proofs.YtgkkjlpfkoplhaaDoor
namespace Rows

/-- THE TIED CARD OF 'laws.FnExactParseRolls'. -/
def fnExactParseRollsCard : Claim7 := { stood := { row := fnExactParseRollsRow, standIns := [], harness := (true, "a96d60678dfa73ef6cf6dc180f4718fe8837ece8ea71640b4d73a54f0c6e1c65"), looks := true }, kinds := [], alts := [], laidByText := true, laidKinds := [.data, .data, .data], laidTests := true, laidLooks := .later }
def FnExactParseRollsCardSaid : Prop := Claim7.holds Tryd.pinned (.plain (OpenSpec.ofChange fnExactParseRollsSpec)) fnExactParseRollsCard

/-- THE TIED CARD OF 'laws.FnExactTurnGame'. -/
def fnExactTurnGameCard : Claim7 := { stood := { row := fnExactTurnGameRow, standIns := [], harness := (true, "a96d60678dfa73ef6cf6dc180f4718fe8837ece8ea71640b4d73a54f0c6e1c65"), looks := true }, kinds := [], alts := [], laidByText := true, laidKinds := [.data, .pinned], laidTests := true, laidLooks := .later }
def FnExactTurnGameCardSaid : Prop := Claim7.holds Tryd.pinned (.plain (OpenSpec.ofChange fnExactTurnGameSpec)) fnExactTurnGameCard

/-- THE TIED CARD OF 'laws.FnExactFirstDesk'. -/
def fnExactFirstDeskCard : Claim7 := { stood := { row := fnExactFirstDeskRow, standIns := [], harness := (true, "a96d60678dfa73ef6cf6dc180f4718fe8837ece8ea71640b4d73a54f0c6e1c65"), looks := true }, kinds := [], alts := [], laidByText := true, laidKinds := [.data, .data, .data, .data, .sentinel, .sentinel, .pinned], laidTests := true, laidLooks := .later }
def FnExactFirstDeskCardSaid : Prop := Claim7.holds Tryd.pinned (.plain (OpenSpec.ofChange fnExactFirstDeskSpec)) fnExactFirstDeskCard

/-- THE SECOND FORM's CARD OF 'laws.FnExactParseRolls'. -/
def fnExactParseRollsUptoCard : Claim7 := { stood := { row := fnExactParseRollsUptoRow, standIns := [], harness := (true, "a96d60678dfa73ef6cf6dc180f4718fe8837ece8ea71640b4d73a54f0c6e1c65"), looks := true }, kinds := [], alts := [], laidByText := true, laidKinds := [.data, .data, .data], laidTests := true, laidLooks := .later }
def FnExactParseRollsUptoCardSaid : Prop := Claim7.holds Tryd.pinned (.plain (OpenSpec.upto fnExactParseRollsSpec)) fnExactParseRollsUptoCard

/-- THE SECOND FORM's CARD OF 'laws.FnExactTurnGame'. -/
def fnExactTurnGameUptoCard : Claim7 := { stood := { row := fnExactTurnGameUptoRow, standIns := [], harness := (true, "a96d60678dfa73ef6cf6dc180f4718fe8837ece8ea71640b4d73a54f0c6e1c65"), looks := true }, kinds := [], alts := [], laidByText := true, laidKinds := [.data, .pinned], laidTests := true, laidLooks := .later }
def FnExactTurnGameUptoCardSaid : Prop := Claim7.holds Tryd.pinned (.plain (OpenSpec.upto fnExactTurnGameSpec)) fnExactTurnGameUptoCard

/-- THE SECOND FORM's CARD OF 'laws.FnExactFirstDesk'. -/
def fnExactFirstDeskUptoCard : Claim7 := { stood := { row := fnExactFirstDeskUptoRow, standIns := [], harness := (true, "a96d60678dfa73ef6cf6dc180f4718fe8837ece8ea71640b4d73a54f0c6e1c65"), looks := true }, kinds := [], alts := [], laidByText := true, laidKinds := [.data, .data, .data, .data, .sentinel, .sentinel, .pinned], laidTests := true, laidLooks := .later }
def FnExactFirstDeskUptoCardSaid : Prop := Claim7.holds Tryd.pinned (.plain (OpenSpec.upto fnExactFirstDeskSpec)) fnExactFirstDeskUptoCard
end Rows
end Go.Proofs.YtgkkjlpfkoplhaaDoor
