/-
  DERIVED. GIVEN WITH THE SEED: THE CARDS: each row of YthbhhcpkilckkaaDoorRows.lean that lists a variable, with what it lists TIED to the program's text (the seventh form; the later family's looks); each row that meets fmt, with fmt's text TOLD by the authors' own Lean function (tested against real Go, not proved from fmt's source: count such statements apart). THE CARD IS WHAT COUNTS. Prove the row's statement (the work); the ties are given (YthbhhcpkilckkaaDoorTie.lean); close each card by the builder's one call (the guide's Derived/Test/ToyasCard.lean, 'card_holds'). Laid BY PROGRAM, IN A SANDBOX (cutbox-door.mjs). By AI agents, Wed Nov 11 2026. No macro, syntax, notation, axiom, sorry.
-/
import Derived.Test.YthbhhcpkilckkaaDoorRows
import GoSem.ClaimSeven
namespace Go.Proofs.YthbhhcpkilckkaaDoor
namespace Rows

/-- THE TIED CARD OF 'laws.FnExactTurnGame'. -/
def fnExactTurnGameCard : Claim7 := { stood := { row := fnExactTurnGameRow, standIns := [], harness := (true, "a787ff98ea4e20d432eb1049c14a26aee186e4c418a9e82563e3de3ffd750bcd"), looks := true }, kinds := [], alts := [], laidByText := true, laidKinds := [.data, .pinned], laidTests := true, laidLooks := .later }
def FnExactTurnGameCardSaid : Prop := Claim7.holds Tryd.pinned (.plain (OpenSpec.ofChange fnExactTurnGameSpec)) fnExactTurnGameCard

/-- THE TIED CARD OF 'laws.FnExactKindsText'. -/
def fnExactKindsTextCard : Claim7 := { stood := { row := fnExactKindsTextRow, standIns := [], harness := (true, "a787ff98ea4e20d432eb1049c14a26aee186e4c418a9e82563e3de3ffd750bcd"), looks := true }, kinds := [], alts := [], laidByText := true, laidKinds := [.data, .data, .data], laidTests := true, laidLooks := .later }
def FnExactKindsTextCardSaid : Prop := Claim7.holds Tryd.pinned (.plain (OpenSpec.ofChange fnExactKindsTextSpec)) fnExactKindsTextCard

/-- THE TIED CARD OF 'laws.FnExactParseKinds'. -/
def fnExactParseKindsCard : Claim7 := { stood := { row := fnExactParseKindsRow, standIns := [], harness := (true, "a787ff98ea4e20d432eb1049c14a26aee186e4c418a9e82563e3de3ffd750bcd"), looks := true }, kinds := [], alts := [], laidByText := true, laidKinds := [.data, .data, .data, .data, .sentinel, .sentinel, .pinned], laidTests := true, laidLooks := .later }
def FnExactParseKindsCardSaid : Prop := Claim7.holds Tryd.pinned (.plain (OpenSpec.ofChange fnExactParseKindsSpec)) fnExactParseKindsCard

/-- THE SECOND FORM's CARD OF 'laws.FnExactTurnGame'. -/
def fnExactTurnGameUptoCard : Claim7 := { stood := { row := fnExactTurnGameUptoRow, standIns := [], harness := (true, "a787ff98ea4e20d432eb1049c14a26aee186e4c418a9e82563e3de3ffd750bcd"), looks := true }, kinds := [], alts := [], laidByText := true, laidKinds := [.data, .pinned], laidTests := true, laidLooks := .later }
def FnExactTurnGameUptoCardSaid : Prop := Claim7.holds Tryd.pinned (.plain (OpenSpec.upto fnExactTurnGameSpec)) fnExactTurnGameUptoCard

/-- THE SECOND FORM's CARD OF 'laws.FnExactKindsText'. -/
def fnExactKindsTextUptoCard : Claim7 := { stood := { row := fnExactKindsTextUptoRow, standIns := [], harness := (true, "a787ff98ea4e20d432eb1049c14a26aee186e4c418a9e82563e3de3ffd750bcd"), looks := true }, kinds := [], alts := [], laidByText := true, laidKinds := [.data, .data, .data], laidTests := true, laidLooks := .later }
def FnExactKindsTextUptoCardSaid : Prop := Claim7.holds Tryd.pinned (.plain (OpenSpec.upto fnExactKindsTextSpec)) fnExactKindsTextUptoCard

/-- THE SECOND FORM's CARD OF 'laws.FnExactParseKinds'. -/
def fnExactParseKindsUptoCard : Claim7 := { stood := { row := fnExactParseKindsUptoRow, standIns := [], harness := (true, "a787ff98ea4e20d432eb1049c14a26aee186e4c418a9e82563e3de3ffd750bcd"), looks := true }, kinds := [], alts := [], laidByText := true, laidKinds := [.data, .data, .data, .data, .sentinel, .sentinel, .pinned], laidTests := true, laidLooks := .later }
def FnExactParseKindsUptoCardSaid : Prop := Claim7.holds Tryd.pinned (.plain (OpenSpec.upto fnExactParseKindsSpec)) fnExactParseKindsUptoCard
end Rows
end Go.Proofs.YthbhhcpkilckkaaDoor
