/-
  DERIVED. GIVEN WITH THE SEED: THE CARDS: each row of YtaplkciomagmiabDoorRows.lean that lists a variable, with what it lists TIED to the program's text (the seventh form; the later family's looks); each row that meets fmt, with fmt's text TOLD by the authors' own Lean function (tested against real Go, not proved from fmt's source: count such statements apart). THE CARD IS WHAT COUNTS. Prove the row's statement (the work); the ties are given (YtaplkciomagmiabDoorTie.lean); close each card by the builder's one call (the guide's Derived/Test/ToyasCard.lean, 'card_holds'). Laid BY PROGRAM, IN A SANDBOX (cutbox-door.mjs). By AI agents, Wed Nov 11 2026. No macro, syntax, notation, axiom, sorry.
-/
import Derived.Test.YtaplkciomagmiabDoorRows
import GoSem.ClaimSeven
namespace Go.Proofs.YtaplkciomagmiabDoor
namespace Rows

/-- THE TIED CARD OF 'laws.FnExactPlayFrame'. -/
def fnExactPlayFrameCard : Claim7 := { stood := { row := fnExactPlayFrameRow, standIns := [], harness := (true, "b7261655e64098f990a877bd8e911b0c8d184155da02db3bdb91182e477041da"), looks := false }, kinds := [], alts := [], laidByText := true, laidKinds := [.data, .data, .data], laidTests := true, laidLooks := .later }
def FnExactPlayFrameCardSaid : Prop := Claim7.holds Tryd.pinned (.plain (OpenSpec.ofChange fnExactPlayFrameSpec)) fnExactPlayFrameCard

/-- THE TIED CARD OF 'laws.FnExactCountByPoints'. -/
def fnExactCountByPointsCard : Claim7 := { stood := { row := fnExactCountByPointsRow, standIns := [], harness := (true, "b7261655e64098f990a877bd8e911b0c8d184155da02db3bdb91182e477041da"), looks := false }, kinds := [], alts := [], laidByText := true, laidKinds := [.data, .data, .data], laidTests := true, laidLooks := .later }
def FnExactCountByPointsCardSaid : Prop := Claim7.holds Tryd.pinned (.plain (OpenSpec.ofChange fnExactCountByPointsSpec)) fnExactCountByPointsCard

/-- THE TIED CARD OF 'laws.FnExactFirstWithPoints'. -/
def fnExactFirstWithPointsCard : Claim7 := { stood := { row := fnExactFirstWithPointsRow, standIns := [], harness := (true, "b7261655e64098f990a877bd8e911b0c8d184155da02db3bdb91182e477041da"), looks := false }, kinds := [], alts := [], laidByText := true, laidKinds := [.data, .data, .data], laidTests := true, laidLooks := .later }
def FnExactFirstWithPointsCardSaid : Prop := Claim7.holds Tryd.pinned (.plain (OpenSpec.ofChange fnExactFirstWithPointsSpec)) fnExactFirstWithPointsCard

/-- THE SECOND FORM's CARD OF 'laws.FnExactPlayFrame'. -/
def fnExactPlayFrameUptoCard : Claim7 := { stood := { row := fnExactPlayFrameUptoRow, standIns := [], harness := (true, "b7261655e64098f990a877bd8e911b0c8d184155da02db3bdb91182e477041da"), looks := false }, kinds := [], alts := [], laidByText := true, laidKinds := [.data, .data, .data], laidTests := true, laidLooks := .later }
def FnExactPlayFrameUptoCardSaid : Prop := Claim7.holds Tryd.pinned (.plain (OpenSpec.upto fnExactPlayFrameSpec)) fnExactPlayFrameUptoCard

/-- THE SECOND FORM's CARD OF 'laws.FnExactCountByPoints'. -/
def fnExactCountByPointsUptoCard : Claim7 := { stood := { row := fnExactCountByPointsUptoRow, standIns := [], harness := (true, "b7261655e64098f990a877bd8e911b0c8d184155da02db3bdb91182e477041da"), looks := false }, kinds := [], alts := [], laidByText := true, laidKinds := [.data, .data, .data], laidTests := true, laidLooks := .later }
def FnExactCountByPointsUptoCardSaid : Prop := Claim7.holds Tryd.pinned (.plain (OpenSpec.upto fnExactCountByPointsSpec)) fnExactCountByPointsUptoCard

/-- THE SECOND FORM's CARD OF 'laws.FnExactFirstWithPoints'. -/
def fnExactFirstWithPointsUptoCard : Claim7 := { stood := { row := fnExactFirstWithPointsUptoRow, standIns := [], harness := (true, "b7261655e64098f990a877bd8e911b0c8d184155da02db3bdb91182e477041da"), looks := false }, kinds := [], alts := [], laidByText := true, laidKinds := [.data, .data, .data], laidTests := true, laidLooks := .later }
def FnExactFirstWithPointsUptoCardSaid : Prop := Claim7.holds Tryd.pinned (.plain (OpenSpec.upto fnExactFirstWithPointsSpec)) fnExactFirstWithPointsUptoCard
end Rows
end Go.Proofs.YtaplkciomagmiabDoor
