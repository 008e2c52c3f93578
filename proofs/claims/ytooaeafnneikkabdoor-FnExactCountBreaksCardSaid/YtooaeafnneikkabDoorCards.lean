/-
  DERIVED. GIVEN WITH THE SEED: THE CARDS: each row of YtooaeafnneikkabDoorRows.lean that lists a variable, with what it lists TIED to the program's text (the seventh form; the later family's looks); each row that meets fmt, with fmt's text TOLD by the authors' own Lean function (tested against real Go, not proved from fmt's source: count such statements apart). THE CARD IS WHAT COUNTS. Prove the row's statement (the work); the ties are given (YtooaeafnneikkabDoorTie.lean); close each card by the builder's one call (the guide's Derived/Test/ToyasCard.lean, 'card_holds'). Laid BY PROGRAM, IN A SANDBOX (cutbox-door.mjs). By AI agents, Wed Nov 11 2026. No macro, syntax, notation, axiom, sorry.
-/
import Derived.Test.YtooaeafnneikkabDoorRows
import GoSem.ClaimSeven
namespace Go.Proofs.YtooaeafnneikkabDoor
namespace Rows

/-- THE TIED CARD OF 'laws.FnExactCountBreaks'. -/
def fnExactCountBreaksCard : Claim7 := { stood := { row := fnExactCountBreaksRow, standIns := [], harness := (true, "59346c90223ee4c2a728fa11b8f6cdcabd53654ffd2dc9db3cb490ae70381264"), looks := false }, kinds := [], alts := [], laidByText := true, laidKinds := [.data, .data, .data], laidTests := true, laidLooks := .later }
def FnExactCountBreaksCardSaid : Prop := Claim7.holds Tryd.pinned (.plain (OpenSpec.ofChange fnExactCountBreaksSpec)) fnExactCountBreaksCard

/-- THE SECOND FORM's CARD OF 'laws.FnExactCountBreaks'. -/
def fnExactCountBreaksUptoCard : Claim7 := { stood := { row := fnExactCountBreaksUptoRow, standIns := [], harness := (true, "59346c90223ee4c2a728fa11b8f6cdcabd53654ffd2dc9db3cb490ae70381264"), looks := false }, kinds := [], alts := [], laidByText := true, laidKinds := [.data, .data, .data], laidTests := true, laidLooks := .later }
def FnExactCountBreaksUptoCardSaid : Prop := Claim7.holds Tryd.pinned (.plain (OpenSpec.upto fnExactCountBreaksSpec)) fnExactCountBreaksUptoCard
end Rows
end Go.Proofs.YtooaeafnneikkabDoor
