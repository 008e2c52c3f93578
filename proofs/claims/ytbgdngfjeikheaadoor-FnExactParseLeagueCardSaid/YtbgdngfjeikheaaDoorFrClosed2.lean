/-
  More closed facts on the whole program: what every card of this seat asks of it.
-/
import Derived.Test.YtbgdngfjeikheaaDoorCards
import Derived.SevenTiedAt
import Derived.KernelRfl
namespace Go.Proofs.YtbgdngfjeikheaaDoor
open Go

set_option maxRecDepth 100000 in
theorem mainC : Tryd.prog.mainIs = some (Rows.fnExactMakePuzzleCard.stood.harness.1, Rows.fnExactMakePuzzleCard.stood.harness.2.toList) := by kernel_rfl
set_option maxRecDepth 100000 in
theorem looksC : Rows.fnExactMakePuzzleCard.stood.looks = Tryd.prog.looks [] := by kernel_rfl

end Go.Proofs.YtbgdngfjeikheaaDoor
