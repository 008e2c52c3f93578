/-
  More closed facts on the whole program: what every card of this seat asks of it.
-/
import Derived.Test.YtgkkjlpfkoplhaaGreatDoorCards
import Derived.SevenTiedAt
import Derived.KernelRfl
namespace Go.Proofs.YtgkkjlpfkoplhaaGreatDoor
open Go

set_option maxRecDepth 100000 in
theorem mainC : Tryz.prog.mainIs = some (Rows.fnExactIsDeskCard.stood.harness.1, Rows.fnExactIsDeskCard.stood.harness.2.toList) := by kernel_rfl
set_option maxRecDepth 100000 in
theorem looksC : Rows.fnExactIsDeskCard.stood.looks = Tryz.prog.looks [] := by kernel_rfl

end Go.Proofs.YtgkkjlpfkoplhaaGreatDoor
