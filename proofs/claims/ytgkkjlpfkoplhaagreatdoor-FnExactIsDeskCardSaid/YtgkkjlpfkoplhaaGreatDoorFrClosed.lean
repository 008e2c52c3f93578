/-
  Closed facts on the whole program, each by the kernel once: what every row of this seat asks of it.
-/
import Derived.Test.YtgkkjlpfkoplhaaGreatDoorCards
import Derived.JoinedOf
import Derived.KernelRfl
namespace Go.Proofs.YtgkkjlpfkoplhaaGreatDoor
open Go

set_option maxRecDepth 100000 in
theorem mayEnterC : Tryz.prog.mayEnter = true := by kernel_rfl
set_option maxRecDepth 100000 in
theorem liftsC : Tryz.prog.liftsFinal = Rows.fnExactIsDeskRow.lifted := by kernel_rfl
set_option maxRecDepth 100000 in
theorem makeC : Tryz.prog.make = some Rows.fnExactIsDeskRow.make := by kernel_rfl

end Go.Proofs.YtgkkjlpfkoplhaaGreatDoor
