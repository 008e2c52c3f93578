/-
  Closed facts on the whole program, each by the kernel once: what every row of this seat asks of it.
-/
import Derived.Test.YtgkkjlpfkoplhaaDoorCards
import Derived.JoinedOf
import Derived.KernelRfl
namespace Go.Proofs.YtgkkjlpfkoplhaaDoor
open Go

set_option maxRecDepth 100000 in
theorem mayEnterC : Tryd.prog.mayEnter = true := by kernel_rfl
set_option maxRecDepth 100000 in
theorem liftsC : Tryd.prog.liftsFinal = Rows.fnExactParseRollsRow.lifted := by kernel_rfl
set_option maxRecDepth 100000 in
theorem makeC : Tryd.prog.make = some Rows.fnExactParseRollsRow.make := by kernel_rfl

end Go.Proofs.YtgkkjlpfkoplhaaDoor
