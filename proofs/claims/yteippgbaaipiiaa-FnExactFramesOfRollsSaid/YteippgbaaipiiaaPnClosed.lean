/-
  Closed facts on the whole program, each by the kernel once: what every row of this seat asks of it.
-/
import Derived.Test.YteippgbaaipiiaaRows
import Derived.JoinedOf
import Derived.KernelRfl
namespace Go.Proofs.Yteippgbaaipiiaa
open Go

set_option maxRecDepth 100000 in
theorem mayEnterC : Try.prog.mayEnter = true := by kernel_rfl
set_option maxRecDepth 100000 in
theorem liftsC : Try.prog.liftsFinal = Rows.fnExactAreRollsRow.lifted := by kernel_rfl
set_option maxRecDepth 100000 in
theorem makeC : Try.prog.make = some Rows.fnExactAreRollsRow.make := by kernel_rfl

end Go.Proofs.Yteippgbaaipiiaa
