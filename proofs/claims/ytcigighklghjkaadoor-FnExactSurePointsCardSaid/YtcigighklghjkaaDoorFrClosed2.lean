/-
  More closed facts on the whole program: what every card of this seat asks of it.
-/
import Derived.Test.YtcigighklghjkaaDoorCards
import Derived.SevenTiedAt
import Derived.KernelRfl
namespace Go.Proofs.YtcigighklghjkaaDoor
open Go

set_option maxRecDepth 100000 in
theorem mainC : Tryd.prog.mainIs = some (Rows.fnExactDoesFitCard.stood.harness.1, Rows.fnExactDoesFitCard.stood.harness.2.toList) := by kernel_rfl
set_option maxRecDepth 100000 in
theorem looksC : Rows.fnExactDoesFitCard.stood.looks = Tryd.prog.looks [] := by kernel_rfl

end Go.Proofs.YtcigighklghjkaaDoor
