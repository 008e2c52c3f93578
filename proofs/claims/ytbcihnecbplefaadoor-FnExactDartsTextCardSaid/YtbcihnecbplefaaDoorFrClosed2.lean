/-
  More closed facts on the whole program: what every card of this seat asks of it.
-/
import Derived.Test.YtbcihnecbplefaaDoorCards
import Derived.SevenTiedAt
import Derived.KernelRfl
namespace Go.Proofs.YtbcihnecbplefaaDoor
open Go

set_option maxRecDepth 100000 in
theorem mainC : Tryd.prog.mainIs = some (Rows.fnExactDartTextCard.stood.harness.1, Rows.fnExactDartTextCard.stood.harness.2.toList) := by kernel_rfl
set_option maxRecDepth 100000 in
theorem looksC : Rows.fnExactDartTextCard.stood.looks = Tryd.prog.looks [] := by kernel_rfl

end Go.Proofs.YtbcihnecbplefaaDoor
