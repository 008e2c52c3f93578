/-
  More closed facts on the whole program: what every card of this seat asks of it.
-/
import Derived.Test.YtgkkjlpfkoplhaaDoorCards
import Derived.SevenTiedAt
import Derived.KernelRfl
namespace Go.Proofs.YtgkkjlpfkoplhaaDoor
open Go

set_option maxRecDepth 100000 in
theorem mainC : Tryd.prog.mainIs = some (Rows.fnExactParseRollsCard.stood.harness.1, Rows.fnExactParseRollsCard.stood.harness.2.toList) := by kernel_rfl
set_option maxRecDepth 100000 in
theorem looksC : Rows.fnExactParseRollsCard.stood.looks = Tryd.prog.looks [] := by kernel_rfl

end Go.Proofs.YtgkkjlpfkoplhaaDoor
