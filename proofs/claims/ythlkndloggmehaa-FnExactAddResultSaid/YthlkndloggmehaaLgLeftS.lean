/-
  Leagues: the games that are left: the model's.
-/
import Derived.Test.YthlkndloggmehaaLgLeft
namespace Go.Proofs.Ythlkndloggmehaa
open Go.RowKit
set_option linter.unusedVariables false
set_option linter.unusedSimpArgs false

end Go.Proofs.Ythlkndloggmehaa
