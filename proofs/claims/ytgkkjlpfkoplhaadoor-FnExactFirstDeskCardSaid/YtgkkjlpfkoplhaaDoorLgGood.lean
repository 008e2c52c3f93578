/-
  Leagues: IsLeague: the model's.
-/
import Derived.Test.YtgkkjlpfkoplhaaDoorLgIs
namespace Go.Proofs.YtgkkjlpfkoplhaaDoor
open Go.RowKit
set_option linter.unusedVariables false
set_option linter.unusedSimpArgs false

end Go.Proofs.YtgkkjlpfkoplhaaDoor
