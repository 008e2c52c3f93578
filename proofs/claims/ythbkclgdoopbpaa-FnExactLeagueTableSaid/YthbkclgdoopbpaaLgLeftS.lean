/-
  Leagues: the games that are left: the model's.
-/
import Derived.Test.YthbkclgdoopbpaaLgLeft
namespace Go.Proofs.Ythbkclgdoopbpaa
open Go.RowKit
set_option linter.unusedVariables false
set_option linter.unusedSimpArgs false

end Go.Proofs.Ythbkclgdoopbpaa
