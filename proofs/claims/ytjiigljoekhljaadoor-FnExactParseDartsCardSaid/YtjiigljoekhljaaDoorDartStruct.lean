/-
  A dart is copied from the laws' mirror; two darts are compared.
-/
import Derived.Test.YtjiigljoekhljaaDoorDartGood
namespace Go.Proofs.YtjiigljoekhljaaDoor
open Go.RowKit

end Go.Proofs.YtjiigljoekhljaaDoor
