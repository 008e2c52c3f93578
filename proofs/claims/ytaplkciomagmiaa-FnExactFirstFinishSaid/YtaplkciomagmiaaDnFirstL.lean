/-
  Darts: FirstFinish, and what its law asks.
-/
import Derived.Test.YtaplkciomagmiaaDnFirstI
import Derived.Test.YtaplkciomagmiaaDaMark
namespace Go.Proofs.Ytaplkciomagmiaa
end Go.Proofs.Ytaplkciomagmiaa
