/-
  Leagues: in how many ways a team can be first: the program's.
-/
import Derived.Test.YthlkndloggmehaaLgFsS
namespace Go.Proofs.Ythlkndloggmehaa
open Go.RowKit
set_option linter.unusedVariables false
set_option linter.unusedSimpArgs false

theorem slice_nil (b off n c : Nat) (w : World) : (binOp BinOp.eql 45 (.slice (some ⟨b, off, none⟩) n c) (.slice none 0 0)).run Try.prog w = .ok (.bool false) w := by
  first | kernel_rfl | rfl
end Go.Proofs.Ythlkndloggmehaa
