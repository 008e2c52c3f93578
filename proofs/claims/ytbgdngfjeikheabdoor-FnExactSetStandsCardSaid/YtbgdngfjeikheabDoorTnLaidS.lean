/-
  What SetStands' row lists: three tables and the handle of the library, and the program's two errors.
-/
import Derived.Test.YtbgdngfjeikheabDoorTnLaidT
namespace Go.Proofs.YtbgdngfjeikheabDoor
open Go.ChangeShapes Go.WideShapes Go.ChangeAt Go.RowKit

def laidSL : List (String × DataW Unit) := [("math/bits.deBruijn32tab", Rows.laid_math_bits_deBruijn32tab), ("math/bits.deBruijn64tab", Rows.laid_math_bits_deBruijn64tab), ("internal/strconv.uint64pow10", Rows.laid_internal_strconv_uint64pow10), ("errors.errorType", Rows.laid_errors_errorType), ("loop.example/g01368/impl.errNoPoint", Rows.laid_loop_example_g01368_impl_errNoPoint), ("loop.example/g01368/impl.errBehindEnd", Rows.laid_loop_example_g01368_impl_errBehindEnd)]
theorem parts_of_laidS {W : World} (h : laidMetH Tryd.prog laidSL W) : laidMet Tryd.prog laidTL W ∧ handlesMet Tryd.prog [("errors.errorType", Rows.laid_errors_errorType)] W := h
theorem errors_of_laidS {W : World} (h : laidMetH Tryd.prog laidSL W) : laidMet Tryd.prog laidL W := (parts_of_laidS h).1.tail.tail.tail
theorem tens_of_laidS {W : World} (h : laidMetH Tryd.prog laidSL W) : Tens W := tens_of_laid (parts_of_laidS h).1
theorem handle_of_laidS {W : World} (h : laidMetH Tryd.prog laidSL W) : W.cell? ⟨3, 0, none⟩ = some (.iface 143 (.agg #[.pointer (some ⟨7, 59, none⟩)])) :=
  handle_of_laid (show laidMetH Tryd.prog laidHL W from And.intro (errors_of_laidS h) (parts_of_laidS h).2)

noncomputable def laidSWorld (os : Os) : World :=
  let w0 := laidTWorld os
  { w0 with heap := w0.heap.modify 3 fun
      | .cells _ t frozen => .cells #[.iface 143 (.agg #[.pointer (some ⟨7, 59, none⟩)])] t frozen
      | o => o }
set_option maxRecDepth 100000 in
theorem laidSWorld_met (os : Os) (args : Array Value) : laidMetH Tryd.prog laidSL ((laidSWorld os).forCall (fun _ _ => 0) ⟨#[], args, []⟩).memory :=
  laidMetH_of_parts3 (fuel := 8) (laidMet_of_run' 8 (by kernel_rfl) (by kernel_rfl)) (by kernel_rfl) (by kernel_rfl)

end Go.Proofs.YtbgdngfjeikheabDoor
