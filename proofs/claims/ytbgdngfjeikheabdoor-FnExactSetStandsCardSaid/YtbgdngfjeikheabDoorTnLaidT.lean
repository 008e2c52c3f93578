/-
  What TieStands' row lists: three tables of the library and the program's two errors; what they give a walk, and a world that meets the list.
-/
import Derived.Test.YtbgdngfjeikheabDoorTnLaidH
import Derived.Test.YtbgdngfjeikheabDoorTnTieA
import Derived.LaidMore
import Derived.Lib.LaidTab
namespace Go.Proofs.YtbgdngfjeikheabDoor
open Go.ChangeShapes Go.WideShapes Go.ChangeAt Go.RowKit

def laidTL : List (String × DataW Unit) := [("math/bits.deBruijn32tab", Rows.laid_math_bits_deBruijn32tab), ("math/bits.deBruijn64tab", Rows.laid_math_bits_deBruijn64tab), ("internal/strconv.uint64pow10", Rows.laid_internal_strconv_uint64pow10), ("loop.example/g01368/impl.errNoPoint", Rows.laid_loop_example_g01368_impl_errNoPoint), ("loop.example/g01368/impl.errBehindEnd", Rows.laid_loop_example_g01368_impl_errBehindEnd)]
theorem laidTH (W : World) : laidMetH Tryd.prog laidTL W = laidMet Tryd.prog laidTL W := MakeChecks.laidMetH_plain _ _ _ (by kernel_rfl)
theorem tens_of_laid {W : World} (h : laidMet Tryd.prog laidTL W) : Tens W :=
  Lib.tabIs_of_head (rest := laidL) gTens rfl (Tryd.underlying159) (Tryd.underlying137) (by kernel_rfl) (by kernel_rfl) (show laidMet Tryd.prog (("internal/strconv.uint64pow10", Lib.tabData .u64 Lib.pow10Tab) :: laidL) W from h.tail.tail)

set_option maxRecDepth 100000 in
theorem vars_read {H : Type} (enc : TypeId × Value → H) {W : World} {x0 x1 : Value} (h0 : W.var? Tryd.prog "loop.example/g01368/impl.errNoPoint" = some #[x0]) (h1 : W.var? Tryd.prog "loop.example/g01368/impl.errBehindEnd" = some #[x1]) (i0 : IsIface x0) (i1 : IsIface x1) (sp : Nat → Bool) :
    DataW.TrodVars enc Tryd.prog W sp ["loop.example/g01368/impl.errNoPoint", "loop.example/g01368/impl.errBehindEnd"] [tok enc x0, tok enc x1] [.cell 0 0, .cell 1 0] :=
  ⟨0, 59, #[x0], 1, [], [.cell 1 0], gNo, tNo, h0, trod_held Tryd.underlying59 i0 0, ⟨1, 59, #[x1], 1, [], [], gEnd, tEnd, h1, trod_held Tryd.underlying59 i1 0, rfl, rfl⟩, rfl⟩

/-- The door's own heap, the program's two errors laid too. -/
noncomputable def laidTWorld (os : Os) : World :=
  let w0 := World.doorLaid Tryd.prog 4000 os
  { w0 with heap := (((w0.heap.push (.cells #[.string noS] 190 (0, 0))).push (.cells #[.string endS] 190 (0, 0))).modify 0 fun
      | .cells _ t frozen => .cells #[.iface 169 (.pointer (some ⟨w0.heap.size, 0, none⟩))] t frozen
      | o => o).modify 1 fun
      | .cells _ t frozen => .cells #[.iface 169 (.pointer (some ⟨w0.heap.size + 1, 0, none⟩))] t frozen
      | o => o }
set_option maxRecDepth 100000 in
theorem laidTWorld_met (os : Os) (args : Array Value) : laidMetH Tryd.prog laidTL ((laidTWorld os).forCall (fun _ _ => 0) ⟨#[], args, []⟩).memory :=
  laidMetH_of_parts3 (fuel := 8) (laidMet_of_run' 8 (by kernel_rfl) (by kernel_rfl)) (by kernel_rfl) (by kernel_rfl)

end Go.Proofs.YtbgdngfjeikheabDoor
