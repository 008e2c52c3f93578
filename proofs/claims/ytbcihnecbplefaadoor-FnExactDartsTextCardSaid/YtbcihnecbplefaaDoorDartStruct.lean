/-
  A dart is copied from the laws' mirror; two darts are compared.
-/
import Derived.Test.YtbcihnecbplefaaDoorDartGood
namespace Go.Proofs.YtbcihnecbplefaaDoor
open Go.RowKit

set_option maxHeartbeats 400000 in
theorem toDart_any (n t : Int) (w : World) :
    Calls Tryd.prog 8 #[.agg #[.int .i64 n, .int .i64 t]] w fun e w' => e = .returned (.agg #[.int .i64 n, .int .i64 t]) ∧ Below w.heap.size w w' := by
  go_enter Tryd.func8, Tryd.ntmps8
  go_wp2
  refine bodyPost_ret (v := .agg #[.int .i64 n, .int .i64 t]) (by simp [results, Tryd.results8, go_sem]) rfl ⟨rfl, ?_⟩
  (repeat (first | exact Below.refl _ _ | exact ‹Below _ _ _› | refine Below.drew ?_ | refine Below.alloc ?_ (by first | omega | (simp; done) | (simp; omega)) _ | refine Below.setCell ?_ (by first | omega | (simp; done) | (simp; omega)) _ | refine Below.trans ?_ (Below.mono ‹Below _ _ _› (by first | omega | (simp; done) | (simp; omega)))))

end Go.Proofs.YtbcihnecbplefaaDoor
