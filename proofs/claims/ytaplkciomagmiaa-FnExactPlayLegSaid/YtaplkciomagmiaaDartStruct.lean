/-
  A dart is copied from the laws' mirror; two darts are compared.
-/
import Derived.Test.YtaplkciomagmiaaDartGood
namespace Go.Proofs.Ytaplkciomagmiaa
open Go.RowKit

set_option maxHeartbeats 400000 in
theorem toDart_any (n t : Int) (w : World) :
    Calls Try.prog 66 #[.agg #[.int .i64 n, .int .i64 t]] w fun e w' => e = .returned (.agg #[.int .i64 n, .int .i64 t]) ∧ Below w.heap.size w w' := by
  go_enter Try.func66, Try.ntmps66
  go_wp2
  refine bodyPost_ret (v := .agg #[.int .i64 n, .int .i64 t]) (by simp [results, Try.results66, go_sem]) rfl ⟨rfl, ?_⟩
  (repeat (first | exact Below.refl _ _ | exact ‹Below _ _ _› | refine Below.drew ?_ | refine Below.alloc ?_ (by first | omega | (simp; done) | (simp; omega)) _ | refine Below.setCell ?_ (by first | omega | (simp; done) | (simp; omega)) _ | refine Below.trans ?_ (Below.mono ‹Below _ _ _› (by first | omega | (simp; done) | (simp; omega)))))

end Go.Proofs.Ytaplkciomagmiaa
