/- What the exact law of CountGamesOf does, step by step. -/
import Derived.Test.YthbkclgdoopbpaaPtSpec
namespace Go.Proofs.Ythbkclgdoopbpaa.ExCountGamesOf
open Go.RowKit
set_option linter.unusedVariables false

set_option maxHeartbeats 800000 in
theorem law_of (x0 : Int) (x1 : Int) (y0 : Int) (o1 : Bool) (hs : (∀ w : World, Calls Try.prog 9 #[.int .i64 x0, .int .i64 x1] w fun e w' => e = .returned (.tuple #[.int .i64 y0, .bool o1]) ∧ Below w.heap.size w w')) (hi : (∀ w : World, Calls Try.prog 10 #[.int .i64 x0, .int .i64 x1] w fun e w' => e = .returned (.tuple #[.int .i64 y0, .bool o1]) ∧ Below w.heap.size w w')) (w : World) :
    Calls Try.prog 3 #[.int .i64 x0, .int .i64 x1] w fun e w' => e = .returned (.bool true) ∧ Below w.heap.size w w' := by
  have HS := Lib.hid hs; clear hs
  have HI := Lib.hid hi; clear hi
  have q0 : ((y0 : Int) != y0) = false := by simp
  have q1 : (o1 != o1) = false := by simp
  go_enter Try.func3, Try.ntmps3
  go_wp2_with fail
  refine (HS.out _).mono ?_; rintro e w1 ⟨rfl, b1⟩
  go_wp2_with fail
  refine (HI.out _).mono ?_; rintro e w2 ⟨rfl, b2⟩
  go_wp2_with fail
  go_ret
  refine ⟨rfl, ?_⟩
  have sz_b1 := b1.size; (try simp at sz_b1); have sz_b2 := b2.size; (try simp at sz_b2)
  (repeat (first | exact Below.refl _ _ | exact ‹Below _ _ _› | refine Below.drew ?_ | refine Below.alloc ?_ (by first | omega | (simp; done) | (simp; omega)) _ | refine Below.setCell ?_ (by first | omega | (simp; done) | (simp; omega)) _ | refine Below.trans ?_ (Below.mono ‹Below _ _ _› (by first | omega | (simp; done) | (simp; omega)))))

theorem walk (f : Int) (t : Int) (w : World) :
    Calls Try.prog 3 #[.int .i64 f, .int .i64 t] w fun e w' => e = .returned (.bool true) ∧ Below w.heap.size w w' :=
  law_of f t _ _ (fun w => specCountGamesOf_any f t w) (fun w => implCountGamesOf_any f t w) w
end Go.Proofs.Ythbkclgdoopbpaa.ExCountGamesOf
