/- What the exact law of MostGames does, step by step. -/
import Derived.Test.YthbkclgdoopbpaaPtSpec
namespace Go.Proofs.Ythbkclgdoopbpaa.ExMostGames
open Go.RowKit
set_option linter.unusedVariables false

set_option maxHeartbeats 800000 in
theorem law_of (x0 : Int) (y0 : Int) (y1 : Int) (o2 : Bool) (hs : (∀ w : World, Calls Try.prog 16 #[.int .i64 x0] w fun e w' => e = .returned (.tuple #[.int .i64 y0, .int .i64 y1, .bool o2]) ∧ Below w.heap.size w w')) (hi : (∀ w : World, Calls Try.prog 17 #[.int .i64 x0] w fun e w' => e = .returned (.tuple #[.int .i64 y0, .int .i64 y1, .bool o2]) ∧ Below w.heap.size w w')) (w : World) :
    Calls Try.prog 5 #[.int .i64 x0] w fun e w' => e = .returned (.bool true) ∧ Below w.heap.size w w' := by
  have HS := Lib.hid hs; clear hs
  have HI := Lib.hid hi; clear hi
  have q0 : ((y0 : Int) != y0) = false := by simp
  have q1 : ((y1 : Int) != y1) = false := by simp
  have q2 : (o2 != o2) = false := by simp
  go_enter Try.func5, Try.ntmps5
  go_wp2_with fail
  refine (HS.out _).mono ?_; rintro e w1 ⟨rfl, b1⟩
  go_wp2_with fail
  refine (HI.out _).mono ?_; rintro e w2 ⟨rfl, b2⟩
  go_wp2_with fail
  go_ret
  refine ⟨rfl, ?_⟩
  have sz_b1 := b1.size; (try simp at sz_b1); have sz_b2 := b2.size; (try simp at sz_b2)
  (repeat (first | exact Below.refl _ _ | exact ‹Below _ _ _› | refine Below.drew ?_ | refine Below.alloc ?_ (by first | omega | (simp; done) | (simp; omega)) _ | refine Below.setCell ?_ (by first | omega | (simp; done) | (simp; omega)) _ | refine Below.trans ?_ (Below.mono ‹Below _ _ _› (by first | omega | (simp; done) | (simp; omega)))))

theorem walk (f : Int) (w : World) :
    Calls Try.prog 5 #[.int .i64 f] w fun e w' => e = .returned (.bool true) ∧ Below w.heap.size w w' :=
  law_of f _ _ _ (fun w => specMostGames_any f w) (fun w => implMostGames_any f w) w
end Go.Proofs.Ythbkclgdoopbpaa.ExMostGames
