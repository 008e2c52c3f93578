/- What the exact law of OtherOdds does, step by step. -/
import Derived.Test.YthlkndloggmehaaChOth
namespace Go.Proofs.Ythlkndloggmehaa.ExOtherOdds
open Go.RowKit
set_option linter.unusedVariables false

theorem eqOdds_same (x y : Int) (w : World) :
    Calls Try.prog 55 #[.agg #[.int .i64 x, .int .i64 y], .agg #[.int .i64 x, .int .i64 y]] w fun r w' => r = .returned (.bool true) ∧ Below w.heap.size w w' := by
  have q0 : ((x : Int) != x) = false := by simp
  have q1 : ((y : Int) != y) = false := by simp
  go_enter Try.func55, Try.ntmps55
  go_wp2
  go_ret
  refine ⟨rfl, ?_⟩
  (repeat (first | exact Below.refl _ _ | exact ‹Below _ _ _› | refine Below.drew ?_ | refine Below.alloc ?_ (by first | omega | (simp; done) | (simp; omega)) _ | refine Below.setCell ?_ (by first | omega | (simp; done) | (simp; omega)) _ | refine Below.trans ?_ (Below.mono ‹Below _ _ _› (by first | omega | (simp; done) | (simp; omega)))))

set_option maxHeartbeats 800000 in
theorem law_of (n : Int) (t : Int) (fx : Int) (ft : Int) (o1 : Bool) (hs : (∀ w : World, Calls Try.prog 53 #[.agg #[.int .i64 n, .int .i64 t]] w fun e w' => e = .returned (.tuple #[.agg #[.int .i64 fx, .int .i64 ft], .bool o1]) ∧ Below w.heap.size w w')) (hi : (∀ w : World, Calls Try.prog 54 #[.agg #[.int .i64 n, .int .i64 t]] w fun e w' => e = .returned (.tuple #[.agg #[.int .i64 fx, .int .i64 ft], .bool o1]) ∧ Below w.heap.size w w')) (w : World) :
    Calls Try.prog 18 #[.agg #[.int .i64 n, .int .i64 t]] w fun e w' => e = .returned (.bool true) ∧ Below w.heap.size w w' := by
  have HS := Lib.hid hs; clear hs
  have HI := Lib.hid hi; clear hi
  have q1 : (o1 != o1) = false := by simp
  go_enter Try.func18, Try.ntmps18
  go_wp2_with fail
  refine (toOdds_any n t _).mono ?_; rintro e w1 ⟨rfl, b1⟩
  obtain ⟨c1, f1⟩ := bcell b1; have z1 : w.heap.size < w1.heap.size := (by have := b1.size; (try simp at this); omega)
  go_wp2_with fail
  refine (HS.out _).mono ?_; rintro e w2 ⟨rfl, b2⟩
  obtain ⟨c2, f2⟩ := bcell b2; have z2 : w.heap.size < w2.heap.size := (by have := b2.size; (try simp at this); omega)
  go_wp2_with fail
  refine (toOdds_any n t _).mono ?_; rintro e w3 ⟨rfl, b3⟩
  obtain ⟨c3, f3⟩ := bcell b3; have z3 : w.heap.size < w3.heap.size := (by have := b3.size; (try simp at this); omega)
  go_wp2_with fail
  refine (HI.out _).mono ?_; rintro e w4 ⟨rfl, b4⟩
  have tA := (((Pair.new w2 fx ft 25).keep b3).keep b4)
  obtain ⟨zA, z0, z1, -, -⟩ := tA
  go_wp2_with fail
  refine (eqOdds_same _ _ _).mono ?_; rintro e w5 ⟨rfl, b5⟩
  go_wp2_with fail
  go_ret
  refine ⟨rfl, ?_⟩
  have sz_b1 := b1.size; (try simp at sz_b1); have sz_b2 := b2.size; (try simp at sz_b2); have sz_b3 := b3.size; (try simp at sz_b3); have sz_b4 := b4.size; (try simp at sz_b4); have sz_b5 := b5.size; (try simp at sz_b5)
  (repeat (first | exact Below.refl _ _ | exact ‹Below _ _ _› | refine Below.drew ?_ | refine Below.alloc ?_ (by first | omega | (simp; done) | (simp; omega)) _ | refine Below.setCell ?_ (by first | omega | (simp; done) | (simp; omega)) _ | refine Below.trans ?_ (Below.mono ‹Below _ _ _› (by first | omega | (simp; done) | (simp; omega)))))

theorem walk (n t : Int) (w : World) :
    Calls Try.prog 18 #[.agg #[.int .i64 n, .int .i64 t]] w fun e w' => e = .returned (.bool true) ∧ Below w.heap.size w w' :=
  law_of n t _ _ _ (specOther_any n t) (implOther_any n t) w
end Go.Proofs.Ythlkndloggmehaa.ExOtherOdds
