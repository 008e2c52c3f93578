/- What the exact law of ServersOf does, step by step. -/
import Derived.Test.YtooaeafnneikkaaRaServ
namespace Go.Proofs.Ytooaeafnneikkaa.ExServersOf
open Go.RowKit
set_option linter.unusedVariables false

set_option maxHeartbeats 400000 in
theorem law_long (s0 : ByteArray) (x1 : Int) (w : World) (hl : (1048576 : Int) < (s0.size : Int)) :
    Calls Try.prog 11 #[.string s0, .int .i64 x1] w fun e w' => e = .returned (.bool true) ∧ Below w.heap.size w w' := by
  go_enter Try.func11, Try.ntmps11
  go_wp2
  go_ret
  refine ⟨rfl, ?_⟩
  (repeat (first | exact Below.refl _ _ | exact ‹Below _ _ _› | refine Below.drew ?_ | refine Below.alloc ?_ (by first | omega | (simp; done) | (simp; omega)) _ | refine Below.setCell ?_ (by first | omega | (simp; done) | (simp; omega)) _ | refine Below.trans ?_ (Below.mono ‹Below _ _ _› (by first | omega | (simp; done) | (simp; omega)))))

set_option maxHeartbeats 800000 in
theorem law_of (s0 : ByteArray) (x1 : Int) (t0 : ByteArray) (o1 : Bool) (hs : (∀ w : World, Calls Try.prog 30 #[.string s0, .int .i64 x1] w fun e w' => e = .returned (.tuple #[.string t0, .bool o1]) ∧ Below w.heap.size w w')) (hi : (∀ w : World, Calls Try.prog 31 #[.string s0, .int .i64 x1] w fun e w' => e = .returned (.tuple #[.string t0, .bool o1]) ∧ Below w.heap.size w w')) (w : World) (hl : ¬ (1048576 : Int) < (s0.size : Int)) :
    Calls Try.prog 11 #[.string s0, .int .i64 x1] w fun e w' => e = .returned (.bool true) ∧ Below w.heap.size w w' := by
  have HS := Lib.hid hs; clear hs
  have HI := Lib.hid hi; clear hi
  have q1 : (o1 != o1) = false := by simp
  go_enter Try.func11, Try.ntmps11
  go_wp2_with fail
  refine (HS.out _).mono ?_; rintro e w1 ⟨rfl, b1⟩
  go_wp2_with fail
  refine (HI.out _).mono ?_; rintro e w2 ⟨rfl, b2⟩
  go_wp2_with fail
  go_ret
  refine ⟨rfl, ?_⟩
  have sz_b1 := b1.size; (try simp at sz_b1); have sz_b2 := b2.size; (try simp at sz_b2)
  (repeat (first | exact Below.refl _ _ | exact ‹Below _ _ _› | refine Below.drew ?_ | refine Below.alloc ?_ (by first | omega | (simp; done) | (simp; omega)) _ | refine Below.setCell ?_ (by first | omega | (simp; done) | (simp; omega)) _ | refine Below.trans ?_ (Below.mono ‹Below _ _ _› (by first | omega | (simp; done) | (simp; omega)))))

theorem walk (s : ByteArray) (t : Int) (w : World) :
    Calls Try.prog 11 #[.string s, .int .i64 t] w fun e w' => e = .returned (.bool true) ∧ Below w.heap.size w w' := by
  by_cases hl : (1048576 : Int) < (s.size : Int)
  · exact law_long s t w hl
  · exact law_of s t _ _ (fun w => specServersOf_any s t w (by omega)) (fun w => implServersOf_any s t w (by omega)) w hl
end Go.Proofs.Ytooaeafnneikkaa.ExServersOf
