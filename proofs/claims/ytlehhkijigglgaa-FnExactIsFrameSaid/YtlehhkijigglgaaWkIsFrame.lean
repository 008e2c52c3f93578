/- What the exact law of IsFrame does, step by step. -/
import Derived.Test.YtlehhkijigglgaaFrSpec
namespace Go.Proofs.Ytlehhkijigglgaa.ExIsFrame
open Go.RowKit
set_option linter.unusedVariables false

set_option maxHeartbeats 400000 in
theorem spec_any (r : Int) (c : Bool) (l : Int) (w : World) :
    Calls Try.prog 7 #[frW r c l] w fun e w' => e = .returned (.bool (frG r c l)) ∧ Below w.heap.size w w' := by
  go_enter Try.func7, Try.ntmps7
  go_wp2_with fail
  refine (frGood_any r c l _).mono ?_; rintro e w1 ⟨rfl, b1⟩
  go_wp2_with fail
  go_ret
  exact ⟨rfl, ((Below.refl _ _).alloc (Nat.le_refl _) _).trans (b1.mono (by simp))⟩

set_option maxHeartbeats 400000 in
theorem walk (r : Int) (c : Bool) (l : Int) (w : World) :
    Calls Try.prog 3 #[frW r c l] w fun e w' => e = .returned (.bool true) ∧ Below w.heap.size w w' := by
  go_enter Try.func3, Try.ntmps3
  go_wp2_with fail
  refine (toFrame_any r c l _).mono ?_; rintro e w1 ⟨rfl, b1⟩
  obtain ⟨c1, f1⟩ := bcell b1; have z1 : w.heap.size < w1.heap.size := (by have := b1.size; (try simp at this); omega)
  go_wp2_with fail
  refine (spec_any r c l _).mono ?_; rintro e w2 ⟨rfl, b2⟩
  obtain ⟨c2, f2⟩ := bcell b2; have z2 : w.heap.size < w2.heap.size := (by have := b2.size; (try simp at this); omega)
  go_wp2_with fail
  refine (toFrame_any r c l _).mono ?_; rintro e w3 ⟨rfl, b3⟩
  obtain ⟨c3, f3⟩ := bcell b3; have z3 : w.heap.size < w3.heap.size := (by have := b3.size; (try simp at this); omega)
  go_wp2_with fail
  refine (isFrame_any r c l _).mono ?_; rintro e w4 ⟨rfl, b4⟩
  have he : (frG r c l != frG r c l) = false := by simp
  go_wp2_with fail
  go_ret
  refine ⟨rfl, ?_⟩
  (repeat (first | exact Below.refl _ _ | exact ‹Below _ _ _› | refine Below.drew ?_ | refine Below.alloc ?_ (by first | omega | (simp; done) | (simp; omega)) _ | refine Below.setCell ?_ (by first | omega | (simp; done) | (simp; omega)) _ | refine Below.trans ?_ (Below.mono ‹Below _ _ _› (by first | omega | (simp; done) | (simp; omega)))))
end Go.Proofs.Ytlehhkijigglgaa.ExIsFrame
