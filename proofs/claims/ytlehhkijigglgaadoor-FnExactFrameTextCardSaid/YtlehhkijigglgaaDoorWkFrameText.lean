/- What the exact law of FrameText does, step by step. -/
import Derived.Test.YtlehhkijigglgaaDoorFrText
namespace Go.Proofs.YtlehhkijigglgaaDoor.ExFrameText
open Go.RowKit
set_option linter.unusedVariables false

set_option maxHeartbeats 800000 in
theorem law_of (r : Int) (c : Bool) (l : Int) (t0 : ByteArray) (o1 : Bool) (hs : (∀ w : World, Calls Tryd.prog 56 #[frW r c l] w fun e w' => e = .returned (.tuple #[.string t0, .bool o1]) ∧ Below w.heap.size w w')) (hi : (∀ w : World, Calls Tryd.prog 57 #[frW r c l] w fun e w' => e = .returned (.tuple #[.string t0, .bool o1]) ∧ Below w.heap.size w w')) (w : World) :
    Calls Tryd.prog 17 #[frW r c l] w fun e w' => e = .returned (.bool true) ∧ Below w.heap.size w w' := by
  have HS := Lib.hid hs; clear hs
  have HI := Lib.hid hi; clear hi
  have q1 : (o1 != o1) = false := by simp
  go_enter Tryd.func17, Tryd.ntmps17
  go_wp2_with fail
  refine (toFrame_any r c l _).mono ?_; rintro e w1 ⟨rfl, b1⟩
  obtain ⟨c1, f1⟩ := bcell b1; have z1 : w.heap.size < w1.heap.size := (by have := b1.size; (try simp at this); omega)
  go_wp2_with fail
  refine (HS.out _).mono ?_; rintro e w2 ⟨rfl, b2⟩
  obtain ⟨c2, f2⟩ := bcell b2; have z2 : w.heap.size < w2.heap.size := (by have := b2.size; (try simp at this); omega)
  go_wp2_with fail
  refine (toFrame_any r c l _).mono ?_; rintro e w3 ⟨rfl, b3⟩
  obtain ⟨c3, f3⟩ := bcell b3; have z3 : w.heap.size < w3.heap.size := (by have := b3.size; (try simp at this); omega)
  go_wp2_with fail
  refine (HI.out _).mono ?_; rintro e w4 ⟨rfl, b4⟩
  obtain ⟨c4, f4⟩ := bcell b4; have z4 : w.heap.size < w4.heap.size := (by have := b4.size; (try simp at this); omega)
  go_wp2_with fail
  go_ret
  refine ⟨rfl, ?_⟩
  have sz_b1 := b1.size; (try simp at sz_b1); have sz_b2 := b2.size; (try simp at sz_b2); have sz_b3 := b3.size; (try simp at sz_b3); have sz_b4 := b4.size; (try simp at sz_b4)
  (repeat (first | exact Below.refl _ _ | exact ‹Below _ _ _› | refine Below.drew ?_ | refine Below.alloc ?_ (by first | omega | (simp; done) | (simp; omega)) _ | refine Below.setCell ?_ (by first | omega | (simp; done) | (simp; omega)) _ | refine Below.trans ?_ (Below.mono ‹Below _ _ _› (by first | omega | (simp; done) | (simp; omega)))))

theorem walk (r : Int) (c : Bool) (l : Int) (w : World) :
    Calls Tryd.prog 17 #[frW r c l] w fun e w' => e = .returned (.bool true) ∧ Below w.heap.size w w' := by
  cases hg : frG r c l
  · exact law_of r c l _ _ (specFrameText_bad r c l hg) (frameText_bad r c l hg) w
  · obtain ⟨n, hn, rfl, rfl, rfl⟩ := frG_n hg
    exact law_of _ _ _ _ _ (specFrameText_n n hn) (frameText_n n hn) w
end Go.Proofs.YtlehhkijigglgaaDoor.ExFrameText
