/- What the exact law of FrameAfter does, step by step. -/
import Derived.Test.YtlehhkijigglgaaDoorFrAfterL
namespace Go.Proofs.YtlehhkijigglgaaDoor.ExFrameAfter
open Go.RowKit
set_option linter.unusedVariables false

set_option maxHeartbeats 400000 in
theorem law_long (r : Int) (c : Bool) (l : Int) (s1 : ByteArray) (w : World) (hl : (1048576 : Int) < (s1.size : Int)) :
    Calls Tryd.prog 6 #[frW r c l, .string s1] w fun e w' => e = .returned (.bool true) ∧ Below w.heap.size w w' := by
  go_enter Tryd.func6, Tryd.ntmps6
  go_wp2
  go_ret
  refine ⟨rfl, ?_⟩
  (repeat (first | exact Below.refl _ _ | exact ‹Below _ _ _› | refine Below.drew ?_ | refine Below.alloc ?_ (by first | omega | (simp; done) | (simp; omega)) _ | refine Below.setCell ?_ (by first | omega | (simp; done) | (simp; omega)) _ | refine Below.trans ?_ (Below.mono ‹Below _ _ _› (by first | omega | (simp; done) | (simp; omega)))))

set_option maxHeartbeats 800000 in
theorem law_of (r : Int) (c : Bool) (l : Int) (s1 : ByteArray) (fr : Int) (fc : Bool) (fl : Int) (o1 : Bool) (hs : (∀ w : World, Calls Tryd.prog 27 #[frW r c l, .string s1] w fun e w' => e = .returned (.tuple #[frW fr fc fl, .bool o1]) ∧ Below w.heap.size w w')) (hi : (∀ w : World, Calls Tryd.prog 28 #[frW r c l, .string s1] w fun e w' => e = .returned (.tuple #[frW fr fc fl, .bool o1]) ∧ Below w.heap.size w w')) (w : World) (hl : ¬ (1048576 : Int) < (s1.size : Int)) :
    Calls Tryd.prog 6 #[frW r c l, .string s1] w fun e w' => e = .returned (.bool true) ∧ Below w.heap.size w w' := by
  have HS := Lib.hid hs; clear hs
  have HI := Lib.hid hi; clear hi
  have q1 : (o1 != o1) = false := by simp
  go_enter Tryd.func6, Tryd.ntmps6
  go_wp2_with fail
  refine (toFrame_any r c l _).mono ?_; rintro e w1 ⟨rfl, b1⟩
  obtain ⟨c1, f1⟩ := bcell b1; have z1 : w.heap.size < w1.heap.size := (by have := b1.size; (try simp at this); omega)
  go_wp2_with fail
  refine (HS.out _).mono ?_; rintro e w2 ⟨rfl, b2⟩
  obtain ⟨c2, f2⟩ := bcell b2; have z2 : w.heap.size < w2.heap.size := (by have := b2.size; (try simp at this); omega)
  go_wp2_with fail
  refine (toFrame_any r c l _).mono ?_; rintro e w3 ⟨rfl, b3⟩
  obtain ⟨c3, f3⟩ := bcell b3; have z3 : w.heap.size < w3.heap.size := (by have := b3.size; (try simp at this); omega)
  go_wp2_with fail
  refine (HI.out _).mono ?_; rintro e w4 ⟨rfl, b4⟩
  have tA := (((FrAt.new w2 fr fc fl).keep b3).keep b4)
  obtain ⟨z0, z1, z2, -, -, -⟩ := tA.cells
  have zA := tA.lt
  go_wp2_with fail
  refine (eqFrame_same _ _ _ _).mono ?_; rintro e w5 ⟨rfl, b5⟩
  go_wp2_with fail
  go_ret
  refine ⟨rfl, ?_⟩
  have sz_b1 := b1.size; (try simp at sz_b1); have sz_b2 := b2.size; (try simp at sz_b2); have sz_b3 := b3.size; (try simp at sz_b3); have sz_b4 := b4.size; (try simp at sz_b4); have sz_b5 := b5.size; (try simp at sz_b5)
  (repeat (first | exact Below.refl _ _ | exact ‹Below _ _ _› | refine Below.drew ?_ | refine Below.alloc ?_ (by first | omega | (simp; done) | (simp; omega)) _ | refine Below.setCell ?_ (by first | omega | (simp; done) | (simp; omega)) _ | refine Below.trans ?_ (Below.mono ‹Below _ _ _› (by first | omega | (simp; done) | (simp; omega)))))

theorem walk (r : Int) (c : Bool) (l : Int) (s : ByteArray) (w : World) :
    Calls Tryd.prog 6 #[frW r c l, .string s] w fun e w' => e = .returned (.bool true) ∧ Below w.heap.size w w' := by
  by_cases hl : (1048576 : Int) < (s.size : Int)
  · exact law_long r c l s w hl
  · cases hg : frG r c l
    · exact law_of r c l s 0 false 0 false (specAfter_bad r c l hg s) (frameAfter_bad r c l hg s) w hl
    · obtain ⟨n, hn, rfl, rfl, rfl⟩ := frG_n hg
      have h1 := specAfter_n n hn s
      have h2 := frameAfter_n n hn s
      cases ha : after n s.data.toList with
      | none => rw [ha] at h1 h2; exact law_of _ _ _ s 0 false 0 false h1 h2 w hl
      | some m => rw [ha] at h1 h2; exact law_of _ _ _ s (frR m) (frC m) (frL m) true h1 h2 w hl
end Go.Proofs.YtlehhkijigglgaaDoor.ExFrameAfter
