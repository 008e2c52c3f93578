/- What the exact law of HighestBreak does, step by step. -/
import Derived.Test.YtlehhkijigglgaaDoorFrLeft
namespace Go.Proofs.YtlehhkijigglgaaDoor.ExHighestBreak
open Go.RowKit
set_option linter.unusedVariables false

set_option maxHeartbeats 800000 in
theorem law_of (r : Int) (c : Bool) (l : Int) (t0 : ByteArray) (y1 : Int) (o2 : Bool) (hs : (∀ w : World, Calls Tryd.prog 29 #[frW r c l] w fun e w' => e = .returned (.tuple #[.string t0, .int .i64 y1, .bool o2]) ∧ Below w.heap.size w w')) (hi : (∀ w : World, Calls Tryd.prog 30 #[frW r c l] w fun e w' => e = .returned (.tuple #[.string t0, .int .i64 y1, .bool o2]) ∧ Below w.heap.size w w')) (w : World) :
    Calls Tryd.prog 7 #[frW r c l] w fun e w' => e = .returned (.bool true) ∧ Below w.heap.size w w' := by
  have HS := Lib.hid hs; clear hs
  have HI := Lib.hid hi; clear hi
  have q1 : ((y1 : Int) != y1) = false := by simp
  have q2 : (o2 != o2) = false := by simp
  go_enter Tryd.func7, Tryd.ntmps7
  go_wp2_with fail
  refine (toFrame_any r c l _).mono ?_; rintro e w1 ⟨rfl, b1⟩
  obtain ⟨c1, f1⟩ := bcell b1; have z1 : w.heap.size < w1.heap.size := (by have := b1.size; (try simp at this); omega)
  go_wp2_with fail
  refine (HS.out _).mono ?_; rintro e w2 ⟨rfl, b2⟩
  obtain ⟨c2, f2⟩ := bcell b2; have z2 : w.heap.size < w2.heap.size := (by have := b2.size; (try simp at this); omega)
  go_wp2_with fail
  refine (toFrame_any r c l _).mono ?_; rintro e w3 ⟨rfl, b3⟩
  obtain ⟨c3, f3⟩ := bcell b3; have z3 : w.heap.size < w3.heap.size := (by have := b3.size; (try simp at this); omega)
  go_wp2_with fail
  refine (HI.out _).mono ?_; rintro e w4 ⟨rfl, b4⟩
  obtain ⟨c4, f4⟩ := bcell b4; have z4 : w.heap.size < w4.heap.size := (by have := b4.size; (try simp at this); omega)
  go_wp2_with fail
  go_ret
  refine ⟨rfl, ?_⟩
  have sz_b1 := b1.size; (try simp at sz_b1); have sz_b2 := b2.size; (try simp at sz_b2); have sz_b3 := b3.size; (try simp at sz_b3); have sz_b4 := b4.size; (try simp at sz_b4)
  (repeat (first | exact Below.refl _ _ | exact ‹Below _ _ _› | refine Below.drew ?_ | refine Below.alloc ?_ (by first | omega | (simp; done) | (simp; omega)) _ | refine Below.setCell ?_ (by first | omega | (simp; done) | (simp; omega)) _ | refine Below.trans ?_ (Below.mono ‹Below _ _ _› (by first | omega | (simp; done) | (simp; omega)))))

set_option maxHeartbeats 800000 in
theorem spec_bad (r : Int) (c : Bool) (l : Int) (hg : frG r c l = false) (w : World) :
    Calls Tryd.prog 29 #[frW r c l] w fun e w' => e = .returned (.tuple #[.string ⟨#[]⟩, .int .i64 0, .bool false]) ∧ Below w.heap.size w w' := by
  have H := Lib.hid hg; clear hg
  go_enter Tryd.func29, Tryd.ntmps29
  go_wp2_with fail
  refine (frGood_any _ _ _ _).mono ?_; rintro e w1 ⟨rfl, b1⟩
  rw [H.out]
  obtain ⟨c1, f1⟩ := bcell b1; have z1 : w.heap.size < w1.heap.size := (by have := b1.size; (try simp at this); omega)
  go_wp2_with fail
  refine bodyPost_ret (v := .tuple #[.string ⟨#[]⟩, .int .i64 0, .bool false]) (by simp [results, Tryd.results29, go_sem]) rfl ⟨rfl, ?_⟩
  (repeat (first | exact Below.refl _ _ | exact ‹Below _ _ _› | refine Below.drew ?_ | refine Below.alloc ?_ (by first | omega | (simp; done) | (simp; omega)) _ | refine Below.setCell ?_ (by first | omega | (simp; done) | (simp; omega)) _ | refine Below.trans ?_ (Below.mono ‹Below _ _ _› (by first | omega | (simp; done) | (simp; omega)))))

set_option maxHeartbeats 800000 in
theorem spec_n (n : Nat) (hn : n ≤ 36) (w : World) :
    Calls Tryd.prog 29 #[frV n] w fun e w' => e = .returned (.tuple #[.string (hiS n), .int .i64 (hiP n), .bool true]) ∧ Below w.heap.size w w' := by
  have H := Lib.hid (frG_of hn)
  go_enter Tryd.func29, Tryd.ntmps29
  go_wp2_with fail
  refine (frGood_any _ _ _ _).mono ?_; rintro e w1 ⟨rfl, b1⟩
  rw [H.out]
  obtain ⟨c1, f1⟩ := bcell b1; have z1 : w.heap.size < w1.heap.size := (by have := b1.size; (try simp at this); omega)
  go_wp2_with fail
  refine (hiAll_any n hn _).mono ?_; rintro e w2 ⟨rfl, b2⟩
  go_wp2_with fail
  refine (hiSum_any n hn _).mono ?_; rintro e w3 ⟨rfl, rfl⟩
  go_wp2_with fail
  refine bodyPost_ret (v := .tuple #[.string (hiS n), .int .i64 (hiP n), .bool true]) (by simp [results, Tryd.results29, go_sem]) rfl ⟨rfl, ?_⟩
  have sz_b1 := b1.size; (try simp at sz_b1); have sz_b2 := b2.size; (try simp at sz_b2)
  (repeat (first | exact Below.refl _ _ | exact ‹Below _ _ _› | refine Below.drew ?_ | refine Below.alloc ?_ (by first | omega | (simp; done) | (simp; omega)) _ | refine Below.setCell ?_ (by first | omega | (simp; done) | (simp; omega)) _ | refine Below.trans ?_ (Below.mono ‹Below _ _ _› (by first | omega | (simp; done) | (simp; omega)))))

theorem walk (r : Int) (c : Bool) (l : Int) (w : World) :
    Calls Tryd.prog 7 #[frW r c l] w fun e w' => e = .returned (.bool true) ∧ Below w.heap.size w w' := by
  cases hg : frG r c l
  · exact law_of r c l _ _ _ (spec_bad r c l hg) (highest_bad r c l hg) w
  · obtain ⟨n, hn, rfl, rfl, rfl⟩ := frG_n hg
    exact law_of _ _ _ _ _ _ (spec_n n hn) (highest_n n hn) w
end Go.Proofs.YtlehhkijigglgaaDoor.ExHighestBreak
