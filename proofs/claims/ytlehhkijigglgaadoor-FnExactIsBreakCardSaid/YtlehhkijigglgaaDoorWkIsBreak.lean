/- What the exact law of IsBreak does, step by step. -/
import Derived.Test.YtlehhkijigglgaaDoorFrAfterL
namespace Go.Proofs.YtlehhkijigglgaaDoor.ExIsBreak
open Go.RowKit
set_option linter.unusedVariables false

set_option maxHeartbeats 400000 in
theorem law_long (r : Int) (c : Bool) (l : Int) (s1 : ByteArray) (w : World) (hl : (1048576 : Int) < (s1.size : Int)) :
    Calls Tryd.prog 5 #[frW r c l, .string s1] w fun e w' => e = .returned (.bool true) ∧ Below w.heap.size w w' := by
  go_enter Tryd.func5, Tryd.ntmps5
  go_wp2
  go_ret
  refine ⟨rfl, ?_⟩
  (repeat (first | exact Below.refl _ _ | exact ‹Below _ _ _› | refine Below.drew ?_ | refine Below.alloc ?_ (by first | omega | (simp; done) | (simp; omega)) _ | refine Below.setCell ?_ (by first | omega | (simp; done) | (simp; omega)) _ | refine Below.trans ?_ (Below.mono ‹Below _ _ _› (by first | omega | (simp; done) | (simp; omega)))))

set_option maxHeartbeats 800000 in
theorem law_of (r : Int) (c : Bool) (l : Int) (s1 : ByteArray) (o0 : Bool) (o1 : Bool) (hs : (∀ w : World, Calls Tryd.prog 25 #[frW r c l, .string s1] w fun e w' => e = .returned (.tuple #[.bool o0, .bool o1]) ∧ Below w.heap.size w w')) (hi : (∀ w : World, Calls Tryd.prog 26 #[frW r c l, .string s1] w fun e w' => e = .returned (.tuple #[.bool o0, .bool o1]) ∧ Below w.heap.size w w')) (w : World) (hl : ¬ (1048576 : Int) < (s1.size : Int)) :
    Calls Tryd.prog 5 #[frW r c l, .string s1] w fun e w' => e = .returned (.bool true) ∧ Below w.heap.size w w' := by
  have HS := Lib.hid hs; clear hs
  have HI := Lib.hid hi; clear hi
  have q0 : (o0 != o0) = false := by simp
  have q1 : (o1 != o1) = false := by simp
  go_enter Tryd.func5, Tryd.ntmps5
  go_wp2_with fail
  refine (toFrame_any r c l _).mono ?_; rintro e w1 ⟨rfl, b1⟩
  obtain ⟨c1, f1⟩ := bcell b1; have z1 : w.heap.size < w1.heap.size := (by have := b1.size; (try simp at this); omega)
  go_wp2_with fail
  refine (HS.out _).mono ?_; rintro e w2 ⟨rfl, b2⟩
  obtain ⟨c2, f2⟩ := bcell b2; have z2 : w.heap.size < w2.heap.size := (by have := b2.size; (try simp at this); omega)
  go_wp2_with fail
  refine (toFrame_any r c l _).mono ?_; rintro e w3 ⟨rfl, b3⟩
  obtain ⟨c3, f3⟩ := bcell b3; have z3 : w.heap.size < w3.heap.size := (by have := b3.size; (try simp at this); omega)
  go_wp2_with fail
  refine (HI.out _).mono ?_; rintro e w4 ⟨rfl, b4⟩
  obtain ⟨c4, f4⟩ := bcell b4; have z4 : w.heap.size < w4.heap.size := (by have := b4.size; (try simp at this); omega)
  go_wp2_with fail
  go_ret
  refine ⟨rfl, ?_⟩
  have sz_b1 := b1.size; (try simp at sz_b1); have sz_b2 := b2.size; (try simp at sz_b2); have sz_b3 := b3.size; (try simp at sz_b3); have sz_b4 := b4.size; (try simp at sz_b4)
  (repeat (first | exact Below.refl _ _ | exact ‹Below _ _ _› | refine Below.drew ?_ | refine Below.alloc ?_ (by first | omega | (simp; done) | (simp; omega)) _ | refine Below.setCell ?_ (by first | omega | (simp; done) | (simp; omega)) _ | refine Below.trans ?_ (Below.mono ‹Below _ _ _› (by first | omega | (simp; done) | (simp; omega)))))

set_option maxHeartbeats 800000 in
theorem spec_bad (r : Int) (c : Bool) (l : Int) (hg : frG r c l = false) (s : ByteArray) (w : World) :
    Calls Tryd.prog 25 #[frW r c l, .string s] w fun e w' => e = .returned (.tuple #[.bool false, .bool false]) ∧ Below w.heap.size w w' := by
  have H := Lib.hid hg; clear hg
  go_enter Tryd.func25, Tryd.ntmps25
  go_wp2_with fail
  refine (frGood_any r c l _).mono ?_; rintro e w1 ⟨rfl, b1⟩
  rw [H.out]
  go_wp2_with fail
  refine bodyPost_ret (v := .tuple #[.bool false, .bool false]) (by simp [results, Tryd.results25, go_sem]) rfl ⟨rfl, ?_⟩
  (repeat (first | exact Below.refl _ _ | exact ‹Below _ _ _› | refine Below.drew ?_ | refine Below.alloc ?_ (by first | omega | (simp; done) | (simp; omega)) _ | refine Below.setCell ?_ (by first | omega | (simp; done) | (simp; omega)) _ | refine Below.trans ?_ (Below.mono ‹Below _ _ _› (by first | omega | (simp; done) | (simp; omega)))))

set_option maxHeartbeats 800000 in
theorem spec_n (n : Nat) (hn : n ≤ 36) (s : ByteArray) (w : World) :
    Calls Tryd.prog 25 #[frV n, .string s] w fun e w' => e = .returned (.tuple #[.bool (after n s.data.toList).isSome, .bool true]) ∧ Below w.heap.size w w' := by
  have H := Lib.hid (frG_of hn)
  have HC := Lib.hid (frAfter_all n hn s)
  go_enter Tryd.func25, Tryd.ntmps25
  go_wp2_with fail
  refine (frGood_any _ _ _ _).mono ?_; rintro e w1 ⟨rfl, b1⟩
  rw [H.out]
  obtain ⟨c1, f1⟩ := bcell b1; have z1 : w.heap.size < w1.heap.size := (by have := b1.size; (try simp at this); omega)
  go_wp2_with fail
  refine (HC.out _).mono ?_; rintro e w2 ⟨⟨x, rfl⟩, b2⟩
  generalize (after n s.data.toList).getD x = y at *
  go_wp2_with fail
  refine bodyPost_ret (v := .tuple #[.bool (after n s.data.toList).isSome, .bool true]) (by simp [results, Tryd.results25, go_sem]) rfl ⟨rfl, ?_⟩
  have sz_b1 := b1.size; (try simp at sz_b1); have sz_b2 := b2.size; (try simp at sz_b2)
  (repeat (first | exact Below.refl _ _ | exact ‹Below _ _ _› | refine Below.drew ?_ | refine Below.alloc ?_ (by first | omega | (simp; done) | (simp; omega)) _ | refine Below.setCell ?_ (by first | omega | (simp; done) | (simp; omega)) _ | refine Below.trans ?_ (Below.mono ‹Below _ _ _› (by first | omega | (simp; done) | (simp; omega)))))

set_option maxHeartbeats 800000 in
theorem impl_bad (r : Int) (c : Bool) (l : Int) (hg : frG r c l = false) (s : ByteArray) (w : World) :
    Calls Tryd.prog 26 #[frW r c l, .string s] w fun e w' => e = .returned (.tuple #[.bool false, .bool false]) ∧ Below w.heap.size w w' := by
  have HC := Lib.hid (frameAfter_bad r c l hg s)
  have H := Lib.hid hg; clear hg
  go_enter Tryd.func26, Tryd.ntmps26
  go_wp2_with fail
  refine (HC.out _).mono ?_; rintro e w1 ⟨rfl, b1⟩
  have tA := ((FrAt.new w r c l).keep b1).old (.cells #[.int .i64 0, .bool false, .int .i64 0] 26)
  obtain ⟨y0, y1, y2, -, -, -⟩ := tA.cells
  clear tA
  unfold afterV
  go_wp2_with fail
  refine (isFrame_any r c l _).mono ?_; rintro e w2 ⟨rfl, b2⟩
  rw [H.out]
  go_wp2_with fail
  refine bodyPost_ret (v := .tuple #[.bool false, .bool false]) (by simp [results, Tryd.results26, go_sem]) rfl ⟨rfl, ?_⟩
  have sz_b1 := b1.size; (try simp at sz_b1); have sz_b2 := b2.size; (try simp at sz_b2)
  (repeat (first | exact Below.refl _ _ | exact ‹Below _ _ _› | refine Below.drew ?_ | refine Below.alloc ?_ (by first | omega | (simp; done) | (simp; omega)) _ | refine Below.setCell ?_ (by first | omega | (simp; done) | (simp; omega)) _ | refine Below.trans ?_ (Below.mono ‹Below _ _ _› (by first | omega | (simp; done) | (simp; omega)))))

def afterN (o : Option Nat) : Value := match o with | some m => frV m | none => frW 0 false 0
theorem afterV_eq (o : Option Nat) : ∃ (fr : Int) (fc : Bool) (fl : Int), afterV o = .tuple #[frW fr fc fl, .bool o.isSome] := by
  cases o with
  | none => exact ⟨0, false, 0, rfl⟩
  | some m => exact ⟨frR m, frC m, frL m, rfl⟩

set_option maxHeartbeats 800000 in
theorem impl_n (n : Nat) (hn : n ≤ 36) (s : ByteArray) (w : World) :
    Calls Tryd.prog 26 #[frV n, .string s] w fun e w' => e = .returned (.tuple #[.bool (after n s.data.toList).isSome, .bool true]) ∧ Below w.heap.size w w' := by
  have H := Lib.hid (frG_of hn)
  have hc := frameAfter_n n hn s
  obtain ⟨fr, fc, fl, hv⟩ := afterV_eq (after n s.data.toList)
  rw [hv] at hc
  have HC := Lib.hid hc; clear hc hv
  go_enter Tryd.func26, Tryd.ntmps26
  go_wp2_with fail
  refine (HC.out _).mono ?_; rintro e w1 ⟨rfl, b1⟩
  have tA := ((FrAt.new w (frR n) (frC n) (frL n)).keep b1).old (.cells #[.int .i64 fr, .bool fc, .int .i64 fl] 26)
  obtain ⟨y0, y1, y2, -, -, -⟩ := tA.cells
  clear tA
  go_wp2_with fail
  refine (isFrame_any _ _ _ _).mono ?_; rintro e w2 ⟨rfl, b2⟩
  rw [H.out]
  go_wp2_with fail
  refine bodyPost_ret (v := .tuple #[  .bool (after n s.data.toList).isSome, .bool true]) (by simp [results, Tryd.results26, go_sem]) rfl ⟨rfl, ?_⟩
  have sz_b1 := b1.size; (try simp at sz_b1); have sz_b2 := b2.size; (try simp at sz_b2)
  (repeat (first | exact Below.refl _ _ | exact ‹Below _ _ _› | refine Below.drew ?_ | refine Below.alloc ?_ (by first | omega | (simp; done) | (simp; omega)) _ | refine Below.setCell ?_ (by first | omega | (simp; done) | (simp; omega)) _ | refine Below.trans ?_ (Below.mono ‹Below _ _ _› (by first | omega | (simp; done) | (simp; omega)))))

theorem walk (r : Int) (c : Bool) (l : Int) (s : ByteArray) (w : World) :
    Calls Tryd.prog 5 #[frW r c l, .string s] w fun e w' => e = .returned (.bool true) ∧ Below w.heap.size w w' := by
  by_cases hl : (1048576 : Int) < (s.size : Int)
  · exact law_long r c l s w hl
  · cases hg : frG r c l
    · exact law_of r c l s _ _ (spec_bad r c l hg s) (impl_bad r c l hg s) w hl
    · obtain ⟨n, hn, rfl, rfl, rfl⟩ := frG_n hg
      exact law_of _ _ _ s _ _ (spec_n n hn s) (impl_n n hn s) w hl
end Go.Proofs.YtlehhkijigglgaaDoor.ExIsBreak
