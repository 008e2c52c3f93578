/-
  Frames: FrameAfter, of the model and of the program, at whatever frame.
-/
import Derived.Test.YtlehhkijigglgaaDoorFrAfterS
namespace Go.Proofs.YtlehhkijigglgaaDoor
open Go.RowKit
set_option linter.unusedVariables false

theorem after_long {n : Nat} {l : List UInt8} (h : n < l.length) : after n l = none := by
  cases ha : after n l with
  | none => rfl
  | some m => have := after_len _ _ _ ha; omega

set_option maxHeartbeats 800000 in
theorem frAfter_all (n : Nat) (hn : n ≤ 36) (s : ByteArray) (w : World) :
    Calls Tryd.prog 65 #[frV n, .string s] w fun e w' => (∃ x : Nat, e = .returned (.tuple #[frV ((after n s.data.toList).getD x), .bool (after n s.data.toList).isSome])) ∧ Below w.heap.size w w' := by
  by_cases hs : (36 : Int) < s.size
  · have ha : after n s.data.toList = none := after_long (by simp; omega)
    rw [ha]
    clear ha
    go_enter Tryd.func65, Tryd.ntmps65
    have t0 := FrAt.new w (frR n) (frC n) (frL n)
    have tA := t0.old (.cells #[.int .i64 0, .bool false, .int .i64 0] 26)
    have tB := FrAt.new (w.alloc (.cells #[.int .i64 (frR n), .bool (frC n), .int .i64 (frL n)] 26)) 0 false 0
    rw [World.size_alloc] at tB
    clear t0 tA tB
    go_wp2_with fail
    refine bodyPost_ret (v := .tuple #[frV n, .bool false]) (by simp [results, Tryd.results65, go_sem]) rfl ⟨⟨n, rfl⟩, ?_⟩
    (repeat (first | exact Below.refl _ _ | exact ‹Below _ _ _› | refine Below.drew ?_ | refine Below.alloc ?_ (by first | omega | (simp; done) | (simp; omega)) _ | refine Below.setCell ?_ (by first | omega | (simp; done) | (simp; omega)) _ | refine Below.trans ?_ (Below.mono ‹Below _ _ _› (by first | omega | (simp; done) | (simp; omega)))))
  · exact frAfter_n n hn s hs w

set_option maxHeartbeats 800000 in
theorem specAfter_bad (r : Int) (c : Bool) (l : Int) (hg : frG r c l = false) (s : ByteArray) (w : World) :
    Calls Tryd.prog 27 #[frW r c l, .string s] w fun e w' => e = .returned (afterV none) ∧ Below w.heap.size w w' := by
  have H := Lib.hid hg; clear hg
  go_enter Tryd.func27, Tryd.ntmps27
  go_wp2_with fail
  refine (frGood_any r c l _).mono ?_; rintro e w1 ⟨rfl, b1⟩
  rw [H.out]
  obtain ⟨tA, tB⟩ := two_new b1
  obtain ⟨z0, z1, z2, v0, v1, v2⟩ := tB.cells
  obtain ⟨p0, p1, p2⟩ := tB.put (.int .i64 0) (.bool false) (.int .i64 0)
  clear tA tB
  go_wp2_with fail
  refine bodyPost_ret (v := .tuple #[frW 0 false 0, .bool false]) (by simp [results, Tryd.results27, go_sem, p0, p1, p2]) rfl ⟨rfl, ?_⟩
  (repeat (first | exact Below.refl _ _ | exact ‹Below _ _ _› | refine Below.drew ?_ | refine Below.alloc ?_ (by first | omega | (simp; done) | (simp; omega)) _ | refine Below.setCell ?_ (by first | omega | (simp; done) | (simp; omega)) _ | refine Below.trans ?_ (Below.mono ‹Below _ _ _› (by first | omega | (simp; done) | (simp; omega)))))

set_option maxHeartbeats 1600000 in
theorem specAfter_n (n : Nat) (hn : n ≤ 36) (s : ByteArray) (w : World) :
    Calls Tryd.prog 27 #[frV n, .string s] w fun e w' => e = .returned (afterV (after n s.data.toList)) ∧ Below w.heap.size w w' := by
  have H := Lib.hid (frG_of hn)
  have hc := frAfter_all n hn s
  generalize after n s.data.toList = o at *
  match o, hc with
  | none, hc =>
    have HC := Lib.hid hc; clear hc
    go_enter Tryd.func27, Tryd.ntmps27
    go_wp2_with fail
    refine (frGood_any _ _ _ _).mono ?_; rintro e w1 ⟨rfl, b1⟩
    rw [H.out]
    obtain ⟨tA, tB⟩ := two_new b1
    obtain ⟨y0, y1, y2, x0, x1, x2⟩ := tA.cells
    have HB := Lib.hid (And.intro b1 (And.intro tA tB)); clear b1 tA tB
    go_wp2_with fail
    refine (HC.out _).mono ?_; rintro e w2 ⟨⟨x, rfl⟩, b2⟩
    have tB2 := (HB.out.2.2.keep b2).old (.cells #[.int .i64 (frR x), .bool (frC x), .int .i64 (frL x)] 26)
    obtain ⟨z0, z1, z2, v0, v1, v2⟩ := tB2.cells
    obtain ⟨p0, p1, p2⟩ := tB2.put (.int .i64 0) (.bool false) (.int .i64 0)
    clear tB2 y0 y1 y2 x0 x1 x2
    simp only [Option.getD_none, Option.isSome_none]
    go_wp2_with fail
    refine bodyPost_ret (v := .tuple #[frW 0 false 0, .bool false]) (by simp [results, Tryd.results27, go_sem, p0, p1, p2]) rfl ⟨rfl, ?_⟩
    have b1 := HB.out.1
    have sz_b1 := b1.size; (try simp at sz_b1); have sz_b2 := b2.size; (try simp at sz_b2)
    (repeat (first | exact Below.refl _ _ | exact ‹Below _ _ _› | refine Below.drew ?_ | refine Below.alloc ?_ (by first | omega | (simp; done) | (simp; omega)) _ | refine Below.setCell ?_ (by first | omega | (simp; done) | (simp; omega)) _ | refine Below.trans ?_ (Below.mono ‹Below _ _ _› (by first | omega | (simp; done) | (simp; omega)))))
  | some m, hc =>
    have HC := Lib.hid hc; clear hc
    go_enter Tryd.func27, Tryd.ntmps27
    go_wp2_with fail
    refine (frGood_any _ _ _ _).mono ?_; rintro e w1 ⟨rfl, b1⟩
    rw [H.out]
    obtain ⟨tA, tB⟩ := two_new b1
    obtain ⟨y0, y1, y2, x0, x1, x2⟩ := tA.cells
    have HB := Lib.hid (And.intro b1 (And.intro tA tB)); clear b1 tA tB
    go_wp2_with fail
    refine (HC.out _).mono ?_; rintro e w2 ⟨⟨x, rfl⟩, b2⟩
    have tB2 := (HB.out.2.2.keep b2).old (.cells #[.int .i64 (frR m), .bool (frC m), .int .i64 (frL m)] 26)
    obtain ⟨z0, z1, z2, v0, v1, v2⟩ := tB2.cells
    obtain ⟨p0, p1, p2⟩ := tB2.put (.int .i64 (frR m)) (.bool (frC m)) (.int .i64 (frL m))
    clear tB2 y0 y1 y2 x0 x1 x2
    simp only [Option.getD_some, Option.isSome_some]
    go_wp2_with fail
    refine bodyPost_ret (v := .tuple #[frV m, .bool true]) (by simp [results, Tryd.results27, go_sem, p0, p1, p2]) rfl ⟨rfl, ?_⟩
    have b1 := HB.out.1
    have sz_b1 := b1.size; (try simp at sz_b1); have sz_b2 := b2.size; (try simp at sz_b2)
    (repeat (first | exact Below.refl _ _ | exact ‹Below _ _ _› | refine Below.drew ?_ | refine Below.alloc ?_ (by first | omega | (simp; done) | (simp; omega)) _ | refine Below.setCell ?_ (by first | omega | (simp; done) | (simp; omega)) _ | refine Below.trans ?_ (Below.mono ‹Below _ _ _› (by first | omega | (simp; done) | (simp; omega)))))

set_option maxHeartbeats 800000 in
theorem frameAfter_bad (r : Int) (c : Bool) (l : Int) (hg : frG r c l = false) (s : ByteArray) (w : World) :
    Calls Tryd.prog 28 #[frW r c l, .string s] w fun e w' => e = .returned (afterV none) ∧ Below w.heap.size w w' := by
  have H := Lib.hid hg; clear hg
  go_enter Tryd.func28, Tryd.ntmps28
  go_wp2_with fail
  refine (isFrame_any r c l _).mono ?_; rintro e w1 ⟨rfl, b1⟩
  rw [H.out]
  obtain ⟨tA, tB⟩ := two_new b1
  obtain ⟨z0, z1, z2, v0, v1, v2⟩ := tB.cells
  obtain ⟨p0, p1, p2⟩ := tB.put (.int .i64 0) (.bool false) (.int .i64 0)
  clear tA tB
  go_wp2_with fail
  refine bodyPost_ret (v := .tuple #[frW 0 false 0, .bool false]) (by simp [results, Tryd.results28, go_sem, p0, p1, p2]) rfl ⟨rfl, ?_⟩
  (repeat (first | exact Below.refl _ _ | exact ‹Below _ _ _› | refine Below.drew ?_ | refine Below.alloc ?_ (by first | omega | (simp; done) | (simp; omega)) _ | refine Below.setCell ?_ (by first | omega | (simp; done) | (simp; omega)) _ | refine Below.trans ?_ (Below.mono ‹Below _ _ _› (by first | omega | (simp; done) | (simp; omega)))))

end Go.Proofs.YtlehhkijigglgaaDoor
