/-
  Frames: FrameAfter, of the model and of the program, at whatever frame.
-/
import Derived.Test.YtaplkciomagmiabDoorFrAfterS
namespace Go.Proofs.YtaplkciomagmiabDoor
open Go.RowKit
set_option linter.unusedVariables false

theorem after_long {n : Nat} {l : List UInt8} (h : n < l.length) : after n l = none := by
  cases ha : after n l with
  | none => rfl
  | some m => have := after_len _ _ _ ha; omega

set_option maxHeartbeats 800000 in
theorem frAfter_all (n : Nat) (hn : n ≤ 36) (s : ByteArray) (w : World) :
    Calls Tryd.prog 21 #[frV n, .string s] w fun e w' => (∃ x : Nat, e = .returned (.tuple #[frV ((after n s.data.toList).getD x), .bool (after n s.data.toList).isSome])) ∧ Below w.heap.size w w' := by
  by_cases hs : (36 : Int) < s.size
  · have ha : after n s.data.toList = none := after_long (by simp; omega)
    rw [ha]
    clear ha
    go_enter Tryd.func21, Tryd.ntmps21
    have t0 := FrAt.new w (frR n) (frC n) (frL n)
    have tA := t0.old (.cells #[.int .i64 0, .bool false, .int .i64 0] 29)
    have tB := FrAt.new (w.alloc (.cells #[.int .i64 (frR n), .bool (frC n), .int .i64 (frL n)] 29)) 0 false 0
    rw [World.size_alloc] at tB
    clear t0 tA tB
    go_wp2_with fail
    refine bodyPost_ret (v := .tuple #[frV n, .bool false]) (by simp [results, Tryd.results21, go_sem]) rfl ⟨⟨n, rfl⟩, ?_⟩
    (repeat (first | exact Below.refl _ _ | exact ‹Below _ _ _› | refine Below.drew ?_ | refine Below.alloc ?_ (by first | omega | (simp; done) | (simp; omega)) _ | refine Below.setCell ?_ (by first | omega | (simp; done) | (simp; omega)) _ | refine Below.trans ?_ (Below.mono ‹Below _ _ _› (by first | omega | (simp; done) | (simp; omega)))))
  · exact frAfter_n n hn s hs w

set_option maxHeartbeats 800000 in
theorem frameAfter_bad (r : Int) (c : Bool) (l : Int) (hg : frG r c l = false) (s : ByteArray) (w : World) :
    Calls Tryd.prog 24 #[frW r c l, .string s] w fun e w' => e = .returned (afterV none) ∧ Below w.heap.size w w' := by
  have H := Lib.hid hg; clear hg
  go_enter Tryd.func24, Tryd.ntmps24
  go_wp2_with fail
  refine (isFrame_any r c l _).mono ?_; rintro e w1 ⟨rfl, b1⟩
  rw [H.out]
  obtain ⟨tA, tB⟩ := two_new b1
  obtain ⟨z0, z1, z2, v0, v1, v2⟩ := tB.cells
  obtain ⟨p0, p1, p2⟩ := tB.put (.int .i64 0) (.bool false) (.int .i64 0)
  clear tA tB
  go_wp2_with fail
  refine bodyPost_ret (v := .tuple #[frW 0 false 0, .bool false]) (by simp [results, Tryd.results24, go_sem, p0, p1, p2]) rfl ⟨rfl, ?_⟩
  (repeat (first | exact Below.refl _ _ | exact ‹Below _ _ _› | refine Below.drew ?_ | refine Below.alloc ?_ (by first | omega | (simp; done) | (simp; omega)) _ | refine Below.setCell ?_ (by first | omega | (simp; done) | (simp; omega)) _ | refine Below.trans ?_ (Below.mono ‹Below _ _ _› (by first | omega | (simp; done) | (simp; omega)))))

end Go.Proofs.YtaplkciomagmiabDoor
