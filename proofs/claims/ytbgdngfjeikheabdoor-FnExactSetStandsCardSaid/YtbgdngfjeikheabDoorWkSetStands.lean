/- What the exact law of SetStands does, step by step. -/
import Derived.Test.YtbgdngfjeikheabDoorTnSst
namespace Go.Proofs.YtbgdngfjeikheabDoor.ExSetStands
open Go.RowKit
set_option linter.unusedVariables false

set_option maxHeartbeats 400000 in
theorem law_long (s0 : ByteArray) (w : World) (hl : (1048576 : Int) < (s0.size : Int)) :
    Calls Tryd.prog 6 #[.string s0] w fun e w' => e = .returned (.bool true) ∧ Below w.heap.size w w' := by
  go_enter Tryd.func6, Tryd.ntmps6
  go_wp2
  go_ret
  refine ⟨rfl, ?_⟩
  (repeat (first | exact Below.refl _ _ | exact ‹Below _ _ _› | refine Below.drew ?_ | refine Below.alloc ?_ (by first | omega | (simp; done) | (simp; omega)) _ | refine Below.setCell ?_ (by first | omega | (simp; done) | (simp; omega)) _ | refine Below.trans ?_ (Below.mono ‹Below _ _ _› (by first | omega | (simp; done) | (simp; omega)))))

set_option maxHeartbeats 800000 in
theorem law_of (s0 : ByteArray) (p0 p1 : Addr) (y0 : Int) (y1 : Int) (t2 : ByteArray) (o3 : Bool) (hs : (∀ w : World, Calls Tryd.prog 21 #[.string s0] w fun e w' => e = .returned (.tuple #[.int .i64 y0, .int .i64 y1, .string t2, .bool o3]) ∧ Below w.heap.size w w')) (hi : (∀ w : World, SetDoor w p0 p1 → Calls Tryd.prog 22 #[.string s0] w fun e w' => e = .returned (.tuple #[.int .i64 y0, .int .i64 y1, .string t2, .bool o3]) ∧ Below w.heap.size w w')) (w : World) (hl : ¬ (1048576 : Int) < (s0.size : Int)) (he : SetDoor w p0 p1) :
    Calls Tryd.prog 6 #[.string s0] w fun e w' => e = .returned (.bool true) ∧ Below w.heap.size w w' := by
  have HS := Lib.hid hs; clear hs
  have HI := Lib.hid hi; clear hi
  have HE := Lib.hid he; clear he
  have q0 : ((y0 : Int) != y0) = false := by simp
  have q1 : ((y1 : Int) != y1) = false := by simp
  have q3 : (o3 != o3) = false := by simp
  go_enter Tryd.func6, Tryd.ntmps6
  go_wp2_with fail
  refine (HS.out _).mono ?_; rintro e w1 ⟨rfl, b1⟩
  go_wp2_with fail
  refine (HI.out _ (HE.out.keep (by (repeat (first | exact Below.refl _ _ | exact ‹Below _ _ _› | refine Below.drew ?_ | refine Below.alloc ?_ (by first | omega | (simp; done) | (simp; omega)) _ | refine Below.setCell ?_ (by first | omega | (simp; done) | (simp; omega)) _ | refine Below.trans ?_ (Below.mono ‹Below _ _ _› (by first | omega | (simp; done) | (simp; omega)))))))).mono ?_; rintro e w2 ⟨rfl, b2⟩
  go_wp2_with fail
  go_ret
  refine ⟨rfl, ?_⟩
  have sz_b1 := b1.size; (try simp at sz_b1); have sz_b2 := b2.size; (try simp at sz_b2)
  (repeat (first | exact Below.refl _ _ | exact ‹Below _ _ _› | refine Below.drew ?_ | refine Below.alloc ?_ (by first | omega | (simp; done) | (simp; omega)) _ | refine Below.setCell ?_ (by first | omega | (simp; done) | (simp; omega)) _ | refine Below.trans ?_ (Below.mono ‹Below _ _ _› (by first | omega | (simp; done) | (simp; omega)))))

theorem walk (s : ByteArray) (p0 p1 : Addr) (w : World) (he : SetDoor w p0 p1) :
    Calls Tryd.prog 6 #[.string s] w fun e w' => e = .returned (.bool true) ∧ Below w.heap.size w w' := by
  by_cases hl : (1048576 : Int) < (s.size : Int)
  · exact law_long s w hl
  · exact law_of s p0 p1 _ _ _ _ (fun w => specSetStands_any s w (by omega)) (fun w he => implSetStands_any s p0 p1 w (by omega) he) w hl he
end Go.Proofs.YtbgdngfjeikheabDoor.ExSetStands
