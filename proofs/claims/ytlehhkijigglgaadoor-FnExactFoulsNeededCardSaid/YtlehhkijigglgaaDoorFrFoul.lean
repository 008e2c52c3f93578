/-
  Frames: who is too far behind.
-/
import Derived.Test.YtlehhkijigglgaaDoorFrLeft
namespace Go.Proofs.YtlehhkijigglgaaDoor
open Go.RowKit
set_option linter.unusedVariables false

set_option maxHeartbeats 800000 in
theorem frBehind_bad (r : Int) (c : Bool) (l : Int) (b : Int) (hg : frG r c l = false) (w : World) :
    Calls Tryd.prog 81 #[frW r c l, .int .i64 b] w fun e w' => e = .returned (.bool false) ∧ Below w.heap.size w w' := by
  have H := Lib.hid hg; clear hg
  go_enter Tryd.func81, Tryd.ntmps81
  go_wp2_with fail
  refine (frGood_any _ _ _ _).mono ?_; rintro e w1 ⟨rfl, b1⟩
  rw [H.out]
  go_wp2_with fail
  go_ret
  refine ⟨rfl, ?_⟩
  (repeat (first | exact Below.refl _ _ | exact ‹Below _ _ _› | refine Below.drew ?_ | refine Below.alloc ?_ (by first | omega | (simp; done) | (simp; omega)) _ | refine Below.setCell ?_ (by first | omega | (simp; done) | (simp; omega)) _ | refine Below.trans ?_ (Below.mono ‹Below _ _ _› (by first | omega | (simp; done) | (simp; omega)))))

set_option maxHeartbeats 800000 in
theorem frBehind_n (n : Nat) (hn : n ≤ 36) (b : Int) (w : World) :
    Calls Tryd.prog 81 #[frV n, .int .i64 b] w fun e w' => e = .returned (.bool (inR b 0 400)) ∧ Below w.heap.size w w' := by
  have H := Lib.hid (frG_of hn)
  go_enter Tryd.func81, Tryd.ntmps81
  go_wp2_with fail
  refine (frGood_any _ _ _ _).mono ?_; rintro e w1 ⟨rfl, b1⟩
  rw [H.out]
  go_wp2_with fail
  refine (l1In_any _ _ _ _).mono ?_; rintro e w2 ⟨rfl, rfl⟩
  go_wp2_with fail
  go_ret
  refine ⟨rfl, ?_⟩
  (repeat (first | exact Below.refl _ _ | exact ‹Below _ _ _› | refine Below.drew ?_ | refine Below.alloc ?_ (by first | omega | (simp; done) | (simp; omega)) _ | refine Below.setCell ?_ (by first | omega | (simp; done) | (simp; omega)) _ | refine Below.trans ?_ (Below.mono ‹Below _ _ _› (by first | omega | (simp; done) | (simp; omega)))))

set_option maxHeartbeats 800000 in
theorem canWin_bad (r : Int) (c : Bool) (l : Int) (b : Int) (hg : frG r c l = false) (w : World) :
    Calls Tryd.prog 44 #[frW r c l, .int .i64 b] w fun e w' => e = .returned (.tuple #[.bool false, .bool false]) ∧ Below w.heap.size w w' := by
  have HC := Lib.hid (pointsLeft_bad r c l hg); clear hg
  go_enter Tryd.func44, Tryd.ntmps44
  go_wp2_with fail
  refine (HC.out _).mono ?_; rintro e w1 ⟨rfl, b1⟩
  go_wp2_with fail
  refine bodyPost_ret (v := .tuple #[.bool false, .bool false]) (by simp [results, Tryd.results44, go_sem]) rfl ⟨rfl, ?_⟩
  have sz_b1 := b1.size; (try simp at sz_b1)
  (repeat (first | exact Below.refl _ _ | exact ‹Below _ _ _› | refine Below.drew ?_ | refine Below.alloc ?_ (by first | omega | (simp; done) | (simp; omega)) _ | refine Below.setCell ?_ (by first | omega | (simp; done) | (simp; omega)) _ | refine Below.trans ?_ (Below.mono ‹Below _ _ _› (by first | omega | (simp; done) | (simp; omega)))))

set_option maxHeartbeats 800000 in
theorem canWin_out (n : Nat) (hn : n ≤ 36) (b : Int) (hb : inR b 0 400 = false) (w : World) :
    Calls Tryd.prog 44 #[frV n, .int .i64 b] w fun e w' => e = .returned (.tuple #[.bool false, .bool false]) ∧ Below w.heap.size w w' := by
  have HC := Lib.hid (pointsLeft_n n hn)
  generalize hiP n = p at *
  have hb' : b < 0 ∨ (0 ≤ b ∧ 400 < b) := by
    unfold inR at hb
    simp at hb; omega
  clear hb
  rcases hb' with h0 | ⟨h0, h1⟩
  all_goals
    go_enter Tryd.func44, Tryd.ntmps44
    go_wp2_with fail
    refine (HC.out _).mono ?_; rintro e w1 ⟨rfl, b1⟩
    go_wp2_with fail
    refine bodyPost_ret (v := .tuple #[.bool false, .bool false]) (by simp [results, Tryd.results44, go_sem]) rfl ⟨rfl, ?_⟩
    (repeat (first | exact Below.refl _ _ | exact ‹Below _ _ _› | refine Below.drew ?_ | refine Below.alloc ?_ (by first | omega | (simp; done) | (simp; omega)) _ | refine Below.setCell ?_ (by first | omega | (simp; done) | (simp; omega)) _ | refine Below.trans ?_ (Below.mono ‹Below _ _ _› (by first | omega | (simp; done) | (simp; omega)))))

set_option maxHeartbeats 800000 in
theorem canWin_n (n : Nat) (hn : n ≤ 36) (b : Int) (hb : inR b 0 400 = true) (w : World) :
    Calls Tryd.prog 44 #[frV n, .int .i64 b] w fun e w' => e = .returned (.tuple #[.bool (decide (b < hiP n)), .bool true]) ∧ Below w.heap.size w w' := by
  have HC := Lib.hid (pointsLeft_n n hn)
  generalize hiP n = p at *
  have h0 : 0 ≤ b := by unfold inR at hb; simp at hb; omega
  have h1 : b ≤ 400 := by unfold inR at hb; simp at hb; omega
  clear hb
  go_enter Tryd.func44, Tryd.ntmps44
  go_wp2_with fail
  refine (HC.out _).mono ?_; rintro e w1 ⟨rfl, b1⟩
  go_wp2_with fail
  refine bodyPost_ret (v := .tuple #[.bool (decide (b < p)), .bool true]) (by simp [results, Tryd.results44, go_sem]) rfl ⟨rfl, ?_⟩
  (repeat (first | exact Below.refl _ _ | exact ‹Below _ _ _› | refine Below.drew ?_ | refine Below.alloc ?_ (by first | omega | (simp; done) | (simp; omega)) _ | refine Below.setCell ?_ (by first | omega | (simp; done) | (simp; omega)) _ | refine Below.trans ?_ (Below.mono ‹Below _ _ _› (by first | omega | (simp; done) | (simp; omega)))))

end Go.Proofs.YtlehhkijigglgaaDoor
