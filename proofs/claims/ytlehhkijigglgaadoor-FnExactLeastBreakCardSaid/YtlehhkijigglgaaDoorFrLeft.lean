/-
  Frames: what is left: the highest break of the program.
-/
import Derived.Test.YtlehhkijigglgaaDoorFrPotAll
namespace Go.Proofs.YtlehhkijigglgaaDoor
open Go.RowKit
set_option linter.unusedVariables false

abbrev hiS (n : Nat) : ByteArray := ⟨(allL 55 n).toArray⟩
abbrev loS (n : Nat) : ByteArray := ⟨(allL 50 n).toArray⟩
def hiP (n : Nat) : Int := pts (allL 55 n)
def loP (n : Nat) : Int := pts (allL 50 n)
theorem hiP_bd {n : Nat} (h : n ≤ 36) : 0 ≤ hiP n ∧ hiP n ≤ 147 := by
  have : ∀ m, m ≤ 36 → 0 ≤ hiP m ∧ hiP m ≤ 147 := by decide +kernel
  exact this n h
theorem hiS_size (n : Nat) : (hiS n).size = n := by simp [ByteArray.size, allL_len]
theorem loS_size (n : Nat) : (loS n).size = n := by simp [ByteArray.size, allL_len]
theorem hi_pt {n : Nat} (h : n ≤ 36) : ptO (hiS n) = true ∧ ptR (hiS n) = hiP n := by
  have h1 : ptO (hiS n) = true := by unfold ptO; rw [hiS_size]; simp [h, allL_dig (.inl rfl) h]
  exact ⟨h1, by unfold ptR; rw [h1]; simp [hiP]⟩
theorem lo_pt {n : Nat} (h : n ≤ 36) : ptO (loS n) = true ∧ ptR (loS n) = loP n := by
  have h1 : ptO (loS n) = true := by unfold ptO; rw [loS_size]; simp [h, allL_dig (.inr rfl) h]
  exact ⟨h1, by unfold ptR; rw [h1]; simp [loP]⟩
theorem hiPts_any (n : Nat) (h : n ≤ 36) (w : World) : Calls Tryd.prog 72 #[.string (hiS n)] w fun e w' => e = .returned (.tuple #[.int .i64 (hiP n), .bool true]) ∧ Below w.heap.size w w' := by
  have := pointsOf_any (hiS n) w
  rw [(hi_pt h).1, (hi_pt h).2] at this; exact this
theorem loPts_any (n : Nat) (h : n ≤ 36) (w : World) : Calls Tryd.prog 72 #[.string (loS n)] w fun e w' => e = .returned (.tuple #[.int .i64 (loP n), .bool true]) ∧ Below w.heap.size w w' := by
  have := pointsOf_any (loS n) w
  rw [(lo_pt h).1, (lo_pt h).2] at this; exact this
theorem hiSum_any (n : Nat) (h : n ≤ 36) (w : World) : Calls Tryd.prog 69 #[.string (hiS n)] w fun e w' => e = .returned (.int .i64 (hiP n)) ∧ w = w' := by
  have := frPoints_any (hiS n) (by simpa using allL_dig (.inl rfl) h) (by rw [hiS_size]; omega) w
  simpa [hiP] using this
theorem loSum_any (n : Nat) (h : n ≤ 36) (w : World) : Calls Tryd.prog 69 #[.string (loS n)] w fun e w' => e = .returned (.int .i64 (loP n)) ∧ w = w' := by
  have := frPoints_any (loS n) (by simpa using allL_dig (.inr rfl) h) (by rw [loS_size]; omega) w
  simpa [loP] using this
theorem hiAll_any (n : Nat) (h : n ≤ 36) (w : World) : Calls Tryd.prog 68 #[frV n, .int .u8 55] w fun e w' => e = .returned (.string (hiS n)) ∧ Below w.heap.size w w' := frAll_any 55 (.inl rfl) n h w
theorem loAll_any (n : Nat) (h : n ≤ 36) (w : World) : Calls Tryd.prog 68 #[frV n, .int .u8 50] w fun e w' => e = .returned (.string (loS n)) ∧ Below w.heap.size w w' := frAll_any 50 (.inr rfl) n h w

set_option maxHeartbeats 800000 in
theorem highest_bad (r : Int) (c : Bool) (l : Int) (hg : frG r c l = false) (w : World) :
    Calls Tryd.prog 30 #[frW r c l] w fun e w' => e = .returned (.tuple #[.string ⟨#[]⟩, .int .i64 0, .bool false]) ∧ Below w.heap.size w w' := by
  have H := Lib.hid hg; clear hg
  go_enter Tryd.func30, Tryd.ntmps30
  go_wp2_with fail
  refine (isFrame_any _ _ _ _).mono ?_; rintro e w1 ⟨rfl, b1⟩
  rw [H.out]
  obtain ⟨c1, f1⟩ := bcell b1; have z1 : w.heap.size < w1.heap.size := (by have := b1.size; (try simp at this); omega)
  go_wp2_with fail
  refine bodyPost_ret (v := .tuple #[.string ⟨#[]⟩, .int .i64 0, .bool false]) (by simp [results, Tryd.results30, go_sem]) rfl ⟨rfl, ?_⟩
  (repeat (first | exact Below.refl _ _ | exact ‹Below _ _ _› | refine Below.drew ?_ | refine Below.alloc ?_ (by first | omega | (simp; done) | (simp; omega)) _ | refine Below.setCell ?_ (by first | omega | (simp; done) | (simp; omega)) _ | refine Below.trans ?_ (Below.mono ‹Below _ _ _› (by first | omega | (simp; done) | (simp; omega)))))

set_option maxHeartbeats 800000 in
theorem highest_n (n : Nat) (hn : n ≤ 36) (w : World) :
    Calls Tryd.prog 30 #[frV n] w fun e w' => e = .returned (.tuple #[.string (hiS n), .int .i64 (hiP n), .bool true]) ∧ Below w.heap.size w w' := by
  have H := Lib.hid (frG_of hn)
  have hp := hiPts_any n hn
  have ha : ∀ w : World, Calls Tryd.prog 70 #[frV n, .func (.func 71) #[] #[]] w fun e w' => e = .returned (.string (hiS n)) ∧ Below w.heap.size w w' := potHigh_any n hn
  have HP := Lib.hid (And.intro hp ha); clear hp ha
  generalize hiS n = S at *
  go_enter Tryd.func30, Tryd.ntmps30
  go_wp2_with fail
  refine (isFrame_any _ _ _ _).mono ?_; rintro e w1 ⟨rfl, b1⟩
  rw [H.out]
  obtain ⟨c1, f1⟩ := bcell b1; have z1 : w.heap.size < w1.heap.size := (by have := b1.size; (try simp at this); omega)
  go_wp2_with fail
  refine (HP.out.2 _).mono ?_; rintro e w2 ⟨rfl, b2⟩
  go_wp2_with fail
  refine (HP.out.1 _).mono ?_; rintro e w3 ⟨rfl, b3⟩
  go_wp2_with fail
  refine bodyPost_ret (v := .tuple #[.string S, .int .i64 (hiP n), .bool true]) (by simp [results, Tryd.results30, go_sem]) rfl ⟨rfl, ?_⟩
  have sz_b1 := b1.size; (try simp at sz_b1); have sz_b2 := b2.size; (try simp at sz_b2); have sz_b3 := b3.size; (try simp at sz_b3)
  (repeat (first | exact Below.refl _ _ | exact ‹Below _ _ _› | refine Below.drew ?_ | refine Below.alloc ?_ (by first | omega | (simp; done) | (simp; omega)) _ | refine Below.setCell ?_ (by first | omega | (simp; done) | (simp; omega)) _ | refine Below.trans ?_ (Below.mono ‹Below _ _ _› (by first | omega | (simp; done) | (simp; omega)))))

set_option maxHeartbeats 800000 in
theorem pointsLeft_bad (r : Int) (c : Bool) (l : Int) (hg : frG r c l = false) (w : World) :
    Calls Tryd.prog 34 #[frW r c l] w fun e w' => e = .returned (.tuple #[.int .i64 0, .bool false]) ∧ Below w.heap.size w w' := by
  have HC := Lib.hid (highest_bad r c l hg); clear hg
  go_enter Tryd.func34, Tryd.ntmps34
  go_wp2_with fail
  refine (HC.out _).mono ?_; rintro e w1 ⟨rfl, b1⟩
  go_wp2_with fail
  refine bodyPost_ret (v := .tuple #[.int .i64 0, .bool false]) (by simp [results, Tryd.results34, go_sem]) rfl ⟨rfl, ?_⟩
  have sz_b1 := b1.size; (try simp at sz_b1)
  (repeat (first | exact Below.refl _ _ | exact ‹Below _ _ _› | refine Below.drew ?_ | refine Below.alloc ?_ (by first | omega | (simp; done) | (simp; omega)) _ | refine Below.setCell ?_ (by first | omega | (simp; done) | (simp; omega)) _ | refine Below.trans ?_ (Below.mono ‹Below _ _ _› (by first | omega | (simp; done) | (simp; omega)))))

set_option maxHeartbeats 800000 in
theorem pointsLeft_n (n : Nat) (hn : n ≤ 36) (w : World) :
    Calls Tryd.prog 34 #[frV n] w fun e w' => e = .returned (.tuple #[.int .i64 (hiP n), .bool true]) ∧ Below w.heap.size w w' := by
  have HC := Lib.hid (highest_n n hn)
  go_enter Tryd.func34, Tryd.ntmps34
  go_wp2_with fail
  refine (HC.out _).mono ?_; rintro e w1 ⟨rfl, b1⟩
  go_wp2_with fail
  refine bodyPost_ret (v := .tuple #[.int .i64 (hiP n), .bool true]) (by simp [results, Tryd.results34, go_sem]) rfl ⟨rfl, ?_⟩
  have sz_b1 := b1.size; (try simp at sz_b1)
  (repeat (first | exact Below.refl _ _ | exact ‹Below _ _ _› | refine Below.drew ?_ | refine Below.alloc ?_ (by first | omega | (simp; done) | (simp; omega)) _ | refine Below.setCell ?_ (by first | omega | (simp; done) | (simp; omega)) _ | refine Below.trans ?_ (Below.mono ‹Below _ _ _› (by first | omega | (simp; done) | (simp; omega)))))

end Go.Proofs.YtlehhkijigglgaaDoor
