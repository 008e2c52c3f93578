/-
  Puzzles: what points tell for a clue: the model.
-/
import Derived.Test.YtbgdngfjeikheaaDoorPzTell
import Derived.Test.YtbgdngfjeikheaaDoorPzGood
import Derived.Test.YtbgdngfjeikheaaDoorRaWin
namespace Go.Proofs.YtbgdngfjeikheaaDoor
open Go.RowKit
set_option linter.unusedVariables false
set_option linter.unusedSimpArgs false

theorem cntA_snoc (l : List UInt8) (c : UInt8) : cntA (l ++ [c]) = cntA l + upA c := by
  unfold cntA upA
  rw [List.count_append, List.count_singleton]
  by_cases h : c = 97 <;> simp [h]
theorem race_good {a : Int} {s : ByteArray} (ha : 1 ≤ a ∧ a ≤ 8) (h : hidB s = true) : isP a 1 s = playL a 1 0 0 s.data.toList := by
  have h1 : goodR a 1 = true := goodR_bd.2 (by omega)
  unfold isP
  rw [h1, hidB_pts h]; rfl
theorem race_bd (a : Int) (s : ByteArray) : 0 ≤ raceC a s ∧ raceC a s ≤ 3 := by
  unfold raceC wonN
  repeat' split
  all_goals simp

set_option maxHeartbeats 1600000 in
theorem pzRace_any (a : Int) (s : ByteArray) (w : World) (ha : 1 ≤ a ∧ a ≤ 8) (h : hidB s = true) :
    Calls Tryd.prog 144 #[.int .i64 a, .string s] w fun e w' => e = .returned (.int .i64 (raceC a s)) ∧ Below w.heap.size w w' := by
  have hsz := (hidB_iff.1 h).1
  have hcn := fun w => raCount_any a 1 s w (by omega)
  have hp := race_good ha h
  have hok := cntS_ok s.data.toList a 1 0 0
  cases hq : playL a 1 0 0 s.data.toList
  · have hr : raceC a s = 3 := by unfold raceC; rw [hp, hq]; rfl
    rw [hr]
    rw [hq] at hok
    generalize cntS a 1 0 0 s.data.toList = X at *
    obtain ⟨x, y, o⟩ := X
    simp only at hok
    subst hok
    unfold cntV at hcn
    have HC := Lib.hid hcn; clear hcn hr hq hp
    go_enter Tryd.func144, Tryd.ntmps144
    go_wp2_with fail
    refine (HC.out _).mono ?_; rintro e w1 ⟨rfl, b1⟩
    have HB := Lib.hid b1; clear b1
    go_wp2_with fail
    go_ret
    exact ⟨rfl, HB.out⟩
  · have hcf := cntS_full s.data.toList a 1 0 0 (hidB_iff.1 h).2 hq
    rw [hcf, Int.zero_add, Int.zero_add] at hcn
    have hbd := cnt_all s.data.toList
    have h0 := cntA_bd s.data.toList
    have h1 := cntB_bd s.data.toList
    rw [len_list] at hbd h0 h1
    have hr : raceC a s = (wonN a 1 (cntA s.data.toList) (cntB s.data.toList) : Nat) := by unfold raceC; rw [hp, hq]; rfl
    rw [hr]
    unfold cntV at hcn
    have HC := Lib.hid hcn; clear hcn hr hq hp hok hcf
    generalize cntA s.data.toList = x at *
    generalize cntB s.data.toList = y at *
    have hrw := fun w => raWon_any a 1 x y w h0.1 (by omega) h1.1 (by omega)
    have HRW := Lib.hid hrw; clear hrw
    rcases wonI_eq a 1 x y with ⟨h, g⟩ | ⟨h, g⟩ | ⟨h, g⟩
    all_goals
      rw [g] at HRW
      rw [h]
      clear h g
      go_enter Tryd.func144, Tryd.ntmps144
      go_wp2_with fail
      refine (HC.out _).mono ?_; rintro e w1 ⟨rfl, b1⟩
      have HB1 := Lib.hid b1; clear b1
      go_wp2_with fail
      refine (HRW.out _).mono ?_; rintro e w2 ⟨rfl, b2⟩
      have HB2 := Lib.hid (HB1.out.trans (b2.mono HB1.out.size)); clear b2
      go_wp2_with (refine (HRW.out _).mono ?_; rintro e w3 ⟨rfl, b3⟩; have HB3 := Lib.hid (HB2.out.trans (b3.mono HB2.out.size)); clear b3)
      go_ret
      first
        | exact ⟨rfl, HB2.out⟩
        | exact ⟨rfl, HB3.out⟩
end Go.Proofs.YtbgdngfjeikheaaDoor
