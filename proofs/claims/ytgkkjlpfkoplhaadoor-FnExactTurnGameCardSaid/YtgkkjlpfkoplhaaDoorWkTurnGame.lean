/- What the exact law of TurnGame does, step by step. -/
import Derived.Test.YtgkkjlpfkoplhaaDoorTgBoth
namespace Go.Proofs.YtgkkjlpfkoplhaaDoor.ExTurnGame
open Go.RowKit
set_option linter.unusedVariables false
set_option linter.unusedSimpArgs false

set_option maxHeartbeats 400000 in
theorem law_long (a : Option Addr) (n c : Nat) (x0 : ByteArray) (w : World) (hl : (1048576 : Int) < (n : Int)) :
    Calls Tryd.prog 4 #[.slice a n c, .string x0] w fun e w' => e = .returned (.bool true) ∧ Below w.heap.size w w' := by
  go_enter Tryd.func4, Tryd.ntmps4
  go_wp2
  go_ret
  exact ⟨rfl, Below.refl _ _⟩

set_option maxHeartbeats 400000 in
theorem law_longS0 (a : Option Addr) (n c : Nat) (x0 : ByteArray) (w : World) (hl : (n : Int) ≤ 1048576) (hs : (1048576 : Int) < (x0.size : Int)) :
    Calls Tryd.prog 4 #[.slice a n c, .string x0] w fun e w' => e = .returned (.bool true) ∧ Below w.heap.size w w' := by
  go_enter Tryd.func4, Tryd.ntmps4
  go_wp2
  go_ret
  exact ⟨rfl, Below.refl _ _⟩

set_option maxHeartbeats 1600000 in
theorem law_of (a : Option Addr) (c : Nat) (ks : List Int) (x0 : ByteArray) (t0 : ByteArray) (o1 : Bool) (hs : (∀ (g : Nat) (w : World), Reads w (some ⟨g, 0, none⟩) (ints ks) → Calls Tryd.prog 11 #[.slice (some ⟨g, 0, none⟩) ks.length ks.length, .string x0] w fun e w' => e = .returned (.tuple #[.string t0, .bool o1]) ∧ Below w.heap.size w w')) (hi : (∀ (g : Nat) (w : World), Reads w (some ⟨g, 0, none⟩) (ints ks) → Calls Tryd.prog 13 #[.slice (some ⟨g, 0, none⟩) ks.length ks.length, .string x0] w fun e w' => e = .returned (.tuple #[.string t0, .bool o1]) ∧ Below w.heap.size w w')) (w : World) (hl : (ks.length : Int) ≤ 1048576) (hs0 : (x0.size : Int) ≤ 1048576) (h : Reads w a (ints ks)) :
    Calls Tryd.prog 4 #[.slice a ks.length c, .string x0] w fun e w' => e = .returned (.bool true) ∧ Below w.heap.size w w' := by
  obtain ⟨V⟩ := t0
  have HS := Lib.hid hs; clear hs
  have HI := Lib.hid hi; clear hi
  have HR := Lib.hid h; clear h
  have q0 : (V.toList != V.toList) = false := by simp
  have q1 : (o1 != o1) = false := by simp
  go_enter Tryd.func4, Tryd.ntmps4
  go_wp2_with fail
  refine (toIntS_any ks _ _ _ hl HR.out).mono ?_; rintro e w1 ⟨g1, rfl, -, r1, b1⟩
  have R1 := Lib.hid (And.intro r1 b1); clear r1 b1
  go_wp2_with fail
  refine (HS.out _ _ R1.out.1).mono ?_; rintro e w2 ⟨rfl, b2⟩
  have B2 := Lib.hid (R1.out.2.trans (b2.mono R1.out.2.size)); clear b2
  go_wp2_with fail
  refine (toIntS_any ks _ _ _ hl (HR.out.old B2.out)).mono ?_; rintro e w3 ⟨g3, rfl, -, r3, b3⟩
  have B3 := Lib.hid (B2.out.trans (b3.mono B2.out.size))
  have R3 := Lib.hid r3; clear r3 b3
  go_wp2_with fail
  refine (HI.out _ _ R3.out).mono ?_; rintro e w4 ⟨rfl, b4⟩
  have B4 := Lib.hid (B3.out.trans (b4.mono B3.out.size))
  have R4 := Lib.hid (R3.out.old b4); clear b4
  go_wp2_with fail
  refine (toIntS_any ks _ _ _ hl (HR.out.old B4.out)).mono ?_; rintro e w5 ⟨g5, rfl, -, r5, b5⟩
  have B5 := Lib.hid (B4.out.trans (b5.mono B4.out.size))
  have R5 := Lib.hid (And.intro (R4.out.old b5) r5); clear r5 b5
  go_wp2_with fail
  refine (eqIntS_same ks _ _ _ hl R5.out.1 R5.out.2).mono ?_; rintro e w6 ⟨rfl, b6⟩
  have B6 := Lib.hid (B5.out.trans (b6.mono B5.out.size)); clear b6
  go_wp2_with fail
  go_ret
  exact ⟨rfl, B6.out⟩

/-- The model and the program hand back the same. -/
theorem agree (ks : List Int) (x0 : ByteArray) (hl : (ks.length : Int) ≤ 1048576) (hs0 : (x0.size : Int) ≤ 1048576) :
    ∃ (t0 : ByteArray) (o1 : Bool), (∀ (g : Nat) (w : World), Reads w (some ⟨g, 0, none⟩) (ints ks) → Calls Tryd.prog 11 #[.slice (some ⟨g, 0, none⟩) ks.length ks.length, .string x0] w fun e w' => e = .returned (.tuple #[.string t0, .bool o1]) ∧ Below w.heap.size w w') ∧ (∀ (g : Nat) (w : World), Reads w (some ⟨g, 0, none⟩) (ints ks) → Calls Tryd.prog 13 #[.slice (some ⟨g, 0, none⟩) ks.length ks.length, .string x0] w fun e w' => e = .returned (.tuple #[.string t0, .bool o1]) ∧ Below w.heap.size w w') := by
  refine ⟨tgV (playG ks x0.data.toList) x0, (playG ks x0.data.toList).isSome, fun g w h => specTurnGame_any ks x0 _ _ w (by omega) hs0 h, fun g w h => implTurnGame_any ks x0 _ _ w (by omega) hs0 h⟩

theorem walk (a : Option Addr) (n c : Nat) (ks : List Int) (x0 : ByteArray) (w : World) (wf : (ks.length = n ∧ Reads w a (ints ks)) ∧ (n : Int) ≤ 9223372036854775807) (hd : TurnDoor w) :
    Calls Tryd.prog 4 #[.slice a n c, .string x0] w fun e w' => e = .returned (.bool true) ∧ Below w.heap.size w w' := by
  obtain ⟨⟨rfl, hr⟩, -⟩ := wf
  by_cases hl : (1048576 : Int) < (ks.length : Int)
  · exact law_long a _ c x0 w hl
  · have hl' : (ks.length : Int) ≤ 1048576 := by omega
    by_cases hs0' : (1048576 : Int) < (x0.size : Int)
    · exact law_longS0 a _ c x0 w hl' hs0'
    have hs0 : (x0.size : Int) ≤ 1048576 := by omega
    obtain ⟨t0, o1, hs, hi⟩ := agree ks x0 hl' hs0
    exact law_of a c ks x0 t0 o1 hs hi w hl' hs0 hr
end Go.Proofs.YtgkkjlpfkoplhaaDoor.ExTurnGame
