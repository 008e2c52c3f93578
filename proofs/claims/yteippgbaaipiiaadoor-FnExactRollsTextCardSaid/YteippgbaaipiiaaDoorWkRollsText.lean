/- What the exact law of RollsText does, step by step. -/
import Derived.Test.YteippgbaaipiiaaDoorPnBt
import Derived.Test.YteippgbaaipiiaaDoorPnLawT
namespace Go.Proofs.YteippgbaaipiiaaDoor.ExRollsText
open Go.RowKit
set_option linter.unusedVariables false
set_option linter.unusedSimpArgs false

set_option maxHeartbeats 1600000 in
theorem specRollsText_any (f : Int) (rolls : List Int) (a : Option Addr) (c : Nat) (w : World) (hl : (rolls.length : Int) ≤ 1000000000000) (h : Reads w a (ints rolls)) :
    Calls Tryd.prog 5 #[.int .i64 f, .slice a rolls.length c] w fun e w' => e = .returned (.tuple #[.string ⟨(txtV (goodR f rolls)).toArray⟩, .bool (goodR f rolls).isSome]) ∧ Below w.heap.size w w' := by
  have hg := boGood_any f rolls a c w hl h
  cases hq : goodR f rolls with
  | none =>
    rw [hq] at hg
    have HG := Lib.hid hg; clear hg h hq
    go_enter Tryd.func5, Tryd.ntmps5
    go_wp2_with fail
    refine HG.out.mono ?_; rintro e w1 ⟨rfl, b1⟩
    go_wp2_with fail
    refine bodyPost_ret (v := .tuple #[.string ⟨#[]⟩, .bool false]) (by simp [results, Tryd.results5, go_sem]) rfl ⟨rfl, b1⟩
  | some s =>
    rw [hq] at hg
    obtain ⟨F, rfl, h1, h2, hgm, hi, -⟩ := goodR_some hq
    have hp := fun w' (hr : Reads w' a (ints rolls)) => boText_any F h1 h2 rolls s hgm a c w' hl hr
    have HP := Lib.hid hp; clear hp
    have HR := Lib.hid h; clear h
    have HG := Lib.hid hg; clear hg hq hgm hi
    show Calls Tryd.prog 5 #[.int .i64 F, .slice a rolls.length c] w fun e w' => e = .returned (.tuple #[.string ⟨(textG s).toArray⟩, .bool true]) ∧ Below w.heap.size w w'
    generalize textG s = T at *
    go_enter Tryd.func5, Tryd.ntmps5
    go_wp2_with fail
    refine HG.out.mono ?_; rintro e w1 ⟨rfl, b1⟩
    have B1 := Lib.hid b1; clear b1
    go_wp2_with fail
    refine (HP.out _ (HR.out.old B1.out)).mono ?_; rintro e w2 ⟨rfl, b2⟩
    have B2 := Lib.hid (B1.out.trans (b2.mono B1.out.size)); clear b2
    go_wp2_with fail
    refine bodyPost_ret (v := .tuple #[.string ⟨T.toArray⟩, .bool true]) (by simp [results, Tryd.results5, go_sem]) rfl ⟨rfl, B2.out⟩

set_option maxHeartbeats 400000 in
theorem law_long (f : Int) (a : Option Addr) (n c : Nat) (w : World) (hl : (1048576 : Int) < (n : Int)) :
    Calls Tryd.prog 3 #[.int .i64 f, .slice a n c] w fun e w' => e = .returned (.bool true) ∧ Below w.heap.size w w' := by
  go_enter Tryd.func3, Tryd.ntmps3
  go_wp2
  go_ret
  exact ⟨rfl, Below.refl _ _⟩

set_option maxHeartbeats 1600000 in
theorem law_of (f : Int) (a : Option Addr) (c : Nat) (rolls : List Int) (V : ByteArray) (o : Bool) (hs : (∀ (g : Nat) (w : World), Reads w (some ⟨g, 0, none⟩) (ints rolls) → Calls Tryd.prog 5 #[.int .i64 f, .slice (some ⟨g, 0, none⟩) rolls.length rolls.length] w fun e w' => e = .returned (.tuple #[.string V, .bool o]) ∧ Below w.heap.size w w')) (hi : (∀ (g : Nat) (w : World), Reads w (some ⟨g, 0, none⟩) (ints rolls) → Calls Tryd.prog 7 #[.int .i64 f, .slice (some ⟨g, 0, none⟩) rolls.length rolls.length] w fun e w' => e = .returned (.tuple #[.string V, .bool o]) ∧ Below w.heap.size w w')) (w : World) (hl : (rolls.length : Int) ≤ 1048576) (h : Reads w a (ints rolls)) :
    Calls Tryd.prog 3 #[.int .i64 f, .slice a rolls.length c] w fun e w' => e = .returned (.bool true) ∧ Below w.heap.size w w' := by
  have HS := Lib.hid hs; clear hs
  have HI := Lib.hid hi; clear hi
  have HR := Lib.hid h; clear h
  have q0 : (V.toList != V.toList) = false := by simp
  have q2 : (V.toList == V.toList) = true := by simp
  have q1 : (o != o) = false := by simp
  go_enter Tryd.func3, Tryd.ntmps3
  go_wp2_with fail
  refine (toIntS_any rolls _ _ _ hl HR.out).mono ?_; rintro e w1 ⟨g1, rfl, -, r1, b1⟩
  have R1 := Lib.hid (And.intro r1 b1); clear r1 b1
  go_wp2_with fail
  refine (HS.out _ _ R1.out.1).mono ?_; rintro e w2 ⟨rfl, b2⟩
  have B2 := Lib.hid (R1.out.2.trans (b2.mono R1.out.2.size)); clear b2
  go_wp2_with fail
  refine (toIntS_any rolls _ _ _ hl (HR.out.old B2.out)).mono ?_; rintro e w3 ⟨g3, rfl, -, r3, b3⟩
  have B3 := Lib.hid (B2.out.trans (b3.mono B2.out.size))
  have R3 := Lib.hid r3; clear r3 b3
  go_wp2_with fail
  refine (HI.out _ _ R3.out).mono ?_; rintro e w4 ⟨rfl, b4⟩
  have B4 := Lib.hid (B3.out.trans (b4.mono B3.out.size))
  have R4 := Lib.hid (R3.out.old b4); clear b4
  go_wp2_with fail
  refine (toIntS_any rolls _ _ _ hl (HR.out.old B4.out)).mono ?_; rintro e w5 ⟨g5, rfl, -, r5, b5⟩
  have B5 := Lib.hid (B4.out.trans (b5.mono B4.out.size))
  have R5 := Lib.hid (And.intro (R4.out.old b5) r5); clear r5 b5
  go_wp2_with fail
  refine (eqIntS_same rolls _ _ _ hl R5.out.1 R5.out.2).mono ?_; rintro e w6 ⟨rfl, b6⟩
  have B6 := Lib.hid (B5.out.trans (b6.mono B5.out.size)); clear b6
  go_wp2_with fail
  go_ret
  exact ⟨rfl, B6.out⟩

theorem walk (f : Int) (a : Option Addr) (n c : Nat) (rolls : List Int) (w : World) (wf : (rolls.length = n ∧ Reads w a (ints rolls)) ∧ (n : Int) ≤ 9223372036854775807) :
    Calls Tryd.prog 3 #[.int .i64 f, .slice a n c] w fun e w' => e = .returned (.bool true) ∧ Below w.heap.size w w' := by
  obtain ⟨⟨rfl, hr⟩, -⟩ := wf
  by_cases hl : (1048576 : Int) < (rolls.length : Int)
  · exact law_long f a _ c w hl
  · have hl' : (rolls.length : Int) ≤ 1048576 := by omega
    exact law_of f a c rolls _ _ (fun g w h => specRollsText_any f rolls _ _ w (by omega) h) (fun g w h => implRollsText_any f rolls _ _ w (by omega) h) w hl' hr
end Go.Proofs.YteippgbaaipiiaaDoor.ExRollsText
