/- What the exact law of ScoresOn does, step by step. -/
import Derived.Test.YthbhhcpkilckkaaGoOnI
namespace Go.Proofs.Ythbhhcpkilckkaa.ExScoresOn
open Go.RowKit
set_option linter.unusedVariables false
set_option linter.unusedSimpArgs false

set_option maxHeartbeats 400000 in
theorem law_long (a : Option Addr) (n c : Nat) (x0 : ByteArray) (w : World) (hl : (1048576 : Int) < (n : Int)) :
    Calls Try.prog 13 #[.slice a n c, .string x0] w fun e w' => e = .returned (.bool true) ∧ Below w.heap.size w w' := by
  go_enter Try.func13, Try.ntmps13
  go_wp2
  go_ret
  exact ⟨rfl, Below.refl _ _⟩

set_option maxHeartbeats 400000 in
theorem law_longS0 (a : Option Addr) (n c : Nat) (x0 : ByteArray) (w : World) (hl : (n : Int) ≤ 1048576) (hs : (1048576 : Int) < (x0.size : Int)) :
    Calls Try.prog 13 #[.slice a n c, .string x0] w fun e w' => e = .returned (.bool true) ∧ Below w.heap.size w w' := by
  go_enter Try.func13, Try.ntmps13
  go_wp2
  go_ret
  exact ⟨rfl, Below.refl _ _⟩

set_option maxHeartbeats 3200000 in
theorem law_of (a : Option Addr) (c : Nat) (rolls : List Int) (f : ByteArray) (D : List (List Int)) (o : Bool) (hD : SmallD D) (hs3 : ∀ j, j < D.length → (D.getD j []).length ≤ 3) (hs : (∀ (g : Nat) (w : World), Reads w (some ⟨g, 0, none⟩) (ints rolls) → Calls Try.prog 44 #[.slice (some ⟨g, 0, none⟩) rolls.length rolls.length, .string f] w fun e w' => PrR D o w e w')) (hi : (∀ (g : Nat) (w : World), Reads w (some ⟨g, 0, none⟩) (ints rolls) → Calls Try.prog 45 #[.slice (some ⟨g, 0, none⟩) rolls.length rolls.length, .string f] w fun e w' => PrR D o w e w')) (w : World) (hl : (rolls.length : Int) ≤ 1048576) (hsz : (f.size : Int) ≤ 1048576) (h : Reads w a (ints rolls)) :
    Calls Try.prog 13 #[.slice a rolls.length c, .string f] w fun e w' => e = .returned (.bool true) ∧ Below w.heap.size w w' := by
  have HS := Lib.hid hs; clear hs
  have HI := Lib.hid hi; clear hi
  have HR := Lib.hid h; clear h
  have HD := Lib.hid (And.intro hD hs3); clear hD hs3
  have q1 : (o != o) = false := by simp
  go_enter Try.func13, Try.ntmps13
  go_wp2_with fail
  refine (toIntS_any rolls _ _ _ hl HR.out).mono ?_; rintro e w1 ⟨g1, rfl, -, r1, b1⟩
  have R1 := Lib.hid (And.intro r1 b1); clear r1 b1
  go_wp2_with fail
  refine (HS.out _ _ R1.out.1).mono ?_; rintro e w2 ⟨v2, rfl, fc2, b2⟩
  have rd2 := fc2.rd HD.out.2
  clear fc2
  obtain ⟨a2, c2, rfl⟩ := rd2.slice
  have RD := Lib.hid rd2
  have B2 := Lib.hid (R1.out.2.trans (b2.mono R1.out.2.size)); clear rd2 b2
  go_wp2_with fail
  refine (toIntSF_any rolls _ _ _ hl (HR.out.old B2.out)).mono ?_; rintro e w3 ⟨g3, rfl, ge3, f3, b3⟩
  have F3 := Lib.hid (And.intro f3 (And.intro ge3 b3)); clear f3 ge3 b3
  go_wp2_with fail
  refine (HI.out _ _ F3.out.1.reads).mono ?_; rintro e w4 ⟨v4, rfl, fd4, b4⟩
  obtain ⟨a4, c4, rfl⟩ := fd4.slice
  have C4 := Lib.hid (F3.out.2.2.trans (b4.mono F3.out.2.2.size))
  have R34 := Lib.hid (And.intro (F3.out.1.reads.old b4) (F3.out.1.writable.keep b4))
  have FC4 := Lib.hid fd4; clear fd4 b4
  go_wp2_with fail
  refine (eqSS D HD.out.1 _ _ _ _ _ (FC4.out.rd HD.out.2) (RD.out.keep C4.out)).mono ?_; rintro e w5 ⟨rfl, b5⟩
  have C5 := Lib.hid (C4.out.trans (b5.mono C4.out.size))
  have R35 := Lib.hid (And.intro (R34.out.1.old b5) (R34.out.2.keep b5))
  have FC5 := Lib.hid (FC4.out.keep b5); clear b5 R34 FC4 C4
  go_wp2_with fail
  have B5 := Lib.hid (B2.out.trans (C5.out.mono B2.out.size))
  refine (toIntS_any rolls _ _ _ hl (HR.out.old B5.out)).mono ?_; rintro e w6 ⟨g6, rfl, -, r6, b6⟩
  have C6 := Lib.hid (C5.out.trans (b6.mono C5.out.size))
  have R36 := Lib.hid (And.intro (R35.out.1.old b6) (And.intro (R35.out.2.keep b6) r6))
  have FC6 := Lib.hid (FC5.out.keep b6); clear b6 r6 R35 FC5 C5 B5
  go_wp2_with fail
  refine (eqIntS_same rolls _ _ _ hl R36.out.1 R36.out.2.2).mono ?_; rintro e w7 ⟨rfl, b7⟩
  have C7 := Lib.hid (C6.out.trans (b7.mono C6.out.size))
  have W37 := Lib.hid (R36.out.2.1.keep b7)
  have FC7 := Lib.hid (FC6.out.keep b7); clear b7 R36 FC6 C6
  go_wp2_with fail
  refine (markIntS_any rolls.length _ _ 1 _ (by omega) (by omega) (by omega) W37.out).mono ?_; rintro e w8 ⟨rfl, hw8⟩
  have C8 : Hid (Below w2.heap.size w2 w8) := by rw [hw8]; exact Below.writeAt C7.out (fun b e => by simp [blockOf] at e; have := F3.out.2.1; omega) _
  have FC8 : Hid (FrC w3.heap.size D (.slice a4 D.length c4) w8) := by
    rw [hw8]; exact FC7.out.heap (fun b hb _ => write_heap _ _ _ _ (by have := F3.out.1.1; simp [blockOf]; omega))
  clear hw8 C7 FC7 W37
  have k1 : ((1 : Int) + (rolls.length : Int) < 0) = False := by simp; omega
  go_wp2_with fail
  refine (eqSS D HD.out.1 _ _ _ _ _ (FC8.out.rd HD.out.2) (RD.out.keep C8.out)).mono ?_; rintro e w9 ⟨rfl, b9⟩
  have C9 := Lib.hid (C8.out.trans (b9.mono C8.out.size))
  have FC9 := Lib.hid (FC8.out.keep b9); clear b9 FC8 C8
  go_wp2_with fail
  refine (markSS D HD.out.1 HD.out.2 (B0 := w2.heap.size) F3.out.2.2.size _ _ _ FC9.out).mono ?_; rintro e w10 ⟨rfl, mk, b10⟩
  have C10 := Lib.hid (C9.out.trans b10)
  have MK := Lib.hid mk; clear mk b10 C9 FC9
  have HSS := Lib.hid (fun (w' : World) (hm : MkD D 1 (.slice a4 D.length c4) w') => heldSS D HD.out.1 a4 c4 w' hm)
  have k2 : ((1 : Int) + ((offs D D.length : Nat) : Int) < 0) = False := by simp; omega
  have k3 : ((1 : Int) + ((offs D D.length : Nat) : Int) != 1 + ((offs D D.length : Nat) : Int)) = false := by simp
  generalize offs D D.length = T at *
  go_wp2_with fail
  refine (HSS.out _ MK.out).mono ?_; rintro e w11 ⟨rfl, rfl⟩
  go_wp2_with fail
  have B10 := Lib.hid (B2.out.trans (C10.out.mono B2.out.size))
  refine (toIntS_any rolls _ _ _ hl (HR.out.old B10.out)).mono ?_; rintro e w12 ⟨g12, rfl, -, r12, b12⟩
  have C12 := Lib.hid (C10.out.trans (b12.mono C10.out.size))
  have R12 := Lib.hid (And.intro r12 (MK.out.keep b12)); clear r12 b12 MK C10 B10
  go_wp2_with fail
  refine (HI.out _ _ R12.out.1).mono ?_; rintro e w13 ⟨v13, rfl, fd13, b13⟩
  obtain ⟨a13, c13, rfl⟩ := fd13.slice
  have C13 := Lib.hid (C12.out.trans (b13.mono C12.out.size))
  have R13 := Lib.hid (And.intro fd13 (R12.out.2.keep b13)); clear b13 fd13 R12 C12
  go_wp2_with fail
  refine (eqSS D HD.out.1 _ _ _ _ _ (R13.out.1.rd HD.out.2) (RD.out.keep C13.out)).mono ?_; rintro e w14 ⟨rfl, b14⟩
  have C14 := Lib.hid (C13.out.trans (b14.mono C13.out.size))
  have R14 := Lib.hid (R13.out.2.keep b14); clear b14 R13 C13
  go_wp2_with fail
  refine (HSS.out _ R14.out).mono ?_; rintro e w15 ⟨rfl, rfl⟩
  go_wp2_with fail
  go_ret
  exact ⟨rfl, B2.out.trans (C14.out.mono B2.out.size)⟩

theorem walk (a : Option Addr) (n c : Nat) (ks : List Int) (x0 : ByteArray) (w : World) (wf : (ks.length = n ∧ Reads w a (ints ks)) ∧ (n : Int) ≤ 9223372036854775807) :
    Calls Try.prog 13 #[.slice a n c, .string x0] w fun e w' => e = .returned (.bool true) ∧ Below w.heap.size w w' := by
  obtain ⟨⟨rfl, hr⟩, -⟩ := wf
  by_cases hl : (1048576 : Int) < (ks.length : Int)
  · exact law_long a _ c x0 w hl
  · have hl' : (ks.length : Int) ≤ 1048576 := by omega
    by_cases hs0' : (1048576 : Int) < (x0.size : Int)
    · exact law_longS0 a _ c x0 w hl' hs0'
    have hs0 : (x0.size : Int) ≤ 1048576 := by omega
    obtain ⟨hD, h3⟩ := on_ok ks x0.data.toList
    exact law_of a c ks x0 _ _ hD h3 (fun g w h => specOn_any ks x0 _ _ w (by omega) hs0 h) (fun g w h => implOn_any ks x0 _ _ w (by omega) hs0 h) w hl' hs0 hr
end Go.Proofs.Ythbhhcpkilckkaa.ExScoresOn
