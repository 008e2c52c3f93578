/- What the exact law of NotReached does, step by step. -/
import Derived.Test.YthlkndloggmehaaGoOut
namespace Go.Proofs.Ythlkndloggmehaa.ExNotReached
open Go.RowKit
set_option linter.unusedVariables false
set_option linter.unusedSimpArgs false

set_option maxHeartbeats 400000 in
theorem law_long (a : Option Addr) (n c : Nat) (x0 : Int) (w : World) (hl : (1048576 : Int) < (n : Int)) :
    Calls Try.prog 19 #[.slice a n c, .int .i64 x0] w fun e w' => e = .returned (.bool true) ∧ Below w.heap.size w w' := by
  go_enter Try.func19, Try.ntmps19
  go_wp2
  go_ret
  exact ⟨rfl, Below.refl _ _⟩

theorem eq_same (L : List Int) (a a' : Option Addr) (c c' : Nat) (w : World) (hl : (L.length : Int) ≤ 1048576) (h : Reads w a (ints L)) (h' : Reads w a' (ints L)) :
    Calls Try.prog 59 #[.slice a L.length c, .slice a' L.length c'] w fun e w' => e = .returned (.bool true) ∧ Below w.heap.size w w' := by
  have := eqIntS_any L L a a' c c' w (by omega) (by omega) h h'
  rw [show SameB L L = true from by simp [SameB]] at this
  exact this

set_option maxHeartbeats 3200000 in
theorem law_of (a : Option Addr) (c : Nat) (ks : List Int) (x0 : Int) (L : List Int) (o : Bool) (hL : (L.length : Int) ≤ 1000) (hs : (∀ (g : Nat) (w : World), Reads w (some ⟨g, 0, none⟩) (ints ks) → Calls Try.prog 56 #[.slice (some ⟨g, 0, none⟩) ks.length ks.length, .int .i64 x0] w fun e w' => RowR L o w e w')) (hi : (∀ (g : Nat) (w : World), Reads w (some ⟨g, 0, none⟩) (ints ks) → Calls Try.prog 58 #[.slice (some ⟨g, 0, none⟩) ks.length ks.length, .int .i64 x0] w fun e w' => RowR L o w e w')) (w : World) (hl : (ks.length : Int) ≤ 1048576) (h : Reads w a (ints ks)) :
    Calls Try.prog 19 #[.slice a ks.length c, .int .i64 x0] w fun e w' => e = .returned (.bool true) ∧ Below w.heap.size w w' := by
  have HS := Lib.hid hs; clear hs
  have HI := Lib.hid hi; clear hi
  have HR := Lib.hid h; clear h
  have q1 : (o != o) = false := by simp
  go_enter Try.func19, Try.ntmps19
  go_wp2_with fail
  refine (toIntS_any ks _ _ _ hl HR.out).mono ?_; rintro e w1 ⟨g1, rfl, -, r1, b1⟩
  have R1 := Lib.hid (And.intro r1 b1); clear r1 b1
  go_wp2_with fail
  refine (HS.out _ _ R1.out.1).mono ?_; rintro e w2 ⟨v2, rfl, o2, b2⟩
  obtain ⟨a2, c2, rfl, r2, -, -, n2⟩ := Reads.own o2
  have lt2 : ∀ b, blockOf a2 = some b → b < w2.heap.size := fun b e => (owns_ge o2 (own_block.trans e)).2
  have R2 := Lib.hid (And.intro r2 (And.intro lt2 (R1.out.2.trans (b2.mono R1.out.2.size)))); clear r2 lt2 n2 b2 o2
  go_wp2_with fail
  refine (toIntSF_any ks _ _ _ hl (HR.out.old R2.out.2.2)).mono ?_; rintro e w3 ⟨g3, rfl, ge3, f3, b3⟩
  have F3 := Lib.hid (And.intro f3 (And.intro ge3 (R2.out.2.2.trans (b3.mono R2.out.2.2.size))))
  have R23 := Lib.hid (R2.out.1.old b3); clear f3 ge3 b3
  go_wp2_with fail
  refine (HI.out _ _ F3.out.1.reads).mono ?_; rintro e w4 ⟨v4, rfl, o4, b4⟩
  obtain ⟨a4, c4, rfl, r4, -, -, n4⟩ := Reads.own o4
  have H4 := Lib.hid (And.intro o4 (And.intro n4 (F3.out.2.2.trans (b4.mono F3.out.2.2.size))))
  have R34 := Lib.hid (F3.out.1.reads.old b4)
  have W34 := Lib.hid (F3.out.1.writable.keep b4)
  have R24 := Lib.hid (R23.out.old b4); clear o4 n4 b4 R23
  go_wp2_with fail
  refine (eq_same L _ _ _ _ _ (by omega) r4 R24.out).mono ?_; rintro e w5 ⟨rfl, b5⟩
  have B5 := Lib.hid (H4.out.2.2.trans (b5.mono H4.out.2.2.size))
  have O5 := Lib.hid (owns_below H4.out.1 b5)
  have R35 := Lib.hid (R34.out.old b5)
  have W35 := Lib.hid (W34.out.keep b5)
  have R25 := Lib.hid (R24.out.old b5); clear b5 r4 R24 R34 W34
  go_wp2_with fail
  refine (toIntS_any ks _ _ _ hl (HR.out.old B5.out)).mono ?_; rintro e w6 ⟨g6, rfl, -, r6, b6⟩
  have B6 := Lib.hid (B5.out.trans (b6.mono B5.out.size))
  have O6 := Lib.hid (owns_below O5.out b6)
  have R36 := Lib.hid (And.intro (R35.out.old b6) r6)
  have W36 := Lib.hid (W35.out.keep b6)
  have R26 := Lib.hid (R25.out.old b6); clear b6 r6 R25 R35 W35 O5
  go_wp2_with fail
  refine (eqIntS_same ks _ _ _ hl R36.out.1 R36.out.2).mono ?_; rintro e w7 ⟨rfl, b7⟩
  have B7 := Lib.hid (B6.out.trans (b7.mono B6.out.size))
  have O7 := Lib.hid (owns_below O6.out b7)
  have W37 := Lib.hid (W36.out.keep b7)
  have R27 := Lib.hid (R26.out.old b7); clear b7 R26 R36 W36 O6
  go_wp2_with fail
  refine (markIntS_any ks.length _ _ 1 _ (by omega) (by omega) (by omega) W37.out).mono ?_; rintro e w8 ⟨rfl, hw8⟩
  have hlt3 : g3 < w3.heap.size := F3.out.1.1
  have ne4 : ∀ b, blockOf a4 = some b → g3 ≠ b := fun b e => by have := H4.out.2.1 b e; omega
  have ne2 : ∀ b, blockOf a2 = some b → g3 ≠ b := fun b e => by have := R2.out.2.1 b e; have := F3.out.2.1; omega
  have bb3 : w.heap.size ≤ g3 := by have := R2.out.2.2.size; have := F3.out.2.1; omega
  have B8 : Hid (Below w.heap.size w w8) := by rw [hw8]; exact Below.writeAt B7.out (fun b e => by simp [blockOf] at e; omega) _
  have O8 : Hid (w8.ownsRow w3.heap.size 3 1 (.slice a4 L.length c4) L.length (ints L)) := by
    rw [hw8]; exact owns_heap O7.out (fun k e => write_heap _ _ _ _ (by rw [own_block] at e; have := ne4 k e; simp [blockOf]; exact this))
  have R28 : Hid (Reads w8 a2 (ints L)) := by
    rw [hw8]; exact R27.out.write_other (fun b e => by have := ne2 b e; simp [blockOf]; exact this) _
  clear hw8 B7 O7 W37 R27
  have k1 : ((1 : Int) + (ks.length : Int) < 0) = False := by simp; omega
  have HH := Lib.hid (And.intro hlt3 (And.intro ne4 (And.intro ne2 bb3))); clear hlt3 ne4 ne2 bb3
  go_wp2_with fail
  obtain ⟨a4', c4', ev, r48, -, -, -⟩ := Reads.own O8.out
  injection ev with ev1 ev2 ev3
  subst ev1 ev3
  clear ev2
  refine (eq_same L _ _ _ _ _ (by omega) r48 R28.out).mono ?_; rintro e w9 ⟨rfl, b9⟩
  have B9 := Lib.hid (B8.out.trans (b9.mono B8.out.size))
  have O9 := Lib.hid (owns_below O8.out b9)
  have R29 := Lib.hid (R28.out.old b9); clear b9 r48 R28 O8 B8
  go_wp2_with fail
  have wr9 := Writable.own O9.out
  rw [Nat.mul_one] at wr9
  refine (markIntS_any L.length _ _ 1 _ (by omega) (by omega) (by omega) wr9).mono ?_; rintro e w10 ⟨rfl, hw10⟩
  have lt9 : ∀ b, blockOf a4 = some b → b < w9.heap.size := fun b e => (owns_ge O9.out (own_block.trans e)).2
  have B10 : Hid (Below w.heap.size w w10) := by rw [hw10]; exact Below.writeAt B9.out (fun b e => by have h1 := H4.out.2.1 b e; have h2 := F3.out.2.2.size; omega) _
  have R4m : Hid (Reads w10 a4 (ints (marks 1 L.length))) := by
    rw [hw10]; exact Reads.written (by rw [ints_len, marks_len]; exact wr9)
  have R210 : Hid (Reads w10 a2 (ints L)) := by
    rw [hw10]; exact R29.out.write_other (fun b e e2 => by have h1 := R2.out.2.1 b e; have h2 := H4.out.2.1 b e2; have := F3.out.1.1; have := F3.out.2.1; omega) _
  clear hw10 wr9 O9 R29 B9 lt9
  have k2 : ((1 : Int) + (L.length : Int) < 0) = False := by simp; omega
  have k3 : ((1 : Int) + (L.length : Int) != 1 + (L.length : Int)) = false := by simp
  go_wp2_with fail
  refine (heldIntS_any L.length _ _ 1 _ (by omega) (by omega) (by omega) R4m.out).mono ?_; rintro e w11 ⟨rfl, rfl⟩
  go_wp2_with fail
  refine (toIntS_any ks _ _ _ hl (HR.out.old B10.out)).mono ?_; rintro e w12 ⟨g12, rfl, -, r12, b12⟩
  have B12 := Lib.hid (B10.out.trans (b12.mono B10.out.size))
  have R12 := Lib.hid (And.intro r12 (And.intro (R4m.out.old b12) (R210.out.old b12))); clear r12 b12 R4m R210
  go_wp2_with fail
  refine (HI.out _ _ R12.out.1).mono ?_; rintro e w13 ⟨v13, rfl, o13, b13⟩
  obtain ⟨a13, c13, rfl, r13, -, -, -⟩ := Reads.own o13
  have B13 := Lib.hid (B12.out.trans (b13.mono B12.out.size))
  have R13 := Lib.hid (And.intro r13 (And.intro (R12.out.2.1.old b13) (R12.out.2.2.old b13))); clear r13 b13 o13
  go_wp2_with fail
  refine (eq_same L _ _ _ _ _ (by omega) R13.out.1 R13.out.2.2).mono ?_; rintro e w14 ⟨rfl, b14⟩
  have B14 := Lib.hid (B13.out.trans (b14.mono B13.out.size))
  have R14 := Lib.hid (R13.out.2.1.old b14); clear b14
  go_wp2_with fail
  refine (heldIntS_any L.length _ _ 1 _ (by omega) (by omega) (by omega) R14.out).mono ?_; rintro e w15 ⟨rfl, rfl⟩
  go_wp2_with fail
  go_ret
  exact ⟨rfl, B14.out⟩

theorem walk (a : Option Addr) (n c : Nat) (ks : List Int) (x0 : Int) (w : World) (wf : (ks.length = n ∧ Reads w a (ints ks)) ∧ (n : Int) ≤ 9223372036854775807) :
    Calls Try.prog 19 #[.slice a n c, .int .i64 x0] w fun e w' => e = .returned (.bool true) ∧ Below w.heap.size w w' := by
  obtain ⟨⟨rfl, hr⟩, -⟩ := wf
  by_cases hl : (1048576 : Int) < (ks.length : Int)
  · exact law_long a _ c x0 w hl
  · have hl' : (ks.length : Int) ≤ 1048576 := by omega
    have hn := askR_len ks x0
    exact law_of a c ks x0 _ _ (by omega) (fun g w h => specNot_row ks x0 _ _ w (by omega) h) (fun g w h => implNot_row ks x0 _ _ w (by omega) h) w hl' hr
end Go.Proofs.Ythlkndloggmehaa.ExNotReached
