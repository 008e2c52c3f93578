/- What the exact law of PlayLeg does, step by step. -/
import Derived.Test.YtaplkciomagmiaaPlLeg
namespace Go.Proofs.Ytaplkciomagmiaa.ExPlayLeg
open Go.RowKit
set_option linter.unusedVariables false
set_option linter.unusedSimpArgs false

theorem own_block {a : Option Addr} {n c : Nat} : (Value.slice a n c).ownBlock = blockOf a := by
  match a with
  | none => rfl
  | some ⟨_, _, _⟩ => rfl
theorem owns_heap {w w' : World} {T base n size : Nat} {v : Value} {xs : List Value} (ho : w.ownsRow base T size v n xs) (hs : ∀ k, v.ownBlock = some k → w'.heap[k]? = w.heap[k]?) : w'.ownsRow base T size v n xs := by
  obtain ⟨hl, ⟨rfl, h2⟩ | ⟨g', cap, cur, rfl, hb, hh, r⟩⟩ := ho
  · exact ⟨hl, .inl ⟨rfl, h2⟩⟩
  · refine ⟨hl, .inr ⟨g', cap, cur, rfl, hb, ?_, r⟩⟩
    rw [hs g' (by simp [Value.ownBlock])]; exact hh
theorem reads_same {w w' : World} {a : Option Addr} {cs : List Value} (h : Reads w a cs) (hsz : w'.heap.size = w.heap.size) (hb : ∀ b, blockOf a = some b → w'.heap[b]? = w.heap[b]?) : Reads w' a cs := by
  rcases h with h | ⟨b, off, rfl, hlt, hc⟩
  · exact .inl h
  · exact .inr ⟨b, off, rfl, by rw [hsz]; exact hlt, fun j hj => by rw [World.cell?_of_block (w := w) (a := ⟨b, off + j, none⟩) (hb b rfl)]; exact hc j hj⟩
theorem eq_same (L : List Int) (a a' : Option Addr) (c c' : Nat) (w : World) (hl : (L.length : Int) ≤ 1048576) (h : Reads w a (ints L)) (h' : Reads w a' (ints L)) :
    Calls Try.prog 19 #[.slice a L.length c, .slice a' L.length c'] w fun e w' => e = .returned (.bool true) ∧ Below w.heap.size w w' := by
  have := eqIntS_any L L a a' c c' w (by omega) (by omega) h h'
  rw [show SameB L L = true from by simp [SameB]] at this
  exact this

set_option maxHeartbeats 800000 in
theorem law_long (left : Int) (a : Option Addr) (c : Nat) (l : DL) (w : World) (hz : szSS 1048576 l = -1) (hn : (l.length : Int) ≤ 9223372036854775807) (hm : ∀ s ∈ l, (s.length : Int) ≤ 9223372036854775807) (h : SSR w a l) :
    Calls Try.prog 12 #[.int .i64 left, .slice a l.length c] w fun e w' => e = .returned (.bool true) ∧ Below w.heap.size w w' := by
  have HZ := Lib.hid (szDartSS_any l a c 1048576 w hn hm (by omega) (by omega) h)
  rw [hz] at HZ
  go_enter Try.func12, Try.ntmps12
  go_wp2_with fail
  refine HZ.out.mono ?_; rintro e w1 ⟨rfl, rfl⟩
  go_wp2_with fail
  go_ret
  exact ⟨rfl, Below.refl _ _⟩

set_option maxHeartbeats 6400000 in
theorem law_of (left : Int) (a : Option Addr) (c : Nat) (l : DL) (L : List Int) (o : Bool) (hL : (L.length : Int) ≤ 1000)
    (hs : ∀ (g : Nat) (w : World), SSR w (some ⟨g, 0, none⟩) l → Calls Try.prog 38 #[.int .i64 left, .slice (some ⟨g, 0, none⟩) l.length l.length] w fun e w' => RowR L o w e w')
    (hi : ∀ (g : Nat) (w : World), SSR w (some ⟨g, 0, none⟩) l → Calls Try.prog 40 #[.int .i64 left, .slice (some ⟨g, 0, none⟩) l.length l.length] w fun e w' => RowR L o w e w')
    (w : World) (hl : (l.length : Int) ≤ 1048576) (hm : ∀ s ∈ l, (s.length : Int) ≤ 1048576) (hz : 0 ≤ szSS 1048576 l) (h : SSR w a l) :
    Calls Try.prog 12 #[.int .i64 left, .slice a l.length c] w fun e w' => e = .returned (.bool true) ∧ Below w.heap.size w w' := by
  have HS := Lib.hid hs; clear hs
  have HI := Lib.hid hi; clear hi
  have HT := Lib.hid (szSS_sum l hz)
  have HZ := Lib.hid (szDartSS_any l a c 1048576 w (by omega) (fun s q => by have := hm s q; omega) (by omega) (by omega) h)
  have HR := Lib.hid h; clear h
  have HMM := Lib.hid hm; clear hm
  have q1 : (o != o) = false := by simp
  generalize szSS 1048576 l = Z at *
  have z1 : decide (Z < 0) = false := by simp; omega
  have z2 : ¬ Z < 0 := by omega
  go_enter Try.func12, Try.ntmps12
  go_wp2_with fail
  refine HZ.out.mono ?_; rintro e w1 ⟨rfl, hw⟩
  have hw2 := hw.symm; subst hw2; clear hw
  clear HZ
  go_wp2_with fail
  refine (toDartSS_any l a c _ hl HMM.out HR.out).mono ?_; rintro e wB ⟨g1, f1, rfl, cp1, bB⟩
  have BB := Lib.hid bB
  have R1 := Lib.hid cp1.ssr; clear cp1 bB
  go_wp2_with fail
  refine (HS.out _ _ R1.out).mono ?_; rintro e w2 ⟨v2, rfl, o2, b2⟩
  obtain ⟨a2, c2, rfl, r2, -, -, n2⟩ := Reads.own o2
  have lt2 : ∀ b, blockOf a2 = some b → b < w2.heap.size := fun b e => (owns_blockL o2 b (own_block.trans e)).2
  have R2 := Lib.hid (And.intro r2 lt2)
  have B2 := Lib.hid (BB.out.trans (b2.mono BB.out.size)); clear r2 lt2 n2 b2 o2 BB R1
  go_wp2_with fail
  refine (toDartSS_any l a c _ hl HMM.out (HR.out.old B2.out)).mono ?_; rintro e w3 ⟨g3, f3, rfl, cp3, b3⟩
  have B3 := Lib.hid (B2.out.trans (b3.mono B2.out.size))
  have F3 := Lib.hid cp3
  have R23 := Lib.hid (R2.out.1.old b3)
  have HF : Hid (∀ j, j < l.length → w2.heap.size ≤ g3 ∧ g3 < f3 j ∧ f3 j < w3.heap.size) := Lib.hid (fun j hj => ⟨cp3.1, (cp3.2.2.1 j hj).2, (cp3.2.2.1 j hj).1.1⟩)
  clear cp3 b3
  go_wp2_with fail
  refine (HI.out _ _ F3.out.ssr).mono ?_; rintro e w4 ⟨v4, rfl, o4, b4⟩
  obtain ⟨a4, c4, rfl, r4, -, -, n4⟩ := Reads.own o4
  have H4 := Lib.hid (And.intro o4 n4)
  have B4 := Lib.hid (B3.out.trans (b4.mono B3.out.size))
  have Z34 : Hid (w2.heap.size ≤ w3.heap.size ∧ w.heap.size ≤ w2.heap.size) := Lib.hid ⟨by have := F3.out.1; have := F3.out.2.1.1; omega, B2.out.size⟩
  have F34 := Lib.hid (F3.out.keep b4)
  have R24 := Lib.hid (R23.out.old b4); clear o4 n4 b4 R23 B3
  go_wp2_with fail
  refine (eq_same L _ _ _ _ _ (by omega) r4 R24.out).mono ?_; rintro e w5 ⟨rfl, b5⟩
  have B5 := Lib.hid (B4.out.trans (b5.mono B4.out.size))
  have O5 := Lib.hid (owns_belowL H4.out.1 b5)
  have F35 := Lib.hid (F34.out.keep b5)
  have R25 := Lib.hid (R24.out.old b5); clear b5 r4 R24 F34 B4
  go_wp2_with fail
  refine (toDartSS_any l a c _ hl HMM.out (HR.out.old B5.out)).mono ?_; rintro e w6 ⟨g6, f6, rfl, cp6, b6⟩
  have B6 := Lib.hid (B5.out.trans (b6.mono B5.out.size))
  have O6 := Lib.hid (owns_belowL O5.out b6)
  have F36 := Lib.hid (F35.out.keep b6)
  have R36 := Lib.hid cp6.ssr
  have R26 := Lib.hid (R25.out.old b6); clear b6 cp6 R25 F35 O5 B5
  go_wp2_with fail
  refine (eqDartSS_same l hl HMM.out _ _ _ _ _ F36.out.ssr R36.out).mono ?_; rintro e w7 ⟨rfl, b7⟩
  have B7 := Lib.hid (B6.out.trans (b7.mono B6.out.size))
  have O7 := Lib.hid (owns_belowL O6.out b7)
  have F37 := Lib.hid (F36.out.keep b7)
  have R27 := Lib.hid (R26.out.old b7)
  clear b7 R26 R36 F36 O6 B6
  have HMK := Lib.hid (markDartSS_any l hl HMM.out HT.out _ g3 f3 l.length w7 F37.out)
  have k3 : ((1 : Int) + (offD l l.length : Nat) < 0) = False := by simp; omega
  have k4 : decide ((1 : Int) + (offD l l.length : Nat) < 0) = false := by simp; omega
  generalize offD l l.length = T at *
  go_wp2_with fail
  refine HMK.out.mono ?_; rintro e w8 ⟨rfl, oo8⟩
  have B8 := Lib.hid (oo8.below B7.out (fun j hj => by have := HF.out j hj; have := Z34.out.2; omega))
  have ne4 : ∀ b, blockOf a4 = some b → ∀ j, j < l.length → b ≠ f3 j := fun b e j hj => by have := H4.out.2 b e; have := HF.out j hj; omega
  have ne2 : ∀ b, blockOf a2 = some b → ∀ j, j < l.length → b ≠ f3 j := fun b e j hj => by have := R2.out.2 b e; have := HF.out j hj; omega
  have O8 : Hid (w8.ownsRow w3.heap.size 3 1 (.slice a4 L.length c4) L.length (ints L)) :=
    Lib.hid (owns_heap O7.out (fun k e => oo8.1 k (by rw [own_block] at e; exact ne4 k e)))
  have R28 : Hid (Reads w8 a2 (ints L)) := Lib.hid (reads_same R27.out oo8.2.2.2.2 (fun b e => oo8.1 b (ne2 b e)))
  clear oo8 B7 O7 R27 F37 ne4 ne2 HMK
  go_wp2_with fail
  obtain ⟨a4', c4', ev, r48, -, -, -⟩ := Reads.own O8.out
  injection ev with ev1 ev2 ev3
  subst ev1 ev3
  clear ev2
  refine (eq_same L _ _ _ _ _ (by omega) r48 R28.out).mono ?_; rintro e w9 ⟨rfl, b9⟩
  have B9 := Lib.hid (B8.out.trans (b9.mono B8.out.size))
  have O9 := Lib.hid (owns_belowL O8.out b9)
  have R29 := Lib.hid (R28.out.old b9); clear b9 r48 R28 O8 B8
  go_wp2_with fail
  have wr9 := Writable.own O9.out
  rw [Nat.mul_one] at wr9
  refine (markIntS_any L.length _ _ 1 _ (by omega) (by omega) (by omega) wr9).mono ?_; rintro e w10 ⟨rfl, hw10⟩
  have B10 : Hid (Below w.heap.size w w10) := by rw [hw10]; exact Lib.hid (Below.writeAt B9.out (fun b e => by have h1 := H4.out.2 b e; have h2 := Z34.out; omega) _)
  have R4m : Hid (Reads w10 a4 (ints (marks 1 L.length))) := by
    rw [hw10]; exact Lib.hid (Reads.written (by rw [ints_len, marks_len]; exact wr9))
  have R210 : Hid (Reads w10 a2 (ints L)) := by
    rw [hw10]; exact Lib.hid (R29.out.write_other (fun b e e2 => by have h1 := R2.out.2 b e; have h2 := H4.out.2 b e2; have := Z34.out.1; omega) _)
  clear hw10 wr9 O9 R29 B9
  have k5 : ((1 : Int) + (L.length : Int) < 0) = False := by simp; omega
  have k6 : ((1 : Int) + (L.length : Int) != 1 + (L.length : Int)) = false := by simp
  go_wp2_with fail
  refine (heldIntS_any L.length _ _ 1 _ (by omega) (by omega) (by omega) R4m.out).mono ?_; rintro e w11 ⟨rfl, rfl⟩
  go_wp2_with fail
  refine (toDartSS_any l a c _ hl HMM.out (HR.out.old B10.out)).mono ?_; rintro e w12 ⟨g12, f12, rfl, cp12, b12⟩
  have B12 := Lib.hid (B10.out.trans (b12.mono B10.out.size))
  have R12 := Lib.hid (And.intro cp12.ssr (And.intro (R4m.out.old b12) (R210.out.old b12))); clear cp12 b12 R4m R210 B10
  go_wp2_with fail
  refine (HI.out _ _ R12.out.1).mono ?_; rintro e w13 ⟨v13, rfl, o13, b13⟩
  obtain ⟨a13, c13, rfl, r13, -, -, -⟩ := Reads.own o13
  have B13 := Lib.hid (B12.out.trans (b13.mono B12.out.size))
  have R13 := Lib.hid (And.intro r13 (And.intro (R12.out.2.1.old b13) (R12.out.2.2.old b13))); clear r13 b13 o13 R12 B12
  go_wp2_with fail
  refine (eq_same L _ _ _ _ _ (by omega) R13.out.1 R13.out.2.2).mono ?_; rintro e w14 ⟨rfl, b14⟩
  have B14 := Lib.hid (B13.out.trans (b14.mono B13.out.size))
  have R14 := Lib.hid (R13.out.2.1.old b14); clear b14 R13 B13
  go_wp2_with fail
  refine (heldIntS_any L.length _ _ 1 _ (by omega) (by omega) (by omega) R14.out).mono ?_; rintro e w15 ⟨rfl, rfl⟩
  go_wp2_with fail
  go_ret
  exact ⟨rfl, B14.out⟩

theorem walk (left : Int) (a : Option Addr) (n c : Nat) (l : DL) (w : World) (wf : l.length = n ∧ (n : Int) ≤ 9223372036854775807 ∧ (∀ s ∈ l, (s.length : Int) ≤ 9223372036854775807) ∧ SSR w a l) :
    Calls Try.prog 12 #[.int .i64 left, .slice a n c] w fun e w' => e = .returned (.bool true) ∧ Below w.heap.size w w' := by
  obtain ⟨rfl, hn, hm, hr⟩ := wf
  rcases szSS_pos l with hz | ⟨hz, hl, hsz⟩
  · exact law_long left a c l w hz hn hm hr
  · exact law_of left a c l _ _ (by have := rowL_len left l; omega) (fun g w h => specLeg_any left l (by omega) hsz _ _ w h) (fun g w h => implLeg_any left l (by omega) hsz _ _ w h) w hl hsz hz hr
end Go.Proofs.Ytaplkciomagmiaa.ExPlayLeg
