/- What the exact law of PlayFrame does, step by step. -/
import Derived.Test.YtaplkciomagmiabDoorPfSpec
import Derived.BigQuiet
namespace Go.Proofs.YtaplkciomagmiabDoor.ExPlayFrame
open Go.RowKit
set_option linter.unusedVariables false
set_option linter.unusedSimpArgs false

theorem szL_pos : ∀ (l : List ByteArray) (k : Int), 0 ≤ k → szL k l = -1 ∨ (0 ≤ szL k l ∧ ∀ s ∈ l, (s.size : Int) ≤ k)
  | [], k, h => .inr ⟨h, fun s hs => by cases hs⟩
  | s :: l, k, h => by
    unfold szL
    by_cases h1 : k - s.size < 0
    · rw [if_pos h1]; exact .inl rfl
    · rw [if_neg h1]
      rcases szL_pos l (k - s.size) (by omega) with h2 | ⟨h2, h3⟩
      · exact .inl h2
      · refine .inr ⟨h2, fun u hu => ?_⟩
        rcases List.mem_cons.1 hu with rfl | hu
        · omega
        · have := h3 u hu; omega
theorem szS_pos (l : List ByteArray) : szS 1048576 l = -1 ∨ (0 ≤ szS 1048576 l ∧ (l.length : Int) ≤ 1048576 ∧ ∀ s ∈ l, (s.size : Int) ≤ 1048576) := by
  unfold szS
  by_cases h1 : (1048576 : Int) - l.length < 0
  · rw [if_pos h1]; exact .inl rfl
  · rw [if_neg h1]
    rcases szL_pos l (1048576 - l.length) (by omega) with h2 | ⟨h2, h3⟩
    · exact .inl h2
    · exact .inr ⟨h2, by omega, fun s hs => by have := h3 s hs; omega⟩

theorem write_heap (w : World) (a : Option Addr) (vs : List Value) (k : Nat) (h : blockOf a ≠ some k) : (writeAt w a vs).heap[k]? = w.heap[k]? := by
  match a with
  | none => rfl
  | some ⟨b, off, sp⟩ => exact setCells_heap b vs off w k (fun e => h (by simp [blockOf, e]))
theorem own_block {a : Option Addr} {n c : Nat} : (Value.slice a n c).ownBlock = blockOf a := by
  match a with
  | none => rfl
  | some ⟨_, _, _⟩ => rfl
theorem owns_heap {w w' : World} {T base n size : Nat} {v : Value} {xs : List Value} (ho : w.ownsRow base T size v n xs) (hs : ∀ k, v.ownBlock = some k → w'.heap[k]? = w.heap[k]?) : w'.ownsRow base T size v n xs := by
  obtain ⟨hl, ⟨rfl, h2⟩ | ⟨g', cap, cur, rfl, hb, hh, r⟩⟩ := ho
  · exact ⟨hl, .inl ⟨rfl, h2⟩⟩
  · refine ⟨hl, .inr ⟨g', cap, cur, rfl, hb, ?_, r⟩⟩
    rw [hs g' (by simp [Value.ownBlock])]; exact hh
theorem owns_ge {w : World} {T base n size : Nat} {v : Value} {xs : List Value} (ho : w.ownsRow base T size v n xs) {g : Nat} (e : v.ownBlock = some g) : base ≤ g ∧ g < w.heap.size := by
  obtain ⟨hl, ⟨rfl, h2⟩ | ⟨g', cap, cur, rfl, hb, hh, r⟩⟩ := ho
  · simp [Value.ownBlock] at e
  · simp [Value.ownBlock] at e
    subst e
    exact ⟨hb, (Array.getElem?_eq_some_iff.1 hh).1⟩

theorem filled_writable {w : World} {g n : Nat} {cs : List Value} (h : Filled w g n cs) : Writable w (some ⟨g, 0, none⟩) n :=
  .inr ⟨g, 0, rfl, h.1, fun j hj => by rw [Nat.zero_add]; exact h.2.1 j hj⟩
theorem eq_same (L : List Int) (a a' : Option Addr) (c c' : Nat) (w : World) (hl : (L.length : Int) ≤ 1048576) (h : Reads w a (ints L)) (h' : Reads w a' (ints L)) :
    Calls Tryd.prog 11 #[.slice a L.length c, .slice a' L.length c'] w fun e w' => e = .returned (.bool true) ∧ Below w.heap.size w w' := by
  have := eqIntS_any L L a a' c c' w (by omega) (by omega) h h'
  rw [show SameB L L = true from by simp [SameB]] at this
  exact this

/-- The law's own frame lies in its box; what lay below has stayed. -/
def St (r : Int) (q : Bool) (t : Int) (w wr : World) : Prop :=
  wr.heap[w.heap.size]? = some (.cells #[.int .i64 r, .bool q, .int .i64 t] 23 (0, 0)) ∧ Below w.heap.size w wr
theorem St.keep {r : Int} {q : Bool} {t : Int} {w wr w' : World} (h : St r q t w wr) (hb : Below wr.heap.size wr w') : St r q t w w' :=
  ⟨by rw [hb.block _ (Array.getElem?_eq_some_iff.1 h.1).1]; exact h.1, h.2.trans (hb.mono h.2.size)⟩
theorem St.lt {r : Int} {q : Bool} {t : Int} {w wr : World} (h : St r q t w wr) : w.heap.size < wr.heap.size := (Array.getElem?_eq_some_iff.1 h.1).1
theorem St.cells {r : Int} {q : Bool} {t : Int} {w wr : World} (h : St r q t w wr) :
    wr.cell? ⟨w.heap.size, 0, none⟩ = some (.int .i64 r) ∧ wr.cell? ⟨w.heap.size, 1, none⟩ = some (.bool q) ∧ wr.cell? ⟨w.heap.size, 2, none⟩ = some (.int .i64 t) :=
  ⟨cell_of_row _ _ 0 _ _ _ h.1, cell_of_row _ _ 1 _ _ _ h.1, cell_of_row _ _ 2 _ _ _ h.1⟩
theorem St.only {r : Int} {q : Bool} {t : Int} {w wr w' : World} {a : Option Addr} (h : St r q t w wr) (ho : OnlyO a wr w') (hB : ∀ b, blockOf a = some b → w.heap.size < b) : St r q t w w' :=
  ⟨by rw [ho.2 _ h.lt (fun e => by have := hB _ e; omega)]; exact h.1, below_onlyO h.2 ho (fun b e => Nat.le_of_lt (hB b e)) h.2.size⟩
theorem St.write {r : Int} {q : Bool} {t : Int} {w wr : World} {a : Option Addr} (h : St r q t w wr) (hB : ∀ b, blockOf a = some b → w.heap.size < b) (vs : List Value) : St r q t w (writeAt wr a vs) :=
  ⟨by rw [write_heap _ _ _ _ (fun e => by have := hB _ e; omega)]; exact h.1, Below.writeAt h.2 (fun b e => Nat.le_of_lt (hB b e)) vs⟩
theorem st_new (r : Int) (q : Bool) (t : Int) (w : World) : St r q t w (w.alloc (.cells #[.int .i64 r, .bool q, .int .i64 t] 23)) :=
  ⟨heap_alloc_last w _, below_new w _⟩

set_option maxHeartbeats 800000 in
theorem law_long (r : Int) (q : Bool) (t : Int) (a : Option Addr) (c : Nat) (l : List ByteArray) (w : World) (hz : szS 1048576 l = -1) (hn : (l.length : Int) ≤ 9223372036854775807) (hm : ∀ s ∈ l, s.size ≤ maxLen) (h : Reads w a (strs l)) :
    Calls Tryd.prog 3 #[frW r q t, .slice a l.length c] w fun e w' => e = .returned (.bool true) ∧ Below w.heap.size w w' := by
  have S0 := Lib.hid (st_new r q t w)
  have HZ := Lib.hid (szStringS_any l a c 1048576 _ hn hm (by omega) (by omega) (h.old S0.out.2))
  rw [hz] at HZ
  go_enter Tryd.func3, Tryd.ntmps3
  go_wp2_with fail
  refine HZ.out.mono ?_; rintro e w1 ⟨rfl, rfl⟩
  go_wp2_with fail
  go_ret
  exact ⟨rfl, S0.out.2⟩

set_option maxHeartbeats 6400000 in
theorem law_of (r : Int) (q : Bool) (t : Int) (a : Option Addr) (c : Nat) (l : List ByteArray) (L : List Int) (o : Bool) (hL : (L.length : Int) ≤ 1000)
    (hs : ∀ (g : Nat) (w : World), Reads w (some ⟨g, 0, none⟩) (strs l) → Calls Tryd.prog 7 #[frW r q t, .slice (some ⟨g, 0, none⟩) l.length l.length] w fun e w' => RowR L o w e w')
    (hi : ∀ (g : Nat) (w : World), Reads w (some ⟨g, 0, none⟩) (strs l) → Calls Tryd.prog 10 #[frW r q t, .slice (some ⟨g, 0, none⟩) l.length l.length] w fun e w' => RowR L o w e w')
    (w : World) (hl : (l.length : Int) ≤ 1048576) (hz : 0 ≤ szS 1048576 l) (hm : ∀ s ∈ l, s.size ≤ maxLen) (h : Reads w a (strs l)) :
    Calls Tryd.prog 3 #[frW r q t, .slice a l.length c] w fun e w' => e = .returned (.bool true) ∧ Below w.heap.size w w' := by
  have HS := Lib.hid hs; clear hs
  have HI := Lib.hid hi; clear hi
  have HR := Lib.hid h; clear h
  have S0 := Lib.hid (st_new r q t w)
  have HZ := Lib.hid (szStringS_any l a c 1048576 _ (by omega) hm (by omega) (by omega) (HR.out.old S0.out.2)); clear hm
  have q1 : (o != o) = false := by simp
  generalize szS 1048576 l = Z at *
  have z1 : decide (Z < 0) = false := by simp; omega
  have z2 : ¬ Z < 0 := by omega
  obtain ⟨k0, k1, k2⟩ := S0.out.cells
  go_enter Tryd.func3, Tryd.ntmps3
  go_wp2_with fail
  refine HZ.out.mono ?_; rintro e w1 ⟨rfl, rfl⟩
  clear HZ
  go_wp2_with fail
  refine (toFrame_any r q t _).mono ?_; rintro e wA ⟨rfl, bA⟩
  have SA := Lib.hid (S0.out.keep bA); clear bA S0 k0 k1 k2
  go_wp2_with fail
  refine (toStringS_any l a c _ hl (HR.out.old SA.out.2)).mono ?_; rintro e wB ⟨g1, rfl, -, f1, bB⟩
  have SB := Lib.hid (SA.out.keep bB)
  have R1 := Lib.hid f1.reads; clear f1 bB SA
  go_wp2_with fail
  refine (HS.out _ _ R1.out).mono ?_; rintro e w2 ⟨v2, rfl, o2, b2⟩
  obtain ⟨a2, c2, rfl, r2, -, -, n2⟩ := Reads.own o2
  have lt2 : ∀ b, blockOf a2 = some b → b < w2.heap.size := fun b e => (owns_ge o2 (own_block.trans e)).2
  have R2 := Lib.hid (And.intro r2 lt2)
  have S2 := Lib.hid (SB.out.keep b2); clear r2 lt2 n2 b2 o2 SB R1
  go_wp2_with fail
  refine (toStringS_any l a c _ hl (HR.out.old S2.out.2)).mono ?_; rintro e w3 ⟨g3, rfl, ge3, f3, b3⟩
  have F3 := Lib.hid (And.intro f3 ge3)
  have S3 := Lib.hid (S2.out.keep b3)
  have R23 := Lib.hid (R2.out.1.old b3)
  have HG3 : Hid (w.heap.size < g3) := Lib.hid (by have := S2.out.lt; omega)
  clear f3 b3
  obtain ⟨k0, k1, k2⟩ := S3.out.cells
  go_wp2_with fail
  refine (toFrame_any r q t _).mono ?_; rintro e wC ⟨rfl, bC⟩
  have SC := Lib.hid (S3.out.keep bC)
  have FC := Lib.hid (And.intro (F3.out.1.keep bC) (Nat.lt_of_lt_of_le F3.out.1.1 bC.size))
  have R2C := Lib.hid (R23.out.old bC); clear bC S3 R23 k0 k1 k2
  go_wp2_with fail
  refine (HI.out _ _ FC.out.1.reads).mono ?_; rintro e w4 ⟨v4, rfl, o4, b4⟩
  obtain ⟨a4, c4, rfl, r4, -, -, n4⟩ := Reads.own o4
  have H4 := Lib.hid (And.intro o4 n4)
  have S4 := Lib.hid (SC.out.keep b4)
  have F34 := Lib.hid (FC.out.1.keep b4)
  have R24 := Lib.hid (R2C.out.old b4); clear o4 n4 b4 R2C
  go_wp2_with fail
  refine (eq_same L _ _ _ _ _ (by omega) r4 R24.out).mono ?_; rintro e w5 ⟨rfl, b5⟩
  have S5 := Lib.hid (S4.out.keep b5)
  have O5 := Lib.hid (owns_below H4.out.1 b5)
  have F35 := Lib.hid (F34.out.keep b5)
  have R25 := Lib.hid (R24.out.old b5); clear b5 r4 R24 F34 S4
  go_wp2_with fail
  refine (toStringS_any l a c _ hl (HR.out.old S5.out.2)).mono ?_; rintro e w6 ⟨g6, rfl, -, f6, b6⟩
  have S6 := Lib.hid (S5.out.keep b6)
  have O6 := Lib.hid (owns_below O5.out b6)
  have F36 := Lib.hid (F35.out.keep b6)
  have R36 := Lib.hid f6.reads
  have R26 := Lib.hid (R25.out.old b6); clear b6 f6 R25 F35 O5 S5
  go_wp2_with fail
  refine (eqStringS_same l _ _ _ _ _ (by omega) F36.out.reads R36.out).mono ?_; rintro e w7 ⟨rfl, b7⟩
  have S7 := Lib.hid (S6.out.keep b7)
  have O7 := Lib.hid (owns_below O6.out b7)
  have F37 := Lib.hid (F36.out.keep b7)
  have R27 := Lib.hid (R26.out.old b7)
  have Z7 : Hid (g3 < wC.heap.size ∧ w2.heap.size ≤ g3) := Lib.hid ⟨FC.out.2, F3.out.2⟩
  clear b7 R26 R36 F36 O6 S6
  go_wp2_with fail
  refine (markStringS_any l.length _ _ _ (by omega) (filled_writable F37.out)).mono ?_; rintro e w8 ⟨rfl, -, oo8⟩
  have S8 := Lib.hid (S7.out.only oo8 (fun b e => by simp [blockOf] at e; have := HG3.out; omega))
  have ne4 : ∀ b, blockOf a4 = some b → g3 ≠ b := fun b e => by have := H4.out.2 b e; have := Z7.out.1; omega
  have ne2 : ∀ b, blockOf a2 = some b → g3 ≠ b := fun b e => by have := R2.out.2 b e; have := Z7.out.2; omega
  have O8 : Hid (w8.ownsRow wC.heap.size 3 1 (.slice a4 L.length c4) L.length (ints L)) :=
    Lib.hid (owns_heap O7.out (fun k e => oo8.2 k (owns_ge O7.out e).2 (fun e2 => by rw [own_block] at e; simp [blockOf] at e2; exact ne4 k e e2)))
  have R28 : Hid (Reads w8 a2 (ints L)) := Lib.hid (R27.out.onlyO oo8 (fun b e => by have := ne2 b e; simp [blockOf]; exact this))
  clear oo8 S7 O7 R27 F37 ne4 ne2
  have k3 : ((1 : Int) + (l.length : Int) < 0) = False := by simp; omega
  have k4 : decide ((1 : Int) + (l.length : Int) < 0) = false := by simp; omega
  go_wp2_with fail
  obtain ⟨a4', c4', ev, r48, -, -, -⟩ := Reads.own O8.out
  injection ev with ev1 ev2 ev3
  subst ev1 ev3
  clear ev2
  refine (eq_same L _ _ _ _ _ (by omega) r48 R28.out).mono ?_; rintro e w9 ⟨rfl, b9⟩
  have S9 := Lib.hid (S8.out.keep b9)
  have O9 := Lib.hid (owns_below O8.out b9)
  have R29 := Lib.hid (R28.out.old b9); clear b9 r48 R28 O8 S8
  go_wp2_with fail
  have wr9 := Writable.own O9.out
  rw [Nat.mul_one] at wr9
  refine (markIntS_any L.length _ _ 1 _ (by omega) (by omega) (by omega) wr9).mono ?_; rintro e w10 ⟨rfl, hw10⟩
  have S10 : Hid (St r q t w w10) := by rw [hw10]; exact Lib.hid (S9.out.write (fun b e => by have h1 := H4.out.2 b e; have h2 := SC.out.lt; omega) _)
  have R4m : Hid (Reads w10 a4 (ints (marks 1 L.length))) := by
    rw [hw10]; exact Lib.hid (Reads.written (by rw [ints_len, marks_len]; exact wr9))
  have R210 : Hid (Reads w10 a2 (ints L)) := by
    rw [hw10]; exact Lib.hid (R29.out.write_other (fun b e e2 => by have h1 := R2.out.2 b e; have h2 := H4.out.2 b e2; have := Z7.out.1; have := Z7.out.2; omega) _)
  clear hw10 wr9 O9 R29 S9
  have k5 : ((1 : Int) + (L.length : Int) < 0) = False := by simp; omega
  have k6 : ((1 : Int) + (L.length : Int) != 1 + (L.length : Int)) = false := by simp
  go_wp2_with fail
  refine (heldIntS_any L.length _ _ 1 _ (by omega) (by omega) (by omega) R4m.out).mono ?_; rintro e w11 ⟨rfl, rfl⟩
  obtain ⟨k0, k1, k2⟩ := S10.out.cells
  go_wp2_with fail
  refine (toFrame_any r q t _).mono ?_; rintro e wD ⟨rfl, bD⟩
  have SD := Lib.hid (S10.out.keep bD)
  have R4D := Lib.hid (And.intro (R4m.out.old bD) (R210.out.old bD)); clear bD S10 R4m R210 k0 k1 k2
  go_wp2_with fail
  refine (toStringS_any l a c _ hl (HR.out.old SD.out.2)).mono ?_; rintro e w12 ⟨g12, rfl, -, f12, b12⟩
  have S12 := Lib.hid (SD.out.keep b12)
  have R12 := Lib.hid (And.intro f12.reads (And.intro (R4D.out.1.old b12) (R4D.out.2.old b12))); clear f12 b12 R4D SD
  go_wp2_with fail
  refine (HI.out _ _ R12.out.1).mono ?_; rintro e w13 ⟨v13, rfl, o13, b13⟩
  obtain ⟨a13, c13, rfl, r13, -, -, -⟩ := Reads.own o13
  have S13 := Lib.hid (S12.out.keep b13)
  have R13 := Lib.hid (And.intro r13 (And.intro (R12.out.2.1.old b13) (R12.out.2.2.old b13))); clear r13 b13 o13 R12 S12
  go_wp2_with fail
  refine (eq_same L _ _ _ _ _ (by omega) R13.out.1 R13.out.2.2).mono ?_; rintro e w14 ⟨rfl, b14⟩
  have S14 := Lib.hid (S13.out.keep b14)
  have R14 := Lib.hid (R13.out.2.1.old b14); clear b14 R13 S13
  go_wp2_with fail
  refine (heldIntS_any L.length _ _ 1 _ (by omega) (by omega) (by omega) R14.out).mono ?_; rintro e w15 ⟨rfl, rfl⟩
  go_wp2_with fail
  go_ret
  exact ⟨rfl, S14.out.2⟩

theorem walk (r : Int) (q : Bool) (t : Int) (a : Option Addr) (n c : Nat) (l : List ByteArray) (w : World) (wf : l.length = n ∧ (n : Int) ≤ 9223372036854775807 ∧ (∀ s ∈ l, s.size ≤ maxLen) ∧ Reads w a (strs l)) :
    Calls Tryd.prog 3 #[frW r q t, .slice a n c] w fun e w' => e = .returned (.bool true) ∧ Below w.heap.size w w' := by
  obtain ⟨rfl, hn, hm, hr⟩ := wf
  rcases szS_pos l with hz | ⟨hz, hl, hsz⟩
  · exact law_long r q t a c l w hz hn hm hr
  · exact law_of r q t a c l _ _ (by have := rowOf_len r q t l; omega) (fun g w h => specPf_any r q t l (by omega) _ _ w h) (fun g w h => implPf_any r q t l (by omega) _ _ w h) w hl hz hm hr
end Go.Proofs.YtaplkciomagmiabDoor.ExPlayFrame
