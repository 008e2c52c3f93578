/- What the exact law of LeagueTable does, step by step. -/
import Derived.Test.YthbkclgdoopbpaaLtRank
import Derived.Deep.RegionHeld3
namespace Go.Proofs.Ythbkclgdoopbpaa.ExLeagueTable
open Go.RowKit
set_option linter.unusedVariables false
set_option linter.unusedSimpArgs false

set_option maxHeartbeats 400000 in
theorem law_long (t wn : Int) (a : Option Addr) (n c : Nat) (w : World) (hl : (1048576 : Int) < (n : Int)) (hn : (n : Int) ≤ 9223372036854775807) :
    Calls Try.prog 6 #[.agg #[.int .i64 t, .int .i64 wn, .slice a n c]] w fun e w' => e = .returned (.bool true) ∧ Below w.heap.size w w' := by
  have HZ := Lib.hid (fun w => szLeague_any t wn a n c 1048576 w hn (by omega) (by omega))
  have hz : szN 1048576 n = -1 := by unfold szN; rw [if_pos hl]
  rw [hz] at HZ; clear hz
  have HB := Lib.hid (Below.ofNew (w := w) (.cells #[.int .i64 t, .int .i64 wn, .slice a n c] 35))
  go_enter Try.func6, Try.ntmps6
  go_wp2_with fail
  refine (HZ.out _).mono ?_; rintro e w1 ⟨rfl, b1⟩
  have B1 := Lib.hid (HB.out.trans (b1.mono HB.out.size)); clear b1
  go_wp2_with fail
  go_ret
  exact ⟨rfl, B1.out⟩

theorem full {w : World} {t wn : Int} {a : Option Addr} {l : List Rs} {c g5 g3 : Nat} {L : List Int} {a2 : Option Addr} {B : Nat} {v4 : Value} {w' : World} (h : RwAt w t wn a l c g5 g3 L a2 B v4 w') :
    w'.cell? ⟨w.heap.size, 0, none⟩ = some (.int .i64 t) ∧ w'.cell? ⟨w.heap.size, 1, none⟩ = some (.int .i64 wn) ∧ w'.cell? ⟨w.heap.size, 2, none⟩ = some (.slice a l.length c) ∧ w'.cell? ⟨g5, 0, none⟩ = some (.int .i64 t) ∧ w'.cell? ⟨g5, 1, none⟩ = some (.int .i64 wn) ∧ w'.cell? ⟨g5, 2, none⟩ = some (.slice (some ⟨g3, 0, none⟩) l.length l.length) ∧ RwAt w t wn a l c g5 g3 L a2 B v4 w' := by
  obtain ⟨h0, h1, h2, h3, h4, h5, -⟩ := h.1.full
  exact ⟨h0, h1, h2, h3, h4, h5, h⟩

set_option maxHeartbeats 3200000 in
theorem law_of (t wn : Int) (a : Option Addr) (c : Nat) (l : List Rs) (L : List Int) (o : Bool) (hL : (L.length : Int) ≤ 1000) (hs : (∀ (g : Nat) (w : World), Reads w (some ⟨g, 0, none⟩) (ress l) → Calls Try.prog 19 #[.agg #[.int .i64 t, .int .i64 wn, .slice (some ⟨g, 0, none⟩) l.length l.length]] w fun e w' => RowR L o w e w')) (hi : (∀ (g : Nat) (w : World), Reads w (some ⟨g, 0, none⟩) (ress l) → Calls Try.prog 21 #[.agg #[.int .i64 t, .int .i64 wn, .slice (some ⟨g, 0, none⟩) l.length l.length]] w fun e w' => RowR L o w e w')) (w : World) (hl : (l.length : Int) ≤ 1048576) (h : Reads w a (ress l)) :
    Calls Try.prog 6 #[.agg #[.int .i64 t, .int .i64 wn, .slice a l.length c]] w fun e w' => e = .returned (.bool true) ∧ Below w.heap.size w w' := by
  have HS := Lib.hid hs; clear hs
  have HI := Lib.hid hi; clear hi
  have L0 := Lib.hid (LAt.start (t := t) (wn := wn) (c := c) h)
  have HR := Lib.hid h; clear h
  have HZ := Lib.hid (fun w => szLeague_any t wn a l.length c 1048576 w (by omega) (by omega) (by omega))
  have hz : szN 1048576 l.length = 1048576 - (l.length : Int) := by unfold szN; rw [if_neg (by omega)]
  rw [hz] at HZ; clear hz
  have q1 : (o != o) = false := by simp
  go_enter Try.func6, Try.ntmps6
  go_wp2_with fail
  refine (HZ.out _).mono ?_; rintro e w0 ⟨rfl, b0⟩
  have L1 := Lib.hid (L0.out.keep b0); clear b0 L0
  obtain ⟨p0, p1, p2, -, -, -⟩ := L1.out.1.three
  go_wp2_with fail
  refine (toLeague_any t wn l _ _ _ hl L1.out.2.1).mono ?_; rintro e w1 ⟨g1, rfl, -, r1, b1⟩
  have L2 := Lib.hid (L1.out.keep b1)
  have R1 := Lib.hid r1.reads; clear r1 b1 L1 p0 p1 p2
  obtain ⟨p0, p1, p2, -, -, -⟩ := L2.out.1.three
  go_wp2_with fail
  refine (HS.out _ _ R1.out).mono ?_; rintro e w2 ⟨v2, rfl, o2, b2⟩
  obtain ⟨a2, c2, rfl, r2, -, -, -⟩ := Reads.own o2
  have lt2 : ∀ b, blockOf a2 = some b → b < w2.heap.size := fun b e => (owns_ge o2 (own_block.trans e)).2
  have L3 := Lib.hid (And.intro (L2.out.keep b2) (And.intro r2 lt2)); clear b2 L2 p0 p1 p2 R1 o2 r2 lt2
  obtain ⟨p0, p1, p2, -, -, -⟩ := L3.out.1.1.three
  go_wp2_with fail
  refine (toLeague_any t wn l _ _ _ hl L3.out.1.2.1).mono ?_; rintro e w3 ⟨g3, rfl, hge3, r3, b3⟩
  have bn := Below.ofNew (w := w3) (.cells #[.int .i64 t, .int .i64 wn, .slice (some ⟨g3, 0, none⟩) l.length l.length] 40)
  have X4 : Hid (CopAt w t wn a l c w3.heap.size g3 (w3.alloc (.cells #[.int .i64 t, .int .i64 wn, .slice (some ⟨g3, 0, none⟩) l.length l.length] 40)) ∧ Reads (w3.alloc (.cells #[.int .i64 t, .int .i64 wn, .slice (some ⟨g3, 0, none⟩) l.length l.length] 40)) a2 (ints L) ∧ Writable (w3.alloc (.cells #[.int .i64 t, .int .i64 wn, .slice (some ⟨g3, 0, none⟩) l.length l.length] 40)) (some ⟨g3, 0, none⟩) (l.length * 4)) :=
    ⟨⟨(L3.out.1.keep b3).keep bn, ObAt.new _ _ _, r3.reads.old bn⟩, (L3.out.2.1.old b3).old bn, r3.writable.keep bn⟩
  have hlt3 := r3.1
  have hsz3 := b3.size
  have hws := L3.out.1.1.lt
  have HF : Hid (w.heap.size < g3 ∧ (∀ b, blockOf a2 = some b → b ≠ g3) ∧ g3 < (w3.alloc (.cells #[.int .i64 t, .int .i64 wn, .slice (some ⟨g3, 0, none⟩) l.length l.length] 40)).heap.size ∧ (∀ b, blockOf a2 = some b → b < (w3.alloc (.cells #[.int .i64 t, .int .i64 wn, .slice (some ⟨g3, 0, none⟩) l.length l.length] 40)).heap.size)) :=
    ⟨by omega, fun b e => by have := L3.out.2.2 b e; omega, by simp; omega, fun b e => by have := L3.out.2.2 b e; simp; omega⟩
  clear r3 b3 L3 p0 p1 p2 bn hlt3 hsz3 hws hge3
  generalize hg5 : w3.heap.size = g5 at *
  obtain ⟨B, hB⟩ : ∃ B, B = (w3.alloc (.cells #[.int .i64 t, .int .i64 wn, .slice (some ⟨g3, 0, none⟩) l.length l.length] 40)).heap.size := ⟨_, rfl⟩
  rw [← hB] at HF
  go_wp2_with fail
  obtain ⟨p0, p1, p2, p3, p4, p5, -⟩ := X4.out.1.full
  refine (HI.out _ _ X4.out.1.2.2).mono ?_; rintro e w4 ⟨v4, rfl, o4, b4⟩
  rw [← hB] at o4
  clear hB
  have Y5 : Hid (RwAt w t wn a l c g5 g3 L a2 B v4 w4) := ⟨X4.out.1.keep b4, X4.out.2.1.old b4, o4, X4.out.2.2.keep b4⟩
  obtain ⟨a4, c4, rfl, -, -, -, ge4⟩ := Reads.own o4
  have HF4 := Lib.hid ge4; clear ge4 o4 b4 X4 p0 p1 p2 p3 p4 p5
  go_wp2_with fail
  obtain ⟨x4, y4, ev, r4, -, -, -⟩ := Reads.own Y5.out.2.2.1
  injection ev with ev1 ev2 ev3
  subst ev1 ev3
  clear ev2
  refine (eq_same L _ _ _ _ _ (by omega) r4 Y5.out.2.1).mono ?_; rintro e w5 ⟨rfl, b5⟩
  have Y6 := Lib.hid (Y5.out.keep b5); clear b5 Y5 r4
  have Y6d := Lib.hid (Y6.out.keep (Below.drew (Below.refl _ _)))
  obtain ⟨p0, p1, p2, p3, p4, p5, -⟩ := full Y6.out
  go_wp2_with fail
  clear p0 p1 p2 p3 p4 p5
  refine wp_region_held_drew (S := fun w' => w'.cell? ⟨w.heap.size, 0, none⟩ = some (.int .i64 t) ∧ w'.cell? ⟨w.heap.size, 1, none⟩ = some (.int .i64 wn) ∧ w'.cell? ⟨w.heap.size, 2, none⟩ = some (.slice a l.length c) ∧ w'.cell? ⟨g5, 0, none⟩ = some (.int .i64 t) ∧ w'.cell? ⟨g5, 1, none⟩ = some (.int .i64 wn) ∧ w'.cell? ⟨g5, 2, none⟩ = some (.slice (some ⟨g3, 0, none⟩) l.length l.length) ∧ RwAt w t wn a l c g5 g3 L a2 B (.slice a4 L.length c4) w') (by kernel_rfl) (full Y6d.out) (fun hHeld => ?_)
  (refine wpAnyH_take (i := 0) (v := ?_) rfl (by kernel_rfl) (by kernel_rfl) (by kernel_rfl) (fun _ _ _ h => h) (Or.inl ⟨by kernel_rfl, ?_⟩) (by assumption) ?_; rotate_left; focus (intro w hSw; (try dsimp only at hSw); go_simp; try with_reducible rfl); (try simp only [List.getElem_toArray, List.getElem_cons_succ, List.getElem_cons_zero, Act.put, List.setIfInBounds_toArray, List.set_cons_zero, List.set_cons_succ])); (refine wpAnyH_take (i := 1) (v := ?_) rfl (by kernel_rfl) (by kernel_rfl) (by kernel_rfl) (fun _ _ _ h => h) (Or.inl ⟨by kernel_rfl, ?_⟩) (by assumption) ?_; rotate_left; focus (intro w hSw; (try dsimp only at hSw); go_simp; try with_reducible rfl); (try simp only [List.getElem_toArray, List.getElem_cons_succ, List.getElem_cons_zero, Act.put, List.setIfInBounds_toArray, List.set_cons_zero, List.set_cons_succ]))
  refine wpAnyH_ready (rs := [2]) (by kernel_rfl) (by simp) ?_; refine AllReadyH.cons rfl (fun K hK => ?_) AllReadyH.nil
  go_simp
  go_at_call 20
  refine (toLeague_any t wn l _ _ _ hl Y6d.out.1.1.2.1).mono ?_; rintro e w6 ⟨g6, rfl, -, r6, b6⟩
  have Y7 := Lib.hid (Y6d.out.keep b6)
  have R6 := Lib.hid r6.reads; clear r6 b6 Y6 Y6d hHeld
  go_wp2_with fail
  first
    | refine hK.out _ _ (full Y7.out) (fun hHeld => ?_)
    | refine hK _ _ (full Y7.out) (fun hHeld => ?_)
  clear hK K
  (try simp only [List.getElem_toArray, List.getElem_cons_succ, List.getElem_cons_zero, Act.put, List.setIfInBounds_toArray, List.set_cons_zero, List.set_cons_succ])
  refine wpAnyH_ready (rs := [3]) (by kernel_rfl) (by simp) ?_; refine AllReadyH.cons rfl (fun K hK => ?_) AllReadyH.nil
  go_simp
  go_at_call 22
  refine (eqLeague_same t wn l _ _ _ hl Y7.out.1.2.2 R6.out).mono ?_; rintro e w7 ⟨rfl, b7⟩
  have Y8 := Lib.hid (Y7.out.keep b7); clear b7 Y7 hHeld R6
  go_wp2_with fail
  first
    | refine hK.out _ _ (full Y8.out) (fun hHeld => ?_)
    | refine hK _ _ (full Y8.out) (fun hHeld => ?_)
  clear hK K
  (try simp only [List.getElem_toArray, List.getElem_cons_succ, List.getElem_cons_zero, Act.put, List.setIfInBounds_toArray, List.set_cons_zero, List.set_cons_succ])
  (refine wpAnyH_take (i := 4) (v := ?_) rfl (by kernel_rfl) (by kernel_rfl) (by kernel_rfl) (fun _ _ _ h => h) (Or.inl ⟨by kernel_rfl, ?_⟩) (by assumption) ?_; rotate_left; focus (intro w hSw; (try dsimp only at hSw); go_simp; try with_reducible rfl); (try simp only [List.getElem_toArray, List.getElem_cons_succ, List.getElem_cons_zero, Act.put, List.setIfInBounds_toArray, List.set_cons_zero, List.set_cons_succ]))
  refine wpAnyH_done (by kernel_rfl) ?_ _
  clear hHeld
  obtain ⟨p0, p1, p2, p3, p4, p5, -⟩ := full Y8.out
  go_wp2_with fail
  refine (markLeague_any t wn l.length _ _ 1 _ (by omega) (by omega) (by omega) Y8.out.2.2.2).mono ?_; rintro e w8 ⟨rfl, hw8⟩
  have bn := Below.ofNew (w := w7) (.cells #[.int .i64 t, .int .i64 wn, .slice (some ⟨g3, 0, none⟩) l.length l.length] 40)
  have Z8 : Hid (RmAt w t wn a l c L a2 B (.slice a4 L.length c4) w8) := by
    have h9 := Y8.out.keep bn
    rw [hw8]
    refine ⟨h9.1.1.write HR.out (fun b e => by simp [blockOf] at e; subst e; exact HF.out.1) _, h9.2.1.write_other (fun b e e2 => by simp [blockOf] at e2; exact HF.out.2.1 b e e2.symm) _, owns_heap h9.2.2.1 (fun k e => write_heap _ _ _ _ (by
      rw [own_block] at e
      have := HF4.out k e
      have := HF.out.2.2.1
      simp [blockOf]; omega))⟩
  clear hw8 bn Y8 p0 p1 p2 p3 p4 p5
  have k1 : ((1 : Int) + ((l.length * 4 : Nat) : Int) < 0) = False := by simp; omega
  obtain ⟨p0, p1, p2, -, -, -⟩ := Z8.out.1.1.three
  go_wp2_with fail
  obtain ⟨x4, y4, ev, r4, -, -, -⟩ := Reads.own Z8.out.2.2
  injection ev with ev1 ev2 ev3
  subst ev1 ev3
  clear ev2
  refine (eq_same L _ _ _ _ _ (by omega) r4 Z8.out.2.1).mono ?_; rintro e w9 ⟨rfl, b9⟩
  have Z9 := Lib.hid (Z8.out.keep b9); clear b9 Z8 r4 p0 p1 p2
  go_wp2_with fail
  have wr9 := Writable.own Z9.out.2.2
  rw [Nat.mul_one] at wr9
  refine (markIntS_any L.length _ _ 1 _ (by omega) (by omega) (by omega) wr9).mono ?_; rintro e w10 ⟨rfl, hw10⟩
  have Z10 : Hid (RkAt w t wn a l c L a2 a4 w10) := by
    rw [hw10]
    refine ⟨Z9.out.1.write HR.out (fun b e => by have := HF4.out b e; have := HF.out.1; have := HF.out.2.2.1; omega) _, Z9.out.2.1.write_other (fun b e e2 => by have := HF4.out b e2; have := HF.out.2.2.2 b e; omega) _, Reads.written (by rw [ints_len, marks_len]; exact wr9)⟩
  clear hw10 wr9 Z9
  have k2 : ((1 : Int) + (L.length : Int) < 0) = False := by simp; omega
  have k3 : ((1 : Int) + (L.length : Int) != 1 + (L.length : Int)) = false := by simp
  go_wp2_with fail
  refine (heldIntS_any L.length _ _ 1 _ (by omega) (by omega) (by omega) Z10.out.2.2).mono ?_; rintro e w11 ⟨rfl, hw11⟩
  subst hw11
  obtain ⟨p0, p1, p2, -, -, -⟩ := Z10.out.1.1.three
  go_wp2_with fail
  refine (toLeague_any t wn l _ _ _ hl Z10.out.1.2.1).mono ?_; rintro e w12 ⟨g12, rfl, -, r12, b12⟩
  have Z12 := Lib.hid (And.intro r12.reads (Z10.out.keep b12)); clear r12 b12 Z10 p0 p1 p2
  go_wp2_with fail
  refine (HI.out _ _ Z12.out.1).mono ?_; rintro e w13 ⟨v13, rfl, o13, b13⟩
  obtain ⟨a13, c13, rfl, r13, -, -, -⟩ := Reads.own o13
  have Z13 := Lib.hid (And.intro r13 (Z12.out.2.keep b13)); clear r13 b13 o13 Z12
  go_wp2_with fail
  refine (eq_same L _ _ _ _ _ (by omega) Z13.out.1 Z13.out.2.2.1).mono ?_; rintro e w14 ⟨rfl, b14⟩
  have Z14 := Lib.hid (Z13.out.2.keep b14); clear b14 Z13
  go_wp2_with fail
  refine (heldIntS_any L.length _ _ 1 _ (by omega) (by omega) (by omega) Z14.out.2.2).mono ?_; rintro e w15 ⟨rfl, hw15⟩
  subst hw15
  go_wp2_with fail
  go_ret
  exact ⟨rfl, Z14.out.1.2.2⟩

theorem walk (t wn : Int) (a : Option Addr) (n c : Nat) (l : List Rs) (w : World) (wf : (l.length = n ∧ Reads w a (ress l)) ∧ (n : Int) ≤ 9223372036854775807) :
    Calls Try.prog 6 #[.agg #[.int .i64 t, .int .i64 wn, .slice a n c]] w fun e w' => e = .returned (.bool true) ∧ Below w.heap.size w w' := by
  obtain ⟨⟨rfl, hr⟩, hn⟩ := wf
  by_cases hl : (1048576 : Int) < (l.length : Int)
  · exact law_long t wn a _ c w hl hn
  · have hl' : (l.length : Int) ≤ 1048576 := by omega
    exact law_of t wn a c l (tabV t wn l) (goodL t wn l) (by have := tabV_len t wn l; omega) (fun g w h => specTable_any t wn l _ _ w (by omega) (Nat.le_refl _) h) (fun g w h => implTable_any t wn l _ _ w (by omega) (Nat.le_refl _) h) w hl' hr
end Go.Proofs.Ythbkclgdoopbpaa.ExLeagueTable
