/- What the exact law of HarderPuzzle does, step by step. -/
import Derived.Test.YtcigighklghjkaaDoorPzHardI
import Derived.Deep.RegionHeld3
namespace Go.Proofs.YtcigighklghjkaaDoor.ExHarderPuzzle
open Go.RowKit
set_option linter.unusedVariables false
set_option linter.unusedSimpArgs false

set_option maxHeartbeats 400000 in
theorem law_long (t : Int) (a : Option Addr) (n c : Nat) (w : World) (hl : (1048576 : Int) < (n : Int)) (hn : (n : Int) ≤ 9223372036854775807) :
    Calls Tryd.prog 12 #[.agg #[.int .i64 t, .slice a n c]] w fun e w' => e = .returned (.bool true) ∧ Below w.heap.size w w' := by
  have HZ := Lib.hid (fun w => szPuzzle_any t a n c 1048576 w hn (by omega) (by omega))
  have hz : szN 1048576 n = -1 := by unfold szN; rw [if_pos hl]
  rw [hz] at HZ; clear hz
  have HB := Lib.hid (Below.ofNew (w := w) (.cells #[.int .i64 t, .slice a n c] 31))
  go_enter Tryd.func12, Tryd.ntmps12
  go_wp2_with fail
  refine (HZ.out _).mono ?_; rintro e w1 ⟨rfl, b1⟩
  have B1 := Lib.hid (HB.out.trans (b1.mono HB.out.size)); clear b1
  go_wp2_with fail
  go_ret
  exact ⟨rfl, B1.out⟩

def LwB (w : World) (t : Int) (a : Option Addr) (l : List Cl) (c g5 g3 : Nat) (m : List Cl) (a2 : Option Addr) (B : Nat) (v4 : Value) (t' : Int) (c2 g4 c4 g7 : Nat) (a4 : Option Addr) (wi : World) : Prop :=
  LwAt w t a l c g5 g3 m a2 B v4 wi ∧ BxL t' m.length a2 c2 g4 a4 c4 g7 wi
theorem LwB.keep {w : World} {t : Int} {a : Option Addr} {l : List Cl} {c g5 g3 : Nat} {m : List Cl} {a2 : Option Addr} {B : Nat} {v4 : Value} {t' : Int} {c2 g4 c4 g7 : Nat} {a4 : Option Addr} {wi wj : World} (h : LwB w t a l c g5 g3 m a2 B v4 t' c2 g4 c4 g7 a4 wi) (hb : Below wi.heap.size wi wj) : LwB w t a l c g5 g3 m a2 B v4 t' c2 g4 c4 g7 a4 wj := ⟨h.1.keep hb, h.2.keep hb⟩
theorem full {w : World} {t : Int} {a : Option Addr} {l : List Cl} {c g5 g3 : Nat} {m : List Cl} {a2 : Option Addr} {B : Nat} {v4 : Value} {t' : Int} {c2 g4 c4 g7 : Nat} {a4 : Option Addr} {w' : World} (h : LwB w t a l c g5 g3 m a2 B v4 t' c2 g4 c4 g7 a4 w') :
    w'.cell? ⟨w.heap.size, 0, none⟩ = some (.int .i64 t) ∧ w'.cell? ⟨w.heap.size, 1, none⟩ = some (.slice a l.length c) ∧ w'.cell? ⟨g5, 0, none⟩ = some (.int .i64 t) ∧ w'.cell? ⟨g5, 1, none⟩ = some (.slice (some ⟨g3, 0, none⟩) l.length l.length) ∧ LwB w t a l c g5 g3 m a2 B v4 t' c2 g4 c4 g7 a4 w' := by
  obtain ⟨h0, h1, h3, h4, -⟩ := h.1.1.full
  exact ⟨h0, h1, h3, h4, h⟩

set_option maxHeartbeats 3200000 in
theorem law_of (pe0 pe1 : Addr) (t : Int) (a : Option Addr) (c : Nat) (l : List Cl) (t' : Int) (m : List Cl) (o : Bool) (hL : (m.length : Int) ≤ 1000) (hs : (∀ (g : Nat) (w : World), Reads w (some ⟨g, 0, none⟩) (clus l) → Calls Tryd.prog 43 #[.agg #[.int .i64 t, .slice (some ⟨g, 0, none⟩) l.length l.length]] w fun e w' => PzR t' m o w e w')) (hi : (∀ (g : Nat) (w : World), PzDoor w pe0 pe1 → Reads w (some ⟨g, 0, none⟩) (clus l) → Calls Tryd.prog 44 #[.agg #[.int .i64 t, .slice (some ⟨g, 0, none⟩) l.length l.length]] w fun e w' => PzR t' m o w e w')) (w : World) (hl : (l.length : Int) ≤ 1048576) (h : Reads w a (clus l)) (he : PzDoor w pe0 pe1) :
    Calls Tryd.prog 12 #[.agg #[.int .i64 t, .slice a l.length c]] w fun e w' => e = .returned (.bool true) ∧ Below w.heap.size w w' := by
  have HS := Lib.hid hs; clear hs
  have HI := Lib.hid hi; clear hi
  have HE := Lib.hid he; clear he
  have L0 := Lib.hid (LAt.start (t := t) (c := c) h)
  have HR := Lib.hid h; clear h
  have HZ := Lib.hid (fun w => szPuzzle_any t a l.length c 1048576 w (by omega) (by omega) (by omega))
  have hz : szN 1048576 l.length = 1048576 - (l.length : Int) := by unfold szN; rw [if_neg (by omega)]
  rw [hz] at HZ; clear hz
  have q1 : (o != o) = false := by simp
  go_enter Tryd.func12, Tryd.ntmps12
  go_wp2_with fail
  refine (HZ.out _).mono ?_; rintro e w0 ⟨rfl, b0⟩
  have L1 := Lib.hid (L0.out.keep b0); clear b0 L0
  obtain ⟨p0, p1, -, -⟩ := L1.out.1.two
  go_wp2_with fail
  refine (toPuzzle_any t l _ _ _ hl L1.out.2.1).mono ?_; rintro e w1 ⟨g1, rfl, -, r1, b1⟩
  have L2 := Lib.hid (L1.out.keep b1)
  have R1 := Lib.hid r1.reads; clear r1 b1 L1 p0 p1
  obtain ⟨p0, p1, -, -⟩ := L2.out.1.two
  go_wp2_with fail
  refine (HS.out _ _ R1.out).mono ?_; rintro e w2 ⟨a2, c2, rfl, o2, b2⟩
  obtain ⟨x2, y2, ev, r2, -, -, -⟩ := Reads.own o2
  injection ev with ev1 ev2 ev3
  subst ev1 ev3
  clear ev2
  have lt2 : ∀ b, blockOf a2 = some b → b < w2.heap.size := fun b e => (owns_ge o2 (own_block.trans e)).2
  have bn2 := Below.ofNew (w := w2) (.cells #[.int .i64 t', .slice a2 m.length c2] 38)
  have L3 : Hid (LAt w t a l c (w2.alloc (.cells #[.int .i64 t', .slice a2 m.length c2] 38)) ∧ Reads (w2.alloc (.cells #[.int .i64 t', .slice a2 m.length c2] 38)) a2 (clus m) ∧ (∀ b, blockOf a2 = some b → b < w2.heap.size) ∧ ObAt (w2.alloc (.cells #[.int .i64 t', .slice a2 m.length c2] 38)) w2.heap.size 38 #[.int .i64 t', .slice a2 m.length c2]) :=
    ⟨(L2.out.keep b2).keep bn2, r2.old bn2, lt2, ObAt.new _ _ _⟩
  clear b2 L2 p0 p1 R1 o2 r2 lt2 bn2
  obtain ⟨p0, p1, -, -⟩ := L3.out.1.1.two
  have hws := L3.out.1.1.lt
  rw [World.size_alloc] at hws
  go_wp2_with fail
  refine (toPuzzle_any t l _ _ _ hl L3.out.1.2.1).mono ?_; rintro e w3 ⟨g3, rfl, hge3, r3, b3⟩
  have bn := Below.ofNew (w := w3) (.cells #[.int .i64 t, .slice (some ⟨g3, 0, none⟩) l.length l.length] 38)
  rw [World.size_alloc] at hge3
  have X4 : Hid (CopAt w t a l c w3.heap.size g3 (w3.alloc (.cells #[.int .i64 t, .slice (some ⟨g3, 0, none⟩) l.length l.length] 38)) ∧ Reads (w3.alloc (.cells #[.int .i64 t, .slice (some ⟨g3, 0, none⟩) l.length l.length] 38)) a2 (clus m) ∧ Writable (w3.alloc (.cells #[.int .i64 t, .slice (some ⟨g3, 0, none⟩) l.length l.length] 38)) (some ⟨g3, 0, none⟩) (l.length * 3) ∧ ObAt (w3.alloc (.cells #[.int .i64 t, .slice (some ⟨g3, 0, none⟩) l.length l.length] 38)) w2.heap.size 38 #[.int .i64 t', .slice a2 m.length c2]) :=
    ⟨⟨(L3.out.1.keep b3).keep bn, ObAt.new _ _ _, r3.reads.old bn⟩, (L3.out.2.1.old b3).old bn, r3.writable.keep bn, (L3.out.2.2.2.keep b3).keep bn⟩
  have hlt3 := r3.1
  have hsz3 := b3.size
  rw [World.size_alloc] at hsz3
  have HF : Hid (w.heap.size ≤ w2.heap.size ∧ w2.heap.size < g3 ∧ g3 < (w3.alloc (.cells #[.int .i64 t, .slice (some ⟨g3, 0, none⟩) l.length l.length] 38)).heap.size ∧ (∀ b, blockOf a2 = some b → b < w2.heap.size)) :=
    ⟨by omega, by omega, by simp; omega, L3.out.2.2.1⟩
  have HF2 : Hid (w.heap.size < g3) := Lib.hid (by omega)
  clear r3 b3 L3 p0 p1 bn hlt3 hsz3 hws hge3
  generalize hg5 : w3.heap.size = g5 at *
  generalize hg4 : w2.heap.size = g4 at *
  obtain ⟨B, hB⟩ : ∃ B, B = (w3.alloc (.cells #[.int .i64 t, .slice (some ⟨g3, 0, none⟩) l.length l.length] 38)).heap.size := ⟨_, rfl⟩
  rw [← hB] at HF
  go_wp2_with fail
  obtain ⟨p0, p1, p3, p4, -⟩ := X4.out.1.full
  refine (HI.out _ _ (HE.out.keep X4.out.1.1.2.2) X4.out.1.2.2).mono ?_; rintro e w4 ⟨a4, c4, rfl, o4, b4⟩
  have hB4 := b4.size
  rw [← hB] at o4 hB4
  clear hB
  have lt4 : ∀ b, blockOf a4 = some b → b < w4.heap.size := fun b e => (owns_ge o4 (own_block.trans e)).2
  have ge4 : ∀ b, blockOf a4 = some b → B ≤ b := fun b e => (owns_ge o4 (own_block.trans e)).1
  have bn4 := Below.ofNew (w := w4) (.cells #[.int .i64 t', .slice a4 m.length c4] 38)
  obtain ⟨g7, hg7⟩ : ∃ g7, g7 = w4.heap.size := ⟨_, rfl⟩
  have HF4 : Hid ((∀ b, blockOf a4 = some b → B ≤ b ∧ b < g7) ∧ B ≤ g7) := ⟨fun b e => ⟨ge4 b e, by rw [hg7]; exact lt4 b e⟩, by rw [hg7]; exact hB4⟩
  have Y5 : Hid (LwB w t a l c g5 g3 m a2 B (.slice a4 m.length c4) t' c2 g4 c4 g7 a4 (w4.alloc (.cells #[.int .i64 t', .slice a4 m.length c4] 38))) :=
    ⟨⟨(X4.out.1.keep b4).keep bn4, (X4.out.2.1.old b4).old bn4, owns_below o4 bn4, (X4.out.2.2.1.keep b4).keep bn4⟩, ((X4.out.2.2.2.keep b4).keep bn4), by rw [hg7]; exact ObAt.new _ _ _⟩
  clear ge4 lt4 o4 b4 X4 p0 p1 p3 p4 bn4 hB4
  obtain ⟨b0, b1, b3, b4⟩ := Y5.out.2.full
  rw [hg7] at b3 b4
  go_wp2_with fail
  try rw [← hg7]
  rw [← hg7] at b3 b4
  clear hg7
  obtain ⟨x4, y4, ev, r4, -, -, -⟩ := Reads.own Y5.out.1.2.2.1
  injection ev with ev1 ev2 ev3
  subst ev1 ev3
  clear ev2
  refine (eq_sameL t' m _ _ _ _ _ (by omega) r4 Y5.out.1.2.1).mono ?_; rintro e w5 ⟨rfl, bb5⟩
  have Y6 := Lib.hid (Y5.out.keep bb5); clear bb5 Y5 r4 b0 b1 b3 b4
  have Y6d := Lib.hid (Y6.out.keep (Below.drew (Below.refl _ _)))
  obtain ⟨p0, p1, p3, p4, -⟩ := full Y6.out
  go_wp2_with fail
  clear p0 p1 p3 p4
  refine wp_region_held_drew (S := fun w' => w'.cell? ⟨w.heap.size, 0, none⟩ = some (.int .i64 t) ∧ w'.cell? ⟨w.heap.size, 1, none⟩ = some (.slice a l.length c) ∧ w'.cell? ⟨g5, 0, none⟩ = some (.int .i64 t) ∧ w'.cell? ⟨g5, 1, none⟩ = some (.slice (some ⟨g3, 0, none⟩) l.length l.length) ∧ LwB w t a l c g5 g3 m a2 B (.slice a4 m.length c4) t' c2 g4 c4 g7 a4 w') (by kernel_rfl) (full Y6d.out) (fun hHeld => ?_)
  (refine wpAnyH_take (i := 0) (v := ?_) rfl (by kernel_rfl) (by kernel_rfl) (by kernel_rfl) (fun _ _ _ h => h) (Or.inl ⟨by kernel_rfl, ?_⟩) (by assumption) ?_; rotate_left; focus (intro w hSw; (try dsimp only at hSw); go_simp; try with_reducible rfl); (try simp only [List.getElem_toArray, List.getElem_cons_succ, List.getElem_cons_zero, Act.put, List.setIfInBounds_toArray, List.set_cons_zero, List.set_cons_succ])); (refine wpAnyH_take (i := 1) (v := ?_) rfl (by kernel_rfl) (by kernel_rfl) (by kernel_rfl) (fun _ _ _ h => h) (Or.inl ⟨by kernel_rfl, ?_⟩) (by assumption) ?_; rotate_left; focus (intro w hSw; (try dsimp only at hSw); go_simp; try with_reducible rfl); (try simp only [List.getElem_toArray, List.getElem_cons_succ, List.getElem_cons_zero, Act.put, List.setIfInBounds_toArray, List.set_cons_zero, List.set_cons_succ]))
  refine wpAnyH_ready (rs := [2]) (by kernel_rfl) (by simp) ?_; refine AllReadyH.cons rfl (fun K hK => ?_) AllReadyH.nil
  go_simp
  go_at_call 19
  refine (toPuzzle_any t l _ _ _ hl Y6d.out.1.1.1.2.1).mono ?_; rintro e w6 ⟨g6, rfl, -, r6, b6⟩
  have Y7 := Lib.hid (Y6d.out.keep b6)
  have R6 := Lib.hid r6.reads; clear r6 b6 Y6 Y6d hHeld
  go_wp2_with fail
  first
    | refine hK.out _ _ (full Y7.out) (fun hHeld => ?_)
    | refine hK _ _ (full Y7.out) (fun hHeld => ?_)
  clear hK K
  (try simp only [List.getElem_toArray, List.getElem_cons_succ, List.getElem_cons_zero, Act.put, List.setIfInBounds_toArray, List.set_cons_zero, List.set_cons_succ])
  refine wpAnyH_ready (rs := [3]) (by kernel_rfl) (by simp) ?_; refine AllReadyH.cons rfl (fun K hK => ?_) AllReadyH.nil
  go_simp
  go_at_call 22
  refine (eqPuzzle_same t l _ _ _ hl Y7.out.1.1.2.2 R6.out).mono ?_; rintro e w7 ⟨rfl, b7⟩
  have Y8 := Lib.hid (Y7.out.keep b7); clear b7 Y7 hHeld R6
  go_wp2_with fail
  first
    | refine hK.out _ _ (full Y8.out) (fun hHeld => ?_)
    | refine hK _ _ (full Y8.out) (fun hHeld => ?_)
  clear hK K
  (try simp only [List.getElem_toArray, List.getElem_cons_succ, List.getElem_cons_zero, Act.put, List.setIfInBounds_toArray, List.set_cons_zero, List.set_cons_succ])
  (refine wpAnyH_take (i := 4) (v := ?_) rfl (by kernel_rfl) (by kernel_rfl) (by kernel_rfl) (fun _ _ _ h => h) (Or.inl ⟨by kernel_rfl, ?_⟩) (by assumption) ?_; rotate_left; focus (intro w hSw; (try dsimp only at hSw); go_simp; try with_reducible rfl); (try simp only [List.getElem_toArray, List.getElem_cons_succ, List.getElem_cons_zero, Act.put, List.setIfInBounds_toArray, List.set_cons_zero, List.set_cons_succ]))
  refine wpAnyH_done (by kernel_rfl) ?_ _
  clear hHeld
  obtain ⟨p0, p1, p3, p4, -⟩ := full Y8.out
  go_wp2_with fail
  refine (markPuzzle_any t l.length _ _ 1 _ (by omega) (by omega) (by omega) Y8.out.1.2.2.2).mono ?_; rintro e w8 ⟨rfl, hw8⟩
  have bn := Below.ofNew (w := w7) (.cells #[.int .i64 t, .slice (some ⟨g3, 0, none⟩) l.length l.length] 38)
  have Z8 : Hid (LmAt w t a l c m a2 B (.slice a4 m.length c4) w8 ∧ BxL t' m.length a2 c2 g4 a4 c4 g7 w8) := by
    have h9 := Y8.out.keep bn
    rw [hw8]
    refine ⟨⟨h9.1.1.1.write HR.out (fun b e => by simp [blockOf] at e; subst e; exact HF2.out) _, h9.1.2.1.write_other (fun b e e2 => by simp [blockOf] at e2; have := HF.out.2.2.2 b e; have := HF.out.2.1; omega) _, owns_heap h9.1.2.2.1 (fun k e => write_heap _ _ _ _ (by
      rw [own_block] at e
      have := HF4.out.1 k e
      have := HF.out.2.2.1
      simp [blockOf]; omega))⟩, h9.2.write (by have := HF.out.2.1; simp [blockOf]; omega) (by have := HF.out.2.2.1; have := HF4.out.2; simp [blockOf]; omega) _⟩
  clear hw8 bn Y8 p0 p1 p3 p4
  have k1 : ((1 : Int) + ((l.length * 3 : Nat) : Int) < 0) = False := by simp; omega
  obtain ⟨b0, b1, b3, b4⟩ := Z8.out.2.full
  go_wp2_with fail
  obtain ⟨x4, y4, ev, r4, -, -, -⟩ := Reads.own Z8.out.1.2.2
  injection ev with ev1 ev2 ev3
  subst ev1 ev3
  clear ev2
  refine (eq_sameL t' m _ _ _ _ _ (by omega) r4 Z8.out.1.2.1).mono ?_; rintro e w9 ⟨rfl, b9⟩
  have Z9 := Lib.hid (And.intro (Z8.out.1.keep b9) (Z8.out.2.keep b9)); clear b9 Z8 r4 b0 b1 b3 b4
  obtain ⟨b0, b1, b3, b4⟩ := Z9.out.2.full
  go_wp2_with fail
  have bn9 := Below.ofNew (w := w9) (.cells #[.int .i64 t', .slice a4 m.length c4] 38)
  have wr9 := Writable.own Z9.out.1.2.2
  refine (markPuzzle_any t' m.length _ _ 1 _ (by omega) (by omega) (by omega) wr9).mono ?_; rintro e w10 ⟨rfl, hw10⟩
  have Z10 : Hid (LkAt w t a l c m a2 a4 w10 ∧ BxL t' m.length a2 c2 g4 a4 c4 g7 w10) := by
    have h9 := Z9.out.1.keep bn9
    have h9b := Z9.out.2.keep bn9
    rw [hw10]
    refine ⟨⟨h9.1.write HR.out (fun b e => by have := HF4.out.1 b e; have := HF2.out; have := HF.out.2.2.1; omega) _, h9.2.1.write_other (fun b e e2 => by have := HF4.out.1 b e2; have := HF.out.2.2.2 b e; have := HF.out.2.1; have := HF.out.2.2.1; omega) _, Reads.written (by rw [ints_len, marks_len]; exact wr9.keep bn9)⟩, h9b.write (fun e => by have := HF4.out.1 _ e; have := HF.out.2.1; have := HF.out.2.2.1; omega) (fun e => by have := HF4.out.1 _ e; omega) _⟩
  clear hw10 wr9 Z9 bn9 b0 b1 b3 b4
  have k2 : ((1 : Int) + ((m.length * 3 : Nat) : Int) < 0) = False := by simp; omega
  have k3 : ((1 : Int) + ((m.length * 3 : Nat) : Int) != 1 + ((m.length * 3 : Nat) : Int)) = false := by simp
  obtain ⟨b0, b1, b3, b4⟩ := Z10.out.2.full
  go_wp2_with fail
  refine (heldPuzzle_any t' m.length _ _ 1 _ (by omega) (by omega) (by omega) Z10.out.1.2.2).mono ?_; rintro e w11 ⟨rfl, b11⟩
  have Z11 := Lib.hid (And.intro (Z10.out.1.keep b11) (Z10.out.2.keep b11)); clear b11 Z10 b0 b1 b3 b4
  obtain ⟨p0, p1, -, -⟩ := Z11.out.1.1.1.two
  go_wp2_with fail
  refine (toPuzzle_any t l _ _ _ hl Z11.out.1.1.2.1).mono ?_; rintro e w12 ⟨g12, rfl, -, r12, b12⟩
  have Z12 := Lib.hid (And.intro r12.reads (And.intro (Z11.out.1.keep b12) (Z11.out.2.keep b12))); clear r12 b12 Z11 p0 p1
  go_wp2_with fail
  refine (HI.out _ _ (HE.out.keep Z12.out.2.1.1.2.2) Z12.out.1).mono ?_; rintro e w13 ⟨a13, c13, rfl, o13, b13⟩
  obtain ⟨x13, y13, ev, r13, -, -, -⟩ := Reads.own o13
  injection ev with ev1 ev2 ev3
  subst ev1 ev3
  clear ev2
  have bn13 := Below.ofNew (w := w13) (.cells #[.int .i64 t', .slice a13 m.length c13] 38)
  have Z13 := Lib.hid (And.intro (r13.old bn13) (And.intro ((Z12.out.2.1.keep b13).keep bn13) ((Z12.out.2.2.keep b13).keep bn13)))
  have hz13 := ((Z12.out.2.2.keep b13).1).lt
  clear r13 b13 o13 Z12 bn13
  obtain ⟨b0, b1, b3, b4⟩ := Z13.out.2.2.full
  go_wp2_with fail
  refine (eq_sameL t' m _ _ _ _ _ (by omega) Z13.out.1 Z13.out.2.1.2.1).mono ?_; rintro e w14 ⟨rfl, b14⟩
  have Z14 := Lib.hid (And.intro (Z13.out.2.1.keep b14) (Z13.out.2.2.keep b14)); clear b14 Z13 b0 b1 b3 b4
  obtain ⟨b0, b1, b3, b4⟩ := Z14.out.2.full
  go_wp2_with fail
  refine (heldPuzzle_any t' m.length _ _ 1 _ (by omega) (by omega) (by omega) Z14.out.1.2.2).mono ?_; rintro e w15 ⟨rfl, b15⟩
  have Z15 := Lib.hid (Z14.out.1.1.2.2.trans (b15.mono Z14.out.1.1.2.2.size)); clear b15 Z14
  go_wp2_with fail
  go_ret
  exact ⟨rfl, Z15.out⟩

theorem walk (t : Int) (a : Option Addr) (n c : Nat) (l : List Cl) (pe0 pe1 : Addr) (w : World) (wf : (l.length = n ∧ Reads w a (clus l)) ∧ (n : Int) ≤ 9223372036854775807) (he : PzDoor w pe0 pe1) :
    Calls Tryd.prog 12 #[.agg #[.int .i64 t, .slice a n c]] w fun e w' => e = .returned (.bool true) ∧ Below w.heap.size w w' := by
  obtain ⟨⟨rfl, hr⟩, hn⟩ := wf
  by_cases hl : (1048576 : Int) < (l.length : Int)
  · exact law_long t a _ c w hl hn
  · have hl' : (l.length : Int) ≤ 1048576 := by omega
    exact law_of pe0 pe1 t a c l (hardP t l) (hardO t l) (hardOk t l) (hardO_len t l) (fun g w h => specHarder_any t l g _ w (by omega) h) (fun g w he h => implHarder_any t l g _ pe0 pe1 w (by omega) h he) w hl' hr he
end Go.Proofs.YtcigighklghjkaaDoor.ExHarderPuzzle
