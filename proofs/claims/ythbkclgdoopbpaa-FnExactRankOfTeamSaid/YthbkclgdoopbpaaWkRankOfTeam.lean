/- What the exact law of RankOfTeam does, step by step. -/
import Derived.Test.YthbkclgdoopbpaaLtRank
import Derived.Deep.RegionHeld3
namespace Go.Proofs.Ythbkclgdoopbpaa.ExRankOfTeam
open Go.RowKit
set_option linter.unusedVariables false
set_option linter.unusedSimpArgs false

set_option maxHeartbeats 400000 in
theorem law_long (t wn : Int) (a : Option Addr) (n c : Nat) (x0 : Int) (w : World) (hl : (1048576 : Int) < (n : Int)) (hn : (n : Int) ≤ 9223372036854775807) :
    Calls Try.prog 7 #[.agg #[.int .i64 t, .int .i64 wn, .slice a n c], .int .i64 x0] w fun e w' => e = .returned (.bool true) ∧ Below w.heap.size w w' := by
  have HZ := Lib.hid (fun w => szLeague_any t wn a n c 1048576 w hn (by omega) (by omega))
  have hz : szN 1048576 n = -1 := by unfold szN; rw [if_pos hl]
  rw [hz] at HZ; clear hz
  have HB := Lib.hid (Below.ofNew (w := w) (.cells #[.int .i64 t, .int .i64 wn, .slice a n c] 35))
  go_enter Try.func7, Try.ntmps7
  go_wp2_with fail
  refine (HZ.out _).mono ?_; rintro e w1 ⟨rfl, b1⟩
  have B1 := Lib.hid (HB.out.trans (b1.mono HB.out.size)); clear b1
  go_wp2_with fail
  go_ret
  exact ⟨rfl, B1.out⟩

set_option maxHeartbeats 1600000 in
theorem law_of (t wn : Int) (a : Option Addr) (c : Nat) (l : List Rs) (x0 : Int) (y0 : Int) (o1 : Bool) (hs : (∀ (g : Nat) (w : World), Reads w (some ⟨g, 0, none⟩) (ress l) → Calls Try.prog 24 #[.agg #[.int .i64 t, .int .i64 wn, .slice (some ⟨g, 0, none⟩) l.length l.length], .int .i64 x0] w fun e w' => e = .returned (.tuple #[.int .i64 y0, .bool o1]) ∧ Below w.heap.size w w')) (hi : (∀ (g : Nat) (w : World), Reads w (some ⟨g, 0, none⟩) (ress l) → Calls Try.prog 25 #[.agg #[.int .i64 t, .int .i64 wn, .slice (some ⟨g, 0, none⟩) l.length l.length], .int .i64 x0] w fun e w' => e = .returned (.tuple #[.int .i64 y0, .bool o1]) ∧ Below w.heap.size w w')) (w : World) (hl : (l.length : Int) ≤ 1048576) (h : Reads w a (ress l)) :
    Calls Try.prog 7 #[.agg #[.int .i64 t, .int .i64 wn, .slice a l.length c], .int .i64 x0] w fun e w' => e = .returned (.bool true) ∧ Below w.heap.size w w' := by
  have HS := Lib.hid hs; clear hs
  have HI := Lib.hid hi; clear hi
  have L0 := Lib.hid (LAt.start (t := t) (wn := wn) (c := c) h); clear h
  have HZ := Lib.hid (fun w => szLeague_any t wn a l.length c 1048576 w (by omega) (by omega) (by omega))
  have hz : szN 1048576 l.length = 1048576 - (l.length : Int) := by unfold szN; rw [if_neg (by omega)]
  rw [hz] at HZ; clear hz
  have q0 : ((y0 : Int) != y0) = false := by simp
  have q1 : (o1 != o1) = false := by simp
  go_enter Try.func7, Try.ntmps7
  go_wp2_with fail
  refine (HZ.out _).mono ?_; rintro e w0 ⟨rfl, b0⟩
  have L1 := Lib.hid (L0.out.keep b0); clear b0 L0
  obtain ⟨p0, p1, p2, -, -, -⟩ := L1.out.1.three
  go_wp2_with fail
  refine (toLeague_any t wn l _ _ _ hl L1.out.2.1).mono ?_; rintro e w1 ⟨g1, rfl, -, r1, b1⟩
  have L2 := Lib.hid (L1.out.keep b1)
  have R1 := Lib.hid r1.reads; clear r1 b1 L1 p0 p1 p2
  obtain ⟨p0, p1, p2, -, -, -⟩ := L2.out.1.three
  go_wp2_with fail
  refine (HS.out _ _ R1.out).mono ?_; rintro e w2 ⟨rfl, b2⟩
  have L3 := Lib.hid (L2.out.keep b2); clear b2 L2 p0 p1 p2 R1
  obtain ⟨p0, p1, p2, -, -, -⟩ := L3.out.1.three
  go_wp2_with fail
  refine (toLeague_any t wn l _ _ _ hl L3.out.2.1).mono ?_; rintro e w3 ⟨g3, rfl, -, r3, b3⟩
  have L4 := Lib.hid (L3.out.keep b3)
  have X4 : Hid (CopAt w t wn a l c w3.heap.size g3 (w3.alloc (.cells #[.int .i64 t, .int .i64 wn, .slice (some ⟨g3, 0, none⟩) l.length l.length] 40))) := ⟨L4.out.keep (Below.ofNew _), ObAt.new _ _ _, r3.reads.old (Below.ofNew _)⟩
  clear r3 b3 L3 p0 p1 p2 L4
  generalize hg5 : w3.heap.size = g5 at *
  go_wp2_with fail
  obtain ⟨p0, p1, p2, p3, p4, p5, -⟩ := X4.out.full
  refine (HI.out _ _ X4.out.2.2).mono ?_; rintro e w4 ⟨rfl, b4⟩
  have X5 := Lib.hid (X4.out.keep b4).drew
  have X5' := Lib.hid (X4.out.keep b4); clear b4 X4 p0 p1 p2 p3 p4 p5
  obtain ⟨p0, p1, p2, p3, p4, p5, -⟩ := X5'.out.full
  go_wp2_with fail
  clear p0 p1 p2 p3 p4 p5
  refine wp_region_held_drew (S := fun w' => w'.cell? ⟨w.heap.size, 0, none⟩ = some (.int .i64 t) ∧ w'.cell? ⟨w.heap.size, 1, none⟩ = some (.int .i64 wn) ∧ w'.cell? ⟨w.heap.size, 2, none⟩ = some (.slice a l.length c) ∧ w'.cell? ⟨g5, 0, none⟩ = some (.int .i64 t) ∧ w'.cell? ⟨g5, 1, none⟩ = some (.int .i64 wn) ∧ w'.cell? ⟨g5, 2, none⟩ = some (.slice (some ⟨g3, 0, none⟩) l.length l.length) ∧ CopAt w t wn a l c g5 g3 w') (by kernel_rfl) X5.out.full (fun hHeld => ?_)
  (refine wpAnyH_take (i := 0) (v := ?_) rfl (by kernel_rfl) (by kernel_rfl) (by kernel_rfl) (fun _ _ _ h => h) (Or.inl ⟨by kernel_rfl, ?_⟩) (by assumption) ?_; rotate_left; focus (intro w hSw; (try dsimp only at hSw); go_simp; try with_reducible rfl); (try simp only [List.getElem_toArray, List.getElem_cons_succ, List.getElem_cons_zero, Act.put, List.setIfInBounds_toArray, List.set_cons_zero, List.set_cons_succ])); (refine wpAnyH_take (i := 1) (v := ?_) rfl (by kernel_rfl) (by kernel_rfl) (by kernel_rfl) (fun _ _ _ h => h) (Or.inl ⟨by kernel_rfl, ?_⟩) (by assumption) ?_; rotate_left; focus (intro w hSw; (try dsimp only at hSw); go_simp; try with_reducible rfl); (try simp only [List.getElem_toArray, List.getElem_cons_succ, List.getElem_cons_zero, Act.put, List.setIfInBounds_toArray, List.set_cons_zero, List.set_cons_succ]))
  refine wpAnyH_ready (rs := [2]) (by kernel_rfl) (by simp) ?_; refine AllReadyH.cons rfl (fun K hK => ?_) AllReadyH.nil
  go_simp
  go_at_call 20
  refine (toLeague_any t wn l _ _ _ hl X5.out.1.2.1).mono ?_; rintro e w6 ⟨g6, rfl, -, r6, b6⟩
  have X6 := Lib.hid (X5.out.keep b6)
  have R6 := Lib.hid r6.reads; clear r6 b6 X5 X5' hHeld
  go_wp2_with fail
  first
    | refine hK.out _ _ X6.out.full (fun hHeld => ?_)
    | refine hK _ _ X6.out.full (fun hHeld => ?_)
  clear hK K
  (try simp only [List.getElem_toArray, List.getElem_cons_succ, List.getElem_cons_zero, Act.put, List.setIfInBounds_toArray, List.set_cons_zero, List.set_cons_succ])
  refine wpAnyH_ready (rs := [3]) (by kernel_rfl) (by simp) ?_; refine AllReadyH.cons rfl (fun K hK => ?_) AllReadyH.nil
  go_simp
  go_at_call 22
  refine (eqLeague_same t wn l _ _ _ hl X6.out.2.2 R6.out).mono ?_; rintro e w7 ⟨rfl, b7⟩
  have X7 := Lib.hid (X6.out.keep b7); clear b7 X6 hHeld R6
  go_wp2_with fail
  first
    | refine hK.out _ _ X7.out.full (fun hHeld => ?_)
    | refine hK _ _ X7.out.full (fun hHeld => ?_)
  clear hK K
  (try simp only [List.getElem_toArray, List.getElem_cons_succ, List.getElem_cons_zero, Act.put, List.setIfInBounds_toArray, List.set_cons_zero, List.set_cons_succ])
  (refine wpAnyH_take (i := 4) (v := ?_) rfl (by kernel_rfl) (by kernel_rfl) (by kernel_rfl) (fun _ _ _ h => h) (Or.inl ⟨by kernel_rfl, ?_⟩) (by assumption) ?_; rotate_left; focus (intro w hSw; (try dsimp only at hSw); go_simp; try with_reducible rfl); (try simp only [List.getElem_toArray, List.getElem_cons_succ, List.getElem_cons_zero, Act.put, List.setIfInBounds_toArray, List.set_cons_zero, List.set_cons_succ]))
  refine wpAnyH_done (by kernel_rfl) ?_ _
  clear hHeld
  go_wp2_with fail
  go_ret
  exact ⟨rfl, X7.out.1.2.2⟩

/-- The model and the program hand back the same. -/
theorem agree (t wn : Int) (l : List Rs) (x0 : Int) (hl : (l.length : Int) ≤ 1048576) :
    ∃ (y0 : Int) (o1 : Bool), (∀ (g : Nat) (w : World), Reads w (some ⟨g, 0, none⟩) (ress l) → Calls Try.prog 24 #[.agg #[.int .i64 t, .int .i64 wn, .slice (some ⟨g, 0, none⟩) l.length l.length], .int .i64 x0] w fun e w' => e = .returned (.tuple #[.int .i64 y0, .bool o1]) ∧ Below w.heap.size w w') ∧ (∀ (g : Nat) (w : World), Reads w (some ⟨g, 0, none⟩) (ress l) → Calls Try.prog 25 #[.agg #[.int .i64 t, .int .i64 wn, .slice (some ⟨g, 0, none⟩) l.length l.length], .int .i64 x0] w fun e w' => e = .returned (.tuple #[.int .i64 y0, .bool o1]) ∧ Below w.heap.size w w') := by
  exact ⟨_, _, fun g w h => specRank_any t wn l _ _ x0 w (by omega) (Nat.le_refl _) h, fun g w h => implRank_any t wn l _ _ x0 w (by omega) (Nat.le_refl _) h⟩

theorem walk (t wn : Int) (a : Option Addr) (n c : Nat) (l : List Rs) (x0 : Int) (w : World) (wf : (l.length = n ∧ Reads w a (ress l)) ∧ (n : Int) ≤ 9223372036854775807) :
    Calls Try.prog 7 #[.agg #[.int .i64 t, .int .i64 wn, .slice a n c], .int .i64 x0] w fun e w' => e = .returned (.bool true) ∧ Below w.heap.size w w' := by
  obtain ⟨⟨rfl, hr⟩, hn⟩ := wf
  by_cases hl : (1048576 : Int) < (l.length : Int)
  · exact law_long t wn a _ c x0 w hl hn
  · have hl' : (l.length : Int) ≤ 1048576 := by omega
    obtain ⟨y0, o1, hs, hi⟩ := agree t wn l x0 hl'
    exact law_of t wn a c l x0 y0 o1 hs hi w hl' hr
end Go.Proofs.Ythbkclgdoopbpaa.ExRankOfTeam
