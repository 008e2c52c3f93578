/- What the exact law of PuzzleText does, step by step. -/
import Derived.Test.YtbgdngfjeikheaaDoorPzTxI
import Derived.Deep.RegionHeld3
namespace Go.Proofs.YtbgdngfjeikheaaDoor.ExPuzzleText
open Go.RowKit
set_option linter.unusedVariables false
set_option linter.unusedSimpArgs false

set_option maxHeartbeats 400000 in
theorem law_long (t : Int) (a : Option Addr) (n c : Nat) (w : World) (hl : (1048576 : Int) < (n : Int)) (hn : (n : Int) ≤ 9223372036854775807) :
    Calls Tryd.prog 4 #[.agg #[.int .i64 t, .slice a n c]] w fun e w' => e = .returned (.bool true) ∧ Below w.heap.size w w' := by
  have HZ := Lib.hid (fun w => szPuzzle_any t a n c 1048576 w hn (by omega) (by omega))
  have hz : szN 1048576 n = -1 := by unfold szN; rw [if_pos hl]
  rw [hz] at HZ; clear hz
  have HB := Lib.hid (Below.ofNew (w := w) (.cells #[.int .i64 t, .slice a n c] 32))
  go_enter Tryd.func4, Tryd.ntmps4
  go_wp2_with fail
  refine (HZ.out _).mono ?_; rintro e w1 ⟨rfl, b1⟩
  have B1 := Lib.hid (HB.out.trans (b1.mono HB.out.size)); clear b1
  go_wp2_with fail
  go_ret
  exact ⟨rfl, B1.out⟩

set_option maxHeartbeats 1600000 in
theorem law_of (t : Int) (a : Option Addr) (c : Nat) (l : List Cl) (t0 : ByteArray) (o1 : Bool) (hs : (∀ (g : Nat) (w : World), Reads w (some ⟨g, 0, none⟩) (clus l) → Calls Tryd.prog 19 #[.agg #[.int .i64 t, .slice (some ⟨g, 0, none⟩) l.length l.length]] w fun e w' => e = .returned (.tuple #[.string t0, .bool o1]) ∧ Below w.heap.size w w')) (hi : (∀ (g : Nat) (w : World), Reads w (some ⟨g, 0, none⟩) (clus l) → Calls Tryd.prog 21 #[.agg #[.int .i64 t, .slice (some ⟨g, 0, none⟩) l.length l.length]] w fun e w' => e = .returned (.tuple #[.string t0, .bool o1]) ∧ Below w.heap.size w w')) (w : World) (hl : (l.length : Int) ≤ 1048576) (h : Reads w a (clus l)) :
    Calls Tryd.prog 4 #[.agg #[.int .i64 t, .slice a l.length c]] w fun e w' => e = .returned (.bool true) ∧ Below w.heap.size w w' := by
  obtain ⟨V⟩ := t0
  have HS := Lib.hid hs; clear hs
  have HI := Lib.hid hi; clear hi
  have L0 := Lib.hid (LAt.start (t := t) (c := c) h); clear h
  have HZ := Lib.hid (fun w => szPuzzle_any t a l.length c 1048576 w (by omega) (by omega) (by omega))
  have hz : szN 1048576 l.length = 1048576 - (l.length : Int) := by unfold szN; rw [if_neg (by omega)]
  rw [hz] at HZ; clear hz
  have q0 : (V.toList != V.toList) = false := by simp
  have q2 : (V != V) = false := by simp
  have q1 : (o1 != o1) = false := by simp
  go_enter Tryd.func4, Tryd.ntmps4
  go_wp2_with fail
  refine (HZ.out _).mono ?_; rintro e w0 ⟨rfl, b0⟩
  have L1 := Lib.hid (L0.out.keep b0); clear b0 L0
  obtain ⟨p0, p1, -, -⟩ := L1.out.1.two
  go_wp2_with fail
  refine (toPuzzle_any t l _ _ _ hl L1.out.2.1).mono ?_; rintro e w1 ⟨g1, rfl, -, r1, b1⟩
  have L2 := Lib.hid (L1.out.keep b1)
  have R1 := Lib.hid r1.reads; clear r1 b1 L1 p0 p1
  obtain ⟨p0, p1, -, -⟩ := L2.out.1.two
  go_wp2_with fail
  refine (HS.out _ _ R1.out).mono ?_; rintro e w2 ⟨rfl, b2⟩
  have L3 := Lib.hid (L2.out.keep b2); clear b2 L2 p0 p1 R1
  obtain ⟨p0, p1, -, -⟩ := L3.out.1.two
  go_wp2_with fail
  refine (toPuzzle_any t l _ _ _ hl L3.out.2.1).mono ?_; rintro e w3 ⟨g3, rfl, -, r3, b3⟩
  have L4 := Lib.hid (L3.out.keep b3)
  have X4 : Hid (CopAt w t a l c w3.heap.size g3 (w3.alloc (.cells #[.int .i64 t, .slice (some ⟨g3, 0, none⟩) l.length l.length] 24))) := ⟨L4.out.keep (Below.ofNew _), ObAt.new _ _ _, r3.reads.old (Below.ofNew _)⟩
  clear r3 b3 L3 p0 p1 L4
  generalize hg5 : w3.heap.size = g5 at *
  go_wp2_with fail
  obtain ⟨p0, p1, p3, p4, -⟩ := X4.out.full
  refine (HI.out _ _ X4.out.2.2).mono ?_; rintro e w4 ⟨rfl, b4⟩
  have X5 := Lib.hid (X4.out.keep b4).drew
  have X5' := Lib.hid (X4.out.keep b4); clear b4 X4 p0 p1 p3 p4
  obtain ⟨p0, p1, p3, p4, -⟩ := X5'.out.full
  go_wp2_with fail
  clear p0 p1 p3 p4
  refine wp_region_held_drew (S := fun w' => w'.cell? ⟨w.heap.size, 0, none⟩ = some (.int .i64 t) ∧ w'.cell? ⟨w.heap.size, 1, none⟩ = some (.slice a l.length c) ∧ w'.cell? ⟨g5, 0, none⟩ = some (.int .i64 t) ∧ w'.cell? ⟨g5, 1, none⟩ = some (.slice (some ⟨g3, 0, none⟩) l.length l.length) ∧ CopAt w t a l c g5 g3 w') (by kernel_rfl) X5.out.full (fun hHeld => ?_)
  (refine wpAnyH_take (i := 0) (v := ?_) rfl (by kernel_rfl) (by kernel_rfl) (by kernel_rfl) (fun _ _ _ h => h) (Or.inl ⟨by kernel_rfl, ?_⟩) (by assumption) ?_; rotate_left; focus (intro w hSw; (try dsimp only at hSw); go_simp; try with_reducible rfl); (try simp only [List.getElem_toArray, List.getElem_cons_succ, List.getElem_cons_zero, Act.put, List.setIfInBounds_toArray, List.set_cons_zero, List.set_cons_succ])); (refine wpAnyH_take (i := 1) (v := ?_) rfl (by kernel_rfl) (by kernel_rfl) (by kernel_rfl) (fun _ _ _ h => h) (Or.inl ⟨by kernel_rfl, ?_⟩) (by assumption) ?_; rotate_left; focus (intro w hSw; (try dsimp only at hSw); go_simp; try with_reducible rfl); (try simp only [List.getElem_toArray, List.getElem_cons_succ, List.getElem_cons_zero, Act.put, List.setIfInBounds_toArray, List.set_cons_zero, List.set_cons_succ]))
  refine wpAnyH_ready (rs := [2]) (by kernel_rfl) (by simp) ?_; refine AllReadyH.cons rfl (fun K hK => ?_) AllReadyH.nil
  go_simp
  go_at_call 20
  refine (toPuzzle_any t l _ _ _ hl X5.out.1.2.1).mono ?_; rintro e w6 ⟨g6, rfl, -, r6, b6⟩
  have X6 := Lib.hid (X5.out.keep b6)
  have R6 := Lib.hid r6.reads; clear r6 b6 X5 X5' hHeld
  go_wp2_with fail
  first
    | refine hK.out _ _ X6.out.full (fun hHeld => ?_)
    | refine hK _ _ X6.out.full (fun hHeld => ?_)
  clear hK K
  (try simp only [List.getElem_toArray, List.getElem_cons_succ, List.getElem_cons_zero, Act.put, List.setIfInBounds_toArray, List.set_cons_zero, List.set_cons_succ])
  refine wpAnyH_ready (rs := [3]) (by kernel_rfl) (by simp) ?_; refine AllReadyH.cons rfl (fun K hK => ?_) AllReadyH.nil
  go_simp
  go_at_call 15
  refine (eqPuzzle_same t l _ _ _ hl X6.out.2.2 R6.out).mono ?_; rintro e w7 ⟨rfl, b7⟩
  have X7 := Lib.hid (X6.out.keep b7); clear b7 X6 hHeld R6
  go_wp2_with fail
  first
    | refine hK.out _ _ X7.out.full (fun hHeld => ?_)
    | refine hK _ _ X7.out.full (fun hHeld => ?_)
  clear hK K
  (try simp only [List.getElem_toArray, List.getElem_cons_succ, List.getElem_cons_zero, Act.put, List.setIfInBounds_toArray, List.set_cons_zero, List.set_cons_succ])
  (refine wpAnyH_take (i := 4) (v := ?_) rfl (by kernel_rfl) (by kernel_rfl) (by kernel_rfl) (fun _ _ _ h => h) (Or.inl ⟨by kernel_rfl, ?_⟩) (by assumption) ?_; rotate_left; focus (intro w hSw; (try dsimp only at hSw); go_simp; try with_reducible rfl); (try simp only [List.getElem_toArray, List.getElem_cons_succ, List.getElem_cons_zero, Act.put, List.setIfInBounds_toArray, List.set_cons_zero, List.set_cons_succ]))
  refine wpAnyH_done (by kernel_rfl) ?_ _
  clear hHeld
  go_wp2_with fail
  go_ret
  exact ⟨rfl, X7.out.1.2.2⟩

/-- The model and the program hand back the same. -/
theorem agree (t : Int) (l : List Cl) (hl : (l.length : Int) ≤ 1048576) :
    ∃ (t0 : ByteArray) (o1 : Bool), (∀ (g : Nat) (w : World), Reads w (some ⟨g, 0, none⟩) (clus l) → Calls Tryd.prog 19 #[.agg #[.int .i64 t, .slice (some ⟨g, 0, none⟩) l.length l.length]] w fun e w' => e = .returned (.tuple #[.string t0, .bool o1]) ∧ Below w.heap.size w w') ∧ (∀ (g : Nat) (w : World), Reads w (some ⟨g, 0, none⟩) (clus l) → Calls Tryd.prog 21 #[.agg #[.int .i64 t, .slice (some ⟨g, 0, none⟩) l.length l.length]] w fun e w' => e = .returned (.tuple #[.string t0, .bool o1]) ∧ Below w.heap.size w w') := by
  exact ⟨pzTV t l, goodP t l, fun g w h => specPuzzleText_any t l _ _ w (by omega) h, fun g w h => implPuzzleText_any t l _ _ w (by omega) h⟩

theorem walk (t : Int) (a : Option Addr) (n c : Nat) (l : List Cl) (w : World) (wf : (l.length = n ∧ Reads w a (clus l)) ∧ (n : Int) ≤ 9223372036854775807) :
    Calls Tryd.prog 4 #[.agg #[.int .i64 t, .slice a n c]] w fun e w' => e = .returned (.bool true) ∧ Below w.heap.size w w' := by
  obtain ⟨⟨rfl, hr⟩, hn⟩ := wf
  by_cases hl : (1048576 : Int) < (l.length : Int)
  · exact law_long t a _ c w hl hn
  · have hl' : (l.length : Int) ≤ 1048576 := by omega
    obtain ⟨t0, o1, hs, hi⟩ := agree t l hl'
    exact law_of t a c l t0 o1 hs hi w hl' hr
end Go.Proofs.YtbgdngfjeikheaaDoor.ExPuzzleText
