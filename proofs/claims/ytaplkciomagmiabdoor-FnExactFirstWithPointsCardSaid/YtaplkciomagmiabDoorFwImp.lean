/-
  Frames: the program's tally of all breaks, by points.
-/
import Derived.Test.YtaplkciomagmiabDoorFwModM
namespace Go.Proofs.YtaplkciomagmiabDoor
open Go.RowKit
set_option linter.unusedVariables false
set_option linter.unusedSimpArgs false

/-- The tally as a value: never opened. -/
def ptL0 (n : Nat) : { l : List Int // l = rowI 148 (bp n) } := ⟨_, rfl⟩
def ptL (n : Nat) : List Int := (ptL0 n).1
theorem ptL_is (n : Nat) : ptL n = rowI 148 (bp n) := (ptL0 n).2
def ptA (n : Nat) : Array Value := (ints (ptL n)).toArray
theorem ptL_len (n : Nat) : (ptL n).length = 148 := by rw [ptL_is, rowI_len]
theorem ptL_get {n p : Nat} (h : p ≤ 147) : (ptL n).getD p 0 = bp n p := by rw [ptL_is, rowI_get _ (by omega)]
theorem ptA_size (n : Nat) : (ptA n).size = 148 := by unfold ptA; rw [List.size_toArray, ints_len, ptL_len]
theorem info148 : (Tryd.prog.info? 52).map (·.size) = some 148 := by kernel_rfl
theorem zc148 : Tryd.zeroCells52 = (ints (List.replicate 148 0)).toArray := by kernel_rfl
theorem z148_is : Tryd.zeroCells52.setIfInBounds 0 (.int .i64 1) = (ints (rowI 148 dlt)).toArray := by
  rw [rowI_first]; kernel_rfl
theorem index_pt (n p : Nat) (h : p ≤ 147) (w : World) : (Instr.index 52 (.agg (ptA n)) (.int .i64 (p : Int))).run Tryd.prog w = .ok (.int .i64 (bp n p)) w := by
  obtain ⟨i0, hi, hz0, hz1, hz2⟩ := info_parts infoInt
  refine run_index_cell Tryd.underlying52 underInt rfl hi hz1 (ptA n) p _ (by omega) (by omega) ?_ w
  unfold ptA
  rw [Int.toNat_natCast, List.getElem?_toArray, ints_get _ _ (by rw [ptL_len]; omega), ptL_get h]

/-- Both tallies and the answer's block. -/
def PtW (w : World) (g2 g3 g5 n : Nat) (f : Int → Int) (wr : World) : Prop :=
  RowAt wr g3 52 (rowI 148 f) ∧ RowAt wr g5 52 (ptL n) ∧ RowAt wr g2 52 (List.replicate 148 0) ∧ Below w.heap.size w wr
theorem PtW.keep {w wr w' : World} {g2 g3 g5 n : Nat} {f : Int → Int} (h : PtW w g2 g3 g5 n f wr) (hb : Below wr.heap.size wr w') : PtW w g2 g3 g5 n f w' :=
  ⟨h.1.keep hb, h.2.1.keep hb, h.2.2.1.keep hb, h.2.2.2.trans (hb.mono h.2.2.2.size)⟩

set_option maxRecDepth 100000 in
set_option maxHeartbeats 12800000 in
theorem byPoints_any : ∀ n, n ≤ 36 → ∀ w : World,
    Calls Tryd.prog 31 #[frV n] w fun e w' => e = .returned (.agg (ptA n)) ∧ Below w.heap.size w w' := by
  intro n
  induction n with
  | zero =>
    intro _ w
    have HN := Lib.hid (ballsToPot_n 0)
    have hf := FrAt.new w (frR 0) (frC 0) (frL 0)
    have h0 := below_new w (.cells #[.int .i64 (frR 0), .bool (frC 0), .int .i64 (frL 0)] 29)
    have h1 := below_new (w.alloc (.cells #[.int .i64 (frR 0), .bool (frC 0), .int .i64 (frL 0)] 29)) (.cells Tryd.zeroCells52 52)
    have h2 := below_new ((w.alloc (.cells #[.int .i64 (frR 0), .bool (frC 0), .int .i64 (frL 0)] 29)).alloc (.cells Tryd.zeroCells52 52)) (.cells (Tryd.zeroCells52.setIfInBounds 0 (.int .i64 1)) 52)
    have H3 : Hid (FrAt (((w.alloc (.cells #[.int .i64 (frR 0), .bool (frC 0), .int .i64 (frL 0)] 29)).alloc (.cells Tryd.zeroCells52 52)).alloc (.cells (Tryd.zeroCells52.setIfInBounds 0 (.int .i64 1)) 52)) w.heap.size (frR 0) (frC 0) (frL 0) ∧ RowAt (((w.alloc (.cells #[.int .i64 (frR 0), .bool (frC 0), .int .i64 (frL 0)] 29)).alloc (.cells Tryd.zeroCells52 52)).alloc (.cells (Tryd.zeroCells52.setIfInBounds 0 (.int .i64 1)) 52)) (w.heap.size + 1) 52 (List.replicate 148 0) ∧ RowAt (((w.alloc (.cells #[.int .i64 (frR 0), .bool (frC 0), .int .i64 (frL 0)] 29)).alloc (.cells Tryd.zeroCells52 52)).alloc (.cells (Tryd.zeroCells52.setIfInBounds 0 (.int .i64 1)) 52)) (w.heap.size + 2) 52 (rowI 148 dlt) ∧ Below w.heap.size w (((w.alloc (.cells #[.int .i64 (frR 0), .bool (frC 0), .int .i64 (frL 0)] 29)).alloc (.cells Tryd.zeroCells52 52)).alloc (.cells (Tryd.zeroCells52.setIfInBounds 0 (.int .i64 1)) 52))) := by
      refine Lib.hid ⟨(hf.keep h1).keep h2, ?_, ?_, (h0.trans (h1.mono h0.size)).trans (h2.mono (by simp; omega))⟩
      · have := heap_alloc_last (w.alloc (.cells #[.int .i64 (frR 0), .bool (frC 0), .int .i64 (frL 0)] 29)) (.cells Tryd.zeroCells52 52)
        rw [World.size_alloc] at this
        refine RowAt.keep (w := (w.alloc (.cells #[.int .i64 (frR 0), .bool (frC 0), .int .i64 (frL 0)] 29)).alloc (.cells Tryd.zeroCells52 52)) ?_ h2
        unfold RowAt; rw [← zc148]; exact this
      · have := heap_alloc_last ((w.alloc (.cells #[.int .i64 (frR 0), .bool (frC 0), .int .i64 (frL 0)] 29)).alloc (.cells Tryd.zeroCells52 52)) (.cells (Tryd.zeroCells52.setIfInBounds 0 (.int .i64 1)) 52)
        rw [World.size_alloc, World.size_alloc] at this
        unfold RowAt; rw [← z148_is]; exact this
    clear hf h0 h1 h2
    have HZ : Hid (Tryd.zeroCells52.size = (Tryd.zeroCells52.setIfInBounds 0 (.int .i64 1)).size ∧ (Tryd.prog.info? 52).map (·.size) = some (Tryd.zeroCells52.setIfInBounds 0 (.int .i64 1)).size ∧ (Tryd.zeroCells52.setIfInBounds 0 (.int .i64 1)).all (·.oneCell') = true) := Lib.hid ⟨by simp, by rw [Array.size_setIfInBounds, Tryd.zeroCells52_size]; exact info148, by rw [z148_is]; exact ints_flat _⟩
    have hsz3 : ((w.alloc (.cells #[.int .i64 (frR 0), .bool (frC 0), .int .i64 (frL 0)] 29)).alloc (.cells Tryd.zeroCells52 52)).heap.size = w.heap.size + 1 + 1 := by simp
    have HG3 : Hid ((((w.alloc (.cells #[.int .i64 (frR 0), .bool (frC 0), .int .i64 (frL 0)] 29)).alloc (.cells Tryd.zeroCells52 52)).alloc (.cells Tryd.zeroCells52 52)).heap[w.heap.size + 1 + 1]? = some (.cells Tryd.zeroCells52 52 (0, 0)) ∧ (((w.alloc (.cells #[.int .i64 (frR 0), .bool (frC 0), .int .i64 (frL 0)] 29)).alloc (.cells Tryd.zeroCells52 52)).alloc (.cells Tryd.zeroCells52 52)).setRow (w.heap.size + 1 + 1) (Tryd.zeroCells52.setIfInBounds 0 (.int .i64 1)) = (((w.alloc (.cells #[.int .i64 (frR 0), .bool (frC 0), .int .i64 (frL 0)] 29)).alloc (.cells Tryd.zeroCells52 52)).alloc (.cells (Tryd.zeroCells52.setIfInBounds 0 (.int .i64 1)) 52))) := Lib.hid ⟨by rw [← hsz3]; exact heap_alloc_last _ _, by rw [← hsz3]; exact World.setRow_alloc_new _ _ _ _⟩
    clear hsz3
    go_enter Tryd.func31, Tryd.ntmps31
    go_upto_region 2 with (refine wpList_store_row rfl 52 _ _ rfl (w.heap.size + 1 + 1) (Tryd.zeroCells52.setIfInBounds 0 (.int .i64 1)) rfl rfl _ _ HG3.out.1 HZ.out.2.1 HZ.out.1 HZ.out.2.2 ?_; rw [HG3.out.2])
    clear HG3
    clear HZ
    obtain ⟨d0, d1, d2, d3, d4, d5⟩ := H3.out.1.cells
    generalize (((w.alloc (.cells #[.int .i64 (frR 0), .bool (frC 0), .int .i64 (frL 0)] 29)).alloc (.cells Tryd.zeroCells52 52)).alloc (.cells (Tryd.zeroCells52.setIfInBounds 0 (.int .i64 1)) 52)) = w3 at *
    go_wp2_with fail
    refine (HN.out _).mono ?_; rintro e w4 ⟨rfl, b4⟩
    have H4 : Hid (FrAt w4 w.heap.size (frR 0) (frC 0) (frL 0) ∧ RowAt w4 (w.heap.size + 1) 52 (List.replicate 148 0) ∧ RowAt w4 (w.heap.size + 2) 52 (rowI 148 dlt) ∧ Below w.heap.size w w4) := Lib.hid ⟨H3.out.1.keep b4, H3.out.2.1.keep b4, H3.out.2.2.1.keep b4, H3.out.2.2.2.trans (b4.mono H3.out.2.2.2.size)⟩
    clear b4 H3 d0 d1 d2 d3 d4 d5
    have hem := next_empty 0
    have hem2 : (nextS 0).toList.isEmpty = true := hem
    clear hem
    have HF : Hid (w4.heap[w.heap.size + 2]? = some (.cells (ptA 0) 52 (0, 0)) ∧ w4.heap[w.heap.size + 1]? = some (.cells (ints (List.replicate 148 0)).toArray 52 (0, 0)) ∧ (Tryd.prog.info? 52).map (·.size) = some (ptA 0).size ∧ (ints (List.replicate 148 0)).toArray.size = (ptA 0).size ∧ (ptA 0).all (·.oneCell') = true ∧ Below w.heap.size w w4) := by
      refine Lib.hid ⟨?_, H4.out.2.1, by rw [ptA_size]; exact info148, by rw [ptA_size]; simp [ints], by unfold ptA; exact ints_flat _, H4.out.2.2.2⟩
      have h := H4.out.2.2.1
      unfold RowAt at h
      unfold ptA
      rw [ptL_is]; exact h
    clear H4
    go_wp2_with (first | refine wpList_load_row rfl 52 _ rfl (w.heap.size + 2) rfl 52 (ptA 0) (0, 0) _ HF.out.1 Tryd.underlying52 rfl HF.out.2.2.1 ?_ | refine wpList_store_row rfl 52 _ _ rfl (w.heap.size + 1) (ptA 0) rfl rfl 52 _ HF.out.2.1 HF.out.2.2.1 HF.out.2.2.2.1 HF.out.2.2.2.2.1 ?_)
    have hrow := setRow_heap w4 (w.heap.size + 1) _ (ptA 0) 52 _ HF.out.2.1
    refine bodyPost_ret (v := .agg (ptA 0)) (results_cell_row Tryd.results31 _ _ (w.heap.size + 1) 52 _ _ _ rfl hrow Tryd.underlying52 rfl HF.out.2.2.1) rfl ⟨rfl, below_setRow HF.out.2.2.2.2.2 (by omega) _⟩
  | succ n ih =>
    intro hn w
    have HN := Lib.hid (ballsToPot_n (n + 1))
    have HIH := Lib.hid (ih (by omega)); clear ih
    have hf := FrAt.new w (frR (n + 1)) (frC (n + 1)) (frL (n + 1))
    have h0 := below_new w (.cells #[.int .i64 (frR (n + 1)), .bool (frC (n + 1)), .int .i64 (frL (n + 1))] 29)
    have h1 := below_new (w.alloc (.cells #[.int .i64 (frR (n + 1)), .bool (frC (n + 1)), .int .i64 (frL (n + 1))] 29)) (.cells Tryd.zeroCells52 52)
    have h2 := below_new ((w.alloc (.cells #[.int .i64 (frR (n + 1)), .bool (frC (n + 1)), .int .i64 (frL (n + 1))] 29)).alloc (.cells Tryd.zeroCells52 52)) (.cells (Tryd.zeroCells52.setIfInBounds 0 (.int .i64 1)) 52)
    have H3 : Hid (FrAt (((w.alloc (.cells #[.int .i64 (frR (n + 1)), .bool (frC (n + 1)), .int .i64 (frL (n + 1))] 29)).alloc (.cells Tryd.zeroCells52 52)).alloc (.cells (Tryd.zeroCells52.setIfInBounds 0 (.int .i64 1)) 52)) w.heap.size (frR (n + 1)) (frC (n + 1)) (frL (n + 1)) ∧ RowAt (((w.alloc (.cells #[.int .i64 (frR (n + 1)), .bool (frC (n + 1)), .int .i64 (frL (n + 1))] 29)).alloc (.cells Tryd.zeroCells52 52)).alloc (.cells (Tryd.zeroCells52.setIfInBounds 0 (.int .i64 1)) 52)) (w.heap.size + 1) 52 (List.replicate 148 0) ∧ RowAt (((w.alloc (.cells #[.int .i64 (frR (n + 1)), .bool (frC (n + 1)), .int .i64 (frL (n + 1))] 29)).alloc (.cells Tryd.zeroCells52 52)).alloc (.cells (Tryd.zeroCells52.setIfInBounds 0 (.int .i64 1)) 52)) (w.heap.size + 2) 52 (rowI 148 dlt) ∧ Below w.heap.size w (((w.alloc (.cells #[.int .i64 (frR (n + 1)), .bool (frC (n + 1)), .int .i64 (frL (n + 1))] 29)).alloc (.cells Tryd.zeroCells52 52)).alloc (.cells (Tryd.zeroCells52.setIfInBounds 0 (.int .i64 1)) 52))) := by
      refine Lib.hid ⟨(hf.keep h1).keep h2, ?_, ?_, (h0.trans (h1.mono h0.size)).trans (h2.mono (by simp; omega))⟩
      · have := heap_alloc_last (w.alloc (.cells #[.int .i64 (frR (n + 1)), .bool (frC (n + 1)), .int .i64 (frL (n + 1))] 29)) (.cells Tryd.zeroCells52 52)
        rw [World.size_alloc] at this
        refine RowAt.keep (w := (w.alloc (.cells #[.int .i64 (frR (n + 1)), .bool (frC (n + 1)), .int .i64 (frL (n + 1))] 29)).alloc (.cells Tryd.zeroCells52 52)) ?_ h2
        unfold RowAt; rw [← zc148]; exact this
      · have := heap_alloc_last ((w.alloc (.cells #[.int .i64 (frR (n + 1)), .bool (frC (n + 1)), .int .i64 (frL (n + 1))] 29)).alloc (.cells Tryd.zeroCells52 52)) (.cells (Tryd.zeroCells52.setIfInBounds 0 (.int .i64 1)) 52)
        rw [World.size_alloc, World.size_alloc] at this
        unfold RowAt; rw [← z148_is]; exact this
    clear hf h0 h1 h2
    have HZ : Hid (Tryd.zeroCells52.size = (Tryd.zeroCells52.setIfInBounds 0 (.int .i64 1)).size ∧ (Tryd.prog.info? 52).map (·.size) = some (Tryd.zeroCells52.setIfInBounds 0 (.int .i64 1)).size ∧ (Tryd.zeroCells52.setIfInBounds 0 (.int .i64 1)).all (·.oneCell') = true) := Lib.hid ⟨by simp, by rw [Array.size_setIfInBounds, Tryd.zeroCells52_size]; exact info148, by rw [z148_is]; exact ints_flat _⟩
    have hsz3 : ((w.alloc (.cells #[.int .i64 (frR (n + 1)), .bool (frC (n + 1)), .int .i64 (frL (n + 1))] 29)).alloc (.cells Tryd.zeroCells52 52)).heap.size = w.heap.size + 1 + 1 := by simp
    have HG3 : Hid ((((w.alloc (.cells #[.int .i64 (frR (n + 1)), .bool (frC (n + 1)), .int .i64 (frL (n + 1))] 29)).alloc (.cells Tryd.zeroCells52 52)).alloc (.cells Tryd.zeroCells52 52)).heap[w.heap.size + 1 + 1]? = some (.cells Tryd.zeroCells52 52 (0, 0)) ∧ (((w.alloc (.cells #[.int .i64 (frR (n + 1)), .bool (frC (n + 1)), .int .i64 (frL (n + 1))] 29)).alloc (.cells Tryd.zeroCells52 52)).alloc (.cells Tryd.zeroCells52 52)).setRow (w.heap.size + 1 + 1) (Tryd.zeroCells52.setIfInBounds 0 (.int .i64 1)) = (((w.alloc (.cells #[.int .i64 (frR (n + 1)), .bool (frC (n + 1)), .int .i64 (frL (n + 1))] 29)).alloc (.cells Tryd.zeroCells52 52)).alloc (.cells (Tryd.zeroCells52.setIfInBounds 0 (.int .i64 1)) 52))) := Lib.hid ⟨by rw [← hsz3]; exact heap_alloc_last _ _, by rw [← hsz3]; exact World.setRow_alloc_new _ _ _ _⟩
    clear hsz3
    go_enter Tryd.func31, Tryd.ntmps31
    go_upto_region 2 with (refine wpList_store_row rfl 52 _ _ rfl (w.heap.size + 1 + 1) (Tryd.zeroCells52.setIfInBounds 0 (.int .i64 1)) rfl rfl _ _ HG3.out.1 HZ.out.2.1 HZ.out.1 HZ.out.2.2 ?_; rw [HG3.out.2])
    clear HG3
    clear HZ
    obtain ⟨d0, d1, d2, d3, d4, d5⟩ := H3.out.1.cells
    generalize (((w.alloc (.cells #[.int .i64 (frR (n + 1)), .bool (frC (n + 1)), .int .i64 (frL (n + 1))] 29)).alloc (.cells Tryd.zeroCells52 52)).alloc (.cells (Tryd.zeroCells52.setIfInBounds 0 (.int .i64 1)) 52)) = w3 at *
    go_wp2_with fail
    refine (HN.out _).mono ?_; rintro e w4 ⟨rfl, b4⟩
    have H4 : Hid (FrAt w4 w.heap.size (frR (n + 1)) (frC (n + 1)) (frL (n + 1)) ∧ RowAt w4 (w.heap.size + 1) 52 (List.replicate 148 0) ∧ RowAt w4 (w.heap.size + 2) 52 (rowI 148 dlt) ∧ Below w.heap.size w w4) := Lib.hid ⟨H3.out.1.keep b4, H3.out.2.1.keep b4, H3.out.2.2.1.keep b4, H3.out.2.2.2.trans (b4.mono H3.out.2.2.2.size)⟩
    clear b4 H3 d0 d1 d2 d3 d4 d5
    have hem := next_empty (n + 1)
    have hem2 : (nextS (n + 1)).toList.isEmpty = false := by rw [hem]; simp
    clear hem
    have HBeh := Lib.hid (frameBehind_n n (by omega))
    obtain ⟨d0, d1, d2, d3, d4, d5⟩ := H4.out.1.cells
    have HZ5 : Hid (Tryd.zeroCells52.size = (ptA n).size ∧ (Tryd.prog.info? 52).map (·.size) = some (ptA n).size ∧ (ptA n).all (·.oneCell') = true) := Lib.hid ⟨by rw [ptA_size]; exact Tryd.zeroCells52_size, by rw [ptA_size]; exact info148, by unfold ptA; exact ints_flat _⟩
    go_wp2_with fail
    refine (HBeh.out _).mono ?_; rintro e w5 ⟨rfl, b5⟩
    clear d0 d1 d2 d3 d4 d5
    go_wp2_with fail
    refine (HIH.out _).mono ?_; rintro e w6 ⟨rfl, b6⟩
    have H6 : Hid (RowAt w6 (w.heap.size + 1) 52 (List.replicate 148 0) ∧ RowAt w6 (w.heap.size + 2) 52 (rowI 148 dlt) ∧ Below w.heap.size w w6) := Lib.hid ⟨(H4.out.2.1.keep b5).keep b6, (H4.out.2.2.1.keep b5).keep b6, (H4.out.2.2.2.trans (b5.mono H4.out.2.2.2.size)).trans (b6.mono (by have := H4.out.2.2.2.size; have := b5.size; omega))⟩
    clear H4 b5 b6
    go_upto_region 6 with (refine wpList_store_row rfl 52 _ _ rfl _ (ptA n) rfl rfl _ _ (heap_alloc_last _ _) HZ5.out.2.1 HZ5.out.1 HZ5.out.2.2 ?_; rw [World.setRow_alloc_new])
    have bn := below_new w6 (.cells (ptA n) 52)
    have HS : Hid (PtW w (w.heap.size + 1) (w.heap.size + 2) w6.heap.size n (partV n 0) (w6.alloc (.cells (ptA n) 52)) ∧ w.heap.size + 2 < w6.heap.size ∧ w6.heap.size < (w6.alloc (.cells (ptA n) 52)).heap.size) := by
      refine Lib.hid ⟨⟨?_, heap_alloc_last w6 _, H6.out.1.keep bn, H6.out.2.2.trans (bn.mono H6.out.2.2.size)⟩, H6.out.2.1.lt, by simp⟩
      rw [show partV n 0 = dlt from funext (partV_zero n)]; exact H6.out.2.1.keep bn
    clear H6 bn HZ5
    generalize w6.alloc (.cells (ptA n) 52) = W6 at *
    generalize w6.heap.size = g5 at *
    go_wp2_with fail
    have hlen0 := next_size_len (n + 1)
    have hlen6 := nextL_len6 (n := n + 1) hn
    obtain ⟨K, hK⟩ : ∃ K, K = W6.heap.size := ⟨_, rfl⟩
    have HS2 : Hid (PtW w (w.heap.size + 1) (w.heap.size + 2) g5 n (partV n 0) (W6.iter (nextS (n + 1)) 0) ∧ (W6.iter (nextS (n + 1)) 0).heap[K]? = some (.stringIter (nextS (n + 1)) 0)) := Lib.hid ⟨HS.out.1.keep ((Below.refl _ _).alloc (Nat.le_refl _) _), by rw [hK]; exact World.iter_heap _ _ _⟩
    have HKK : Hid (w.heap.size + 2 < g5 ∧ g5 < K) := Lib.hid ⟨HS.out.2.1, by rw [hK]; exact HS.out.2.2⟩
    rw [← hK]
    have HKe := Lib.hid hK; clear hK HS
    go_loopw [7] (fun _ wr => ∃ q : Nat, q ≤ (nextL (n + 1)).length ∧ Hid (PtW w (w.heap.size + 1) (w.heap.size + 2) g5 n (partV n q) wr ∧ wr.heap[K]? = some (.stringIter (nextS (n + 1)) q))) (fun _ wr => (nextL (n + 1)).length - wr.iterPos K)
    case atStart => exact ⟨0, Nat.zero_le _, HS2⟩
    case round =>
      clear HS2
      obtain ⟨q, hq, hQ⟩ := hrel
      have hit := hQ.out.2
      have HIP := Lib.hid (iterPos_of hit)
      by_cases hql : q < (nextL (n + 1)).length
      · have hqs : q < (nextS (n + 1)).size := by rw [hlen0]; exact hql
        have hby := next_byte hql
        have hcb := scB_next (n := n + 1) hn ((nextL (n + 1)).getD q 0) (by simp [hql])
        have hsucc := fun p => partV_succ n (i := q) hql p
        have hasc0 : ((nextL (n + 1)).getD q 0).toNat < 128 := by unfold scB at hcb; omega
        have hnx := fun ty => Lib.run_next_ascii_at (P := Tryd.prog) wr K (nextS (n + 1)) q ty hit hqs (by rw [hby]; exact hasc0)
        rw [hby] at hnx
        generalize (nextL (n + 1)).getD q 0 = ch at *
        obtain ⟨s, hs⟩ : ∃ s : Nat, scB ch = (s : Int) := ⟨(scB ch).toNat, by omega⟩
        rw [hs] at hcb
        have hch : (ch.toNat : Int) = (s : Int) + 48 := by unfold scB at hs; omega
        rw [hch] at hnx
        have HSu : Hid (∀ p, partV n (q + 1) p = partV n q p + bp n (p - s)) := Lib.hid (fun p => by rw [hsucc p, hs])
        have hit1 := Lib.iterAt_heap wr K (nextS (n + 1)) q (q + 1) hit
        have HW1 : Hid (PtW w (w.heap.size + 1) (w.heap.size + 2) g5 n (partV n q) (wr.iterAt K (nextS (n + 1)) (q + 1)) ∧ (wr.iterAt K (nextS (n + 1)) (q + 1)).heap[K]? = some (.stringIter (nextS (n + 1)) (q + 1))) := Lib.hid ⟨⟨hQ.out.1.1.iter (by have := HKK.out; omega) _ _, hQ.out.1.2.1.iter (by have := HKK.out; omega) _ _, hQ.out.1.2.2.1.iter (by have := HKK.out; omega) _ _, Lib.below_iterAt hQ.out.1.2.2.2 (by have := HKK.out; omega) _ _⟩, hit1⟩
        clear hit hit1 hQ hsucc hs hby hasc0
        generalize wr.iterAt K (nextS (n + 1)) (q + 1) = wa at *
        have hr0 : (0 : Int) ≤ (s : Int) + 48 := by omega
        go_wp2_with fail
        refine (ballScore_any ((s : Int) + 48) hr0 (by omega) _).mono ?_; rintro e w7 ⟨rfl, rfl⟩
        have hsc : (s : Int) + 48 - 48 = (s : Int) := by omega
        try rw [hsc]
        have HLow : Hid (PtW w (w.heap.size + 1) (w.heap.size + 2) g5 n (fun i => if i < (s : Int) then partV n (q + 1) i else partV n q i) wa ∧ wa.heap[K]? = some (.stringIter (nextS (n + 1)) (q + 1))) := Lib.hid ⟨⟨by
          rw [rowI_low (fun i hi => by rw [HSu.out, bp_neg n (by omega) _ (by omega)]; omega)]; exact HW1.out.1.1, HW1.out.1.2⟩, HW1.out.2⟩
        clear HW1
        go_wp2_with fail
        go_loopw [9] (fun i wr => ∃ c : Nat, i = .int .i64 c ∧ s ≤ c ∧ (c ≤ 148 ∨ c = s) ∧ Hid (PtW w (w.heap.size + 1) (w.heap.size + 2) g5 n (fun i => if i < (c : Int) then partV n (q + 1) i else partV n q i) wr ∧ wr.heap[K]? = some (.stringIter (nextS (n + 1)) (q + 1)))) (fun i _ => 148 - (intOf i).toNat)
        case atStart => exact ⟨s, by first | rfl | go_num, Nat.le_refl _, .inr rfl, HLow⟩
        case round =>
          clear HLow hnx
          obtain ⟨c, rfl, hsc2, hcn, hC⟩ := hrel
          by_cases hc : c ≤ 147
          · have b4 : (c : Int) ≤ 147 := by omega
            have b5 : (c : Int) < 148 := by omega
            obtain ⟨u, hu⟩ : ∃ u : Nat, (c : Int) - (s : Int) = (u : Int) := ⟨c - s, by omega⟩
            have b6 : (u : Int) < 148 := by omega
            have hwu : IntKind.i64.wrap (u : Int) = (u : Int) := IntWalk.i64_in _ (by omega)
            have e1 := hC.out.1.1.cell (j := c) (by rw [rowI_len]; omega)
            have e2 := hC.out.1.2.1.cell (j := u) (by rw [ptL_len]; omega)
            have f1 := hC.out.1.1.free c
            rw [rowI_get _ (by omega)] at e1
            rw [ptL_get (by omega)] at e2
            rw [if_neg (by omega)] at e1
            have hp0 := partV_bd hn q (c : Int)
            have hp1 := partV_bd hn (q + 1) (c : Int)
            have hb0 := bp_nn n (u : Int)
            have hadd : partV n (q + 1) (c : Int) = partV n q c + bp n (u : Int) := by rw [HSu.out, hu]
            have hwt : wrap64 (partV n q (c : Int) + bp n (u : Int)) = partV n (q + 1) c := by rw [← hadd]; unfold wrap64; omega
            have HNew : Hid (PtW w (w.heap.size + 1) (w.heap.size + 2) g5 n (fun i => if i < ((c + 1 : Nat) : Int) then partV n (q + 1) i else partV n q i) (wr.setCell ⟨w.heap.size + 2, c, none⟩ (.int .i64 (wrap64 (partV n q (c : Int) + bp n (u : Int))))).drew ∧ (wr.setCell ⟨w.heap.size + 2, c, none⟩ (.int .i64 (wrap64 (partV n q (c : Int) + bp n (u : Int))))).drew.heap[K]? = some (.stringIter (nextS (n + 1)) (q + 1))) := by
              refine Lib.hid ⟨⟨?_, hC.out.1.2.1.other ⟨w.heap.size + 2, c, none⟩ _ (by have := HKK.out; simp only; omega), hC.out.1.2.2.1.other ⟨w.heap.size + 2, c, none⟩ _ (by simp only; omega), (hC.out.1.2.2.2.setCell (p := ⟨w.heap.size + 2, c, none⟩) (by simp only; omega) _).drew⟩, ?_⟩
              · have hp := hC.out.1.1.put (j := c) (by rw [rowI_len]; omega) (wrap64 (partV n q (c : Int) + bp n (u : Int)))
                rw [rowI_step (by omega) hwt.symm] at hp
                exact hp
              · have := hC.out.2
                show (wr.setCell _ _).heap[K]? = _
                rw [heap_setCell_other wr _ _ _ (by have := HKK.out; simp only; omega)]; exact this
            clear hadd hC hwt
            generalize partV n q (c : Int) = y1 at *
            generalize bp n (u : Int) = y2 at *
            go_wp2_with fail
            go_still_tail 10, (by kernel_rfl)
            go_wp2_with fail
            go_roundw
            case rel => exact ⟨c + 1, by go_num, by omega, by omega, HNew⟩
            case measure => simp [intOf]; omega
          · have HEnd : Hid (PtW w (w.heap.size + 1) (w.heap.size + 2) g5 n (partV n (q + 1)) wr ∧ wr.heap[K]? = some (.stringIter (nextS (n + 1)) (q + 1))) := Lib.hid ⟨⟨by
              have h := hC.out.1.1
              rw [rowI_end (by omega)] at h; exact h, hC.out.1.2⟩, hC.out.2⟩
            have b4 : ¬ (c : Int) ≤ 147 := by omega
            clear hC
            go_wp2_with fail
            go_roundw
            case rel => exact ⟨q + 1, by omega, HEnd⟩
            case measure => rw [iterPos_of HEnd.out.2, HIP.out]; omega
      · obtain rfl : q = (nextL (n + 1)).length := by omega
        have hnx := fun ty => Lib.run_next_end_at (P := Tryd.prog) wr K (nextS (n + 1)) (nextL (n + 1)).length ty hit (by rw [hlen0]; omega)
        have HF : Hid (wr.heap[w.heap.size + 2]? = some (.cells (ptA (n + 1)) 52 (0, 0)) ∧ wr.heap[w.heap.size + 1]? = some (.cells (ints (List.replicate 148 0)).toArray 52 (0, 0)) ∧ (Tryd.prog.info? 52).map (·.size) = some (ptA (n + 1)).size ∧ (ints (List.replicate 148 0)).toArray.size = (ptA (n + 1)).size ∧ (ptA (n + 1)).all (·.oneCell') = true ∧ Below w.heap.size w wr) := by
          refine Lib.hid ⟨?_, hQ.out.1.2.2.1, by rw [ptA_size]; exact info148, by rw [ptA_size]; simp [ints], by unfold ptA; exact ints_flat _, hQ.out.1.2.2.2⟩
          have h := hQ.out.1.1
          rw [show partV n (nextL (n + 1)).length = bp (n + 1) from funext (partV_all n)] at h
          unfold RowAt at h
          unfold ptA
          rw [ptL_is]; exact h
        clear hQ hit
        go_wp2_with (first | refine wpList_load_row rfl 52 _ rfl (w.heap.size + 2) rfl 52 (ptA (n + 1)) (0, 0) _ HF.out.1 Tryd.underlying52 rfl HF.out.2.2.1 ?_ | refine wpList_store_row rfl 52 _ _ rfl (w.heap.size + 1) (ptA (n + 1)) rfl rfl 52 _ HF.out.2.1 HF.out.2.2.1 HF.out.2.2.2.1 HF.out.2.2.2.2.1 ?_)
        have hrow := setRow_heap wr (w.heap.size + 1) _ (ptA (n + 1)) 52 _ HF.out.2.1
        refine bodyPost_ret (v := .agg (ptA (n + 1))) (results_cell_row Tryd.results31 _ _ (w.heap.size + 1) 52 _ _ _ rfl hrow Tryd.underlying52 rfl HF.out.2.2.1) rfl ⟨rfl, below_setRow HF.out.2.2.2.2.2 (by omega) _⟩
end Go.Proofs.YtaplkciomagmiabDoor
