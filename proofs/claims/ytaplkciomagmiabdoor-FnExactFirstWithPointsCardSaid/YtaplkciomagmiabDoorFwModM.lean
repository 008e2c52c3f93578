/-
  Frames: the model's ways by points.
-/
import Derived.Test.YtaplkciomagmiabDoorFwRow
import Derived.Deep.RegionWith
namespace Go.Proofs.YtaplkciomagmiabDoor
open Go.RowKit
set_option linter.unusedVariables false
set_option linter.unusedSimpArgs false

def leastI (a b : Int) : Int := if a < b then a else b
set_option maxHeartbeats 400000 in
theorem l1Least_calm (a b : Int) (w : World) : Calls Tryd.prog 39 #[.int .i64 a, .int .i64 b] w fun e w' => e = .returned (.int .i64 (leastI a b)) ∧ w' = w := by
  unfold leastI
  by_cases h : a < b
  · rw [if_pos h]
    go_enter Tryd.func39, Tryd.ntmps39
    go_wp2
    go_ret
    exact ⟨rfl, rfl⟩
  · rw [if_neg h]
    go_enter Tryd.func39, Tryd.ntmps39
    go_wp2
    go_ret
    exact ⟨rfl, rfl⟩
/-- The number of the frame in a block. -/
def numOf (r : Int) (c : Bool) (l : Int) : Nat := if c then 7 + 2 * r.toNat else if r = 0 then (8 - l).toNat else 6 + 2 * r.toNat
def numAt (b : Nat) (w : World) : Nat := match w.cell? ⟨b, 0, none⟩, w.cell? ⟨b, 1, none⟩, w.cell? ⟨b, 2, none⟩ with
  | some (.int _ r), some (.bool c), some (.int _ l) => numOf r c l
  | _, _, _ => 0
theorem numAt_n {b n : Nat} {w : World} (h : FrAt w b (frR n) (frC n) (frL n)) (hn : n ≤ 36) : numAt b w = n := by
  have : ∀ m, m ≤ 36 → numOf (frR m) (frC m) (frL m) = m := by decide +kernel
  obtain ⟨h0, h1, h2, -, -, -⟩ := h.cells
  unfold numAt; rw [h0, h1, h2]; exact this n hn
theorem next_size_len (n : Nat) : (nextS n).size = (nextL n).length := by simp [nextS, ByteArray.size]
theorem next_byte {n i : Nat} (h : i < (nextL n).length) : (nextS n)[i]'(by rw [next_size_len]; exact h) = (nextL n).getD i 0 := by
  simp [nextS, ByteArray.getElem_eq_getElem_data, h]
theorem index_next {n i : Nat} (h : i < (nextL n).length) (w : World) : (Instr.index 9 (.string (nextS n)) (.int .i64 (i : Int))).run Tryd.prog w = .ok (.int .u8 (((nextL n).getD i 0).toNat : Int)) w := by
  have h2 : i < (nextS n).size := by rw [next_size_len]; exact h
  rw [run_index_string w _ _ _ _ Tryd.underlying9, dif_pos ⟨by omega, by omega⟩, ← next_byte h]; rfl
theorem len_pos {n : Nat} (h : 0 < n) : 0 < (nextL n).length := next_len_pos (n := n) (by omega)
theorem head_in (m : Nat) : (nextL (m + 1)).head?.getD 0 ∈ nextL (m + 1) := by
  have := len_pos (n := m + 1) (by omega)
  cases h : nextL (m + 1) with
  | nil => rw [h] at this; simp at this
  | cons a l => simp

/-- The frame, all ways so far, and the ways of just j balls. -/
def FwW (w : World) (gf ga gn P n j m : Nat) (wr : World) : Prop :=
  FrAt wr gf (frR m) (frC m) (frL m) ∧ RowAt wr ga 3 (rowI (P + 1) (accW n j)) ∧ RowAt wr gn 3 (rowI (P + 1) (nw n j)) ∧ Below w.heap.size w wr
theorem FwW.keep {w wr w' : World} {gf ga gn P n j m : Nat} (h : FwW w gf ga gn P n j m wr) (hb : Below wr.heap.size wr w') : FwW w gf ga gn P n j m w' :=
  ⟨h.1.keep hb, h.2.1.keep hb, h.2.2.1.keep hb, h.2.2.2.trans (hb.mono h.2.2.2.size)⟩
theorem FwW.put {w wr : World} {gf ga gn P n j m g c : Nat} (v : Value) (h : FwW w gf ga gn P n j m wr) (hne : gf ≠ g ∧ ga ≠ g ∧ gn ≠ g ∧ w.heap.size ≤ g) : FwW w gf ga gn P n j m (wr.setCell ⟨g, c, none⟩ v) :=
  ⟨h.1.other hne.1 v, h.2.1.other _ _ hne.2.1, h.2.2.1.other _ _ hne.2.2.1, h.2.2.2.setCell (p := ⟨g, c, none⟩) hne.2.2.2 v⟩
theorem FwW.drew {w wr : World} {gf ga gn P n j m : Nat} (h : FwW w gf ga gn P n j m wr) : FwW w gf ga gn P n j m wr.drew :=
  ⟨h.1.drew, h.2.1, h.2.2.1, h.2.2.2.drew⟩

set_option maxRecDepth 100000 in
set_option maxHeartbeats 12800000 in
theorem frWays_any (n P : Nat) (hn : n ≤ 36) (hP : P ≤ 147) (w : World) :
    Calls Tryd.prog 29 #[frV n, .int .i64 P] w fun e w' => ∃ g, e = .returned (.slice (some ⟨g, 0, none⟩) (P + 1) (P + 1)) ∧ w.heap.size ≤ g ∧ RowAt w' g 3 (rowI (P + 1) (bp n)) ∧ Below w.heap.size w w' := by
  obtain ⟨i0, hi, hz0, hz1, hz2⟩ := info_parts infoInt
  have HI := Lib.hid (And.intro hi (And.intro hz0 (And.intro hz1 hz2))); clear hi hz0 hz1 hz2
  have HN := Lib.hid (fun m => frNext_n m)
  have HP0 : (0 : Int) < (P : Int) + 1 := by omega
  have F0 := Lib.hid (And.intro (FrAt.new w (frR n) (frC n) (frL n)) (below_new w (.cells #[.int .i64 (frR n), .bool (frC n), .int .i64 (frL n)] 29)))
  go_enter Tryd.func29, Tryd.ntmps29
  go_wp2_with (at_make; refine wpList_make_full _ rfl _ _ _ rfl (w.heap.size + 1) _ i0 _ 1 Tryd.underlying26 HI.out.1 HI.out.2.1 HI.out.2.2.1 .i64 .i64 _ _ (P + 1) rfl rfl rfl rfl ?_ ?_ ?_ ?_)
  · rw [HI.out.2.2.2]; omega
  · unfold maxLen; omega
  · simp
  intro w2 hown hgrow
  try rw [World.size_alloc] at hown
  have hr := (RowAt.made (e := 3) hown).1
  have b2 : Below w.heap.size w w2 := F0.out.2.trans (((Below.refl _ _).grown hgrow (Nat.le_refl _) (fun k hk => by cases hk)).mono (by simp))
  have f2 := F0.out.1.keep ((Below.refl _ _).grown hgrow (Nat.le_refl _) (fun k hk => by cases hk))
  have hr2 := hr.put (j := 0) (by simp) 1
  rw [List.replicate_succ, List.set_cons_zero, ← rowI_first] at hr2
  have c0 := hr.cell (j := 0) (by simp)
  have fz := hr.free 0
  have H2 : Hid (FrAt (w2.setCell ⟨w.heap.size + 1, 0, none⟩ (.int .i64 1)) w.heap.size (frR n) (frC n) (frL n) ∧ RowAt (w2.setCell ⟨w.heap.size + 1, 0, none⟩ (.int .i64 1)) (w.heap.size + 1) 3 (rowI (P + 1) dlt) ∧ Below w.heap.size w (w2.setCell ⟨w.heap.size + 1, 0, none⟩ (.int .i64 1))) :=
    Lib.hid ⟨f2.other (by omega) _, hr2, b2.setCell (p := ⟨w.heap.size + 1, 0, none⟩) (by simp only; omega) _⟩
  clear hr hr2 b2 f2 hown hgrow F0
  go_wp2_with (at_make; refine wpList_make_full _ rfl _ _ _ rfl (w2.setCell ⟨w.heap.size + 1, 0, none⟩ (.int .i64 1)).heap.size _ i0 _ 1 Tryd.underlying26 HI.out.1 HI.out.2.1 HI.out.2.2.1 .i64 .i64 _ _ (P + 1) rfl rfl rfl rfl ?_ ?_ (Nat.le_refl _) ?_)
  · rw [HI.out.2.2.2]; omega
  · unfold maxLen; omega
  intro w3 hown hgrow
  clear c0 fz
  have hr := (RowAt.made (e := 3) hown).1
  have b3 : Below w2.heap.size (w2.setCell ⟨w.heap.size + 1, 0, none⟩ (.int .i64 1)) w3 := (Below.refl _ _).grown hgrow (by simp) (fun k hk => by cases hk)
  have hr2 := hr.put (j := 0) (by simp) 1
  rw [List.replicate_succ, List.set_cons_zero, ← rowI_first] at hr2
  have c0 := hr.cell (j := 0) (by simp)
  have fz := hr.free 0
  have hlt : w.heap.size + 1 < w2.heap.size := by have := H2.out.2.1.lt; simpa using this
  generalize w2.heap.size = gn at *
  have H3 : Hid (FwW w w.heap.size (w.heap.size + 1) gn P n 0 n (w3.setCell ⟨gn, 0, none⟩ (.int .i64 1))) :=
    Lib.hid ⟨(H2.out.1.keepB b3 (by omega)).other (by omega) _, (by have := H2.out.2.1; unfold RowAt at this ⊢; rw [heap_setCell_other w3 _ _ _ (by simp only; omega), b3.block _ hlt]; exact this), hr2, (H2.out.2.2.trans (b3.mono (by omega))).setCell (p := ⟨gn, 0, none⟩) (by simp only; omega) _⟩
  have HNE : Hid (w.heap.size ≠ gn ∧ w.heap.size + 1 ≠ gn ∧ w.heap.size < gn) := Lib.hid ⟨by omega, by omega, by omega⟩
  clear hr hr2 b3 hown hgrow H2 hlt
  obtain ⟨d0, d1, d2, d3, d4, d5⟩ := H3.out.1.cells
  go_wp2_with fail
  clear c0 fz d0 d1 d2 d3 d4 d5
  generalize w3.setCell ⟨gn, 0, none⟩ (.int .i64 1) = W3 at *
  refine (HN.out n _).mono ?_; rintro e w4 ⟨rfl, b4⟩
  have H4 := Lib.hid (H3.out.keep b4); clear b4 H3
  obtain ⟨gf, hgf⟩ : ∃ gf, gf = w.heap.size := ⟨_, rfl⟩
  go_wp2_with fail
  rw [← hgf] at HNE H4 ⊢
  have HGF := Lib.hid hgf; clear hgf
  go_loopw [6, 7] (fun v s wr => ∃ m j gn : Nat, j + m = n ∧ v = .slice (some ⟨gn, 0, none⟩) (P + 1) (P + 1) ∧ s = .string (nextS m) ∧ Hid (FwW w gf (gf + 1) gn P n j m wr) ∧ Hid (gf ≠ gn ∧ gf + 1 ≠ gn ∧ w.heap.size ≤ gf)) (fun _ _ wr => numAt gf wr)
  case atStart => exact ⟨n, 0, gn, by omega, rfl, rfl, H4, Lib.hid ⟨HNE.out.1, HNE.out.2.1, Nat.le_of_eq HGF.out.symm⟩⟩
  case round =>
    clear H4 HNE
    obtain ⟨m, j, gn, hjm, rfl, rfl, hW, hne⟩ := hrel
    have HNum := Lib.hid (numAt_n hW.out.1 (by omega))
    have hem := next_empty m
    cases m with
    | zero =>
      have hem2 : (nextS 0).toList.isEmpty = true := hem
      have hfin : RowAt wr (gf + 1) 3 (rowI (P + 1) (bp n)) := by
        have h := hW.out.2.1
        rw [show j = n by omega, show accW n n = bp n from funext fun p => acc_all n p] at h; exact h
      have HF := Lib.hid (And.intro hfin hW.out.2.2.2); clear hfin hW hem
      go_wp2_with fail
      go_ret
      exact ⟨gf + 1, rfl, by rw [← HGF.out]; omega, HF.out.1, HF.out.2⟩
    | succ m =>
      have hem2 : (nextS (m + 1)).toList.isEmpty = false := by rw [hem]; simp
      have hjn : n - j = m + 1 := by omega
      have hlen0 := next_size_len (m + 1)
      have hlen6 := nextL_len6 (n := m + 1) (by omega)
      have hsz : ((nextS (m + 1)).size : Int) = (nextL (m + 1)).length := by rw [hlen0]
      go_wp2_with (at_make; refine wpList_make_full _ rfl _ _ _ rfl wr.heap.size _ i0 _ 1 Tryd.underlying26 HI.out.1 HI.out.2.1 HI.out.2.2.1 .i64 .i64 _ _ (P + 1) rfl rfl rfl rfl ?_ ?_ (Nat.le_refl _) ?_)
      · rw [HI.out.2.2.2]; omega
      · unfold maxLen; omega
      intro w5 hown hgrow
      have b5 : Below wr.heap.size wr w5 := (Below.refl _ _).grown hgrow (Nat.le_refl _) (fun k hk => by cases hk)
      have hr5 := (RowAt.made (e := 3) hown).1
      have HT : Hid (FwW w gf (gf + 1) gn P n j (m + 1) w5 ∧ RowAt w5 wr.heap.size 3 (rowI (P + 1) (thenV n j 0))) := Lib.hid ⟨hW.out.keep b5, by rw [rowI_zero _ (thenV_zero n j)]; exact hr5⟩
      have HNt : Hid (gf ≠ wr.heap.size ∧ gf + 1 ≠ wr.heap.size ∧ gn ≠ wr.heap.size ∧ w.heap.size ≤ wr.heap.size) := Lib.hid ⟨by have := hW.out.1.lt; omega, by have := hW.out.2.1.lt; omega, by have := hW.out.2.2.1.lt; omega, hW.out.2.2.2.size⟩
      clear hown hgrow b5 hr5 hW hem
      go_wp2_with fail
      generalize wr.heap.size = gt at *
      go_loopw [9] (fun i wr => ∃ q : Nat, i = .int .i64 q ∧ q ≤ (nextL (m + 1)).length ∧ Hid (FwW w gf (gf + 1) gn P n j (m + 1) wr ∧ RowAt wr gt 3 (rowI (P + 1) (thenV n j q)))) (fun i _ => (nextL (m + 1)).length - (intOf i).toNat)
      case atStart => exact ⟨0, rfl, Nat.zero_le _, HT⟩
      case round =>
        clear HT
        obtain ⟨q, rfl, hq, hQ⟩ := hrel
        by_cases hql : q < (nextL (m + 1)).length
        · have b1 : (q : Int) < ((nextL (m + 1)).length : Int) := by omega
          have hix := index_next hql
          have hcb := scB_next (n := m + 1) (by omega) ((nextL (m + 1)).getD q 0) (by simp [hql])
          have hsucc := fun p => thenV_succ n j (i := q) (by rw [hjn]; exact hql) p
          rw [hjn] at hsucc
          generalize (nextL (m + 1)).getD q 0 = ch at *
          obtain ⟨s, hs⟩ : ∃ s : Nat, scB ch = (s : Int) := ⟨(scB ch).toNat, by omega⟩
          rw [hs] at hcb
          have hch : (ch.toNat : Int) = (s : Int) + 48 := by unfold scB at hs; omega
          rw [hch] at hix
          have HSu : Hid (∀ p, thenV n j (q + 1) p = thenV n j q p + nw n j (p - s)) := Lib.hid (fun p => by rw [hsucc p, hs])
          have HLow : Hid (FwW w gf (gf + 1) gn P n j (m + 1) wr ∧ RowAt wr gt 3 (rowI (P + 1) (fun i => if i < (s : Int) then thenV n j (q + 1) i else thenV n j q i))) := Lib.hid ⟨hQ.out.1, by
            rw [rowI_low (fun i hi => by rw [HSu.out, nw_neg n hn j _ (by omega)]; omega)]; exact hQ.out.2⟩
          clear hsucc hs hch hQ
          go_wp2_with fail
          go_loopw [11] (fun i wr => ∃ c : Nat, i = .int .i64 c ∧ s ≤ c ∧ (c ≤ P + 1 ∨ c = s) ∧ Hid (FwW w gf (gf + 1) gn P n j (m + 1) wr ∧ RowAt wr gt 3 (rowI (P + 1) (fun i => if i < (c : Int) then thenV n j (q + 1) i else thenV n j q i)))) (fun i _ => P + 1 - (intOf i).toNat)
          case atStart => exact ⟨s, rfl, Nat.le_refl _, .inr rfl, HLow⟩
          case round =>
            clear HLow hix
            obtain ⟨c, rfl, hsc, hcn, hC⟩ := hrel
            by_cases hc : c ≤ P
            · have b4 : (c : Int) ≤ (P : Int) := by omega
              have b5 : (c : Int) < (P : Int) + 1 := by omega
              obtain ⟨u, hu⟩ : ∃ u : Nat, (c : Int) - (s : Int) = (u : Int) := ⟨c - s, by omega⟩
              have b6 : (u : Int) < (P : Int) + 1 := by omega
              have hwu : IntKind.i64.wrap (u : Int) = (u : Int) := IntWalk.i64_in _ (by omega)
              have e1 := hC.out.2.cell (j := c) (by rw [rowI_len]; omega)
              have e2 := hC.out.1.2.2.1.cell (j := u) (by rw [rowI_len]; omega)
              have f1 := hC.out.2.free c
              rw [rowI_get _ (by omega)] at e1 e2
              rw [if_neg (by omega)] at e1
              have ht0 := thenV_bd hn (j := j) (by omega) q c
              have ht1 := thenV_bd hn (j := j) (by omega) (q + 1) c
              have hn0 := nw_nn n j (u : Int)
              have hn1 := nw_bd hn (j := j) (by omega) (u : Int)
              have hadd : thenV n j (q + 1) (c : Int) = thenV n j q c + nw n j (u : Int) := by rw [HSu.out, hu]
              have HNew : Hid (FwW w gf (gf + 1) gn P n j (m + 1) (wr.setCell ⟨gt, c, none⟩ (.int .i64 (thenV n j (q + 1) c))).drew ∧ RowAt (wr.setCell ⟨gt, c, none⟩ (.int .i64 (thenV n j (q + 1) c))).drew gt 3 (rowI (P + 1) (fun i => if i < ((c + 1 : Nat) : Int) then thenV n j (q + 1) i else thenV n j q i))) := by
                refine Lib.hid ⟨(hC.out.1.put _ HNt.out).drew, ?_⟩
                have hp := hC.out.2.put (j := c) (by rw [rowI_len]; omega) (thenV n j (q + 1) c)
                rw [rowI_step (by omega) rfl] at hp
                exact hp
              have hle : leastI (thenV n j q (c : Int) + nw n j (u : Int)) 1000000000000001 = thenV n j (q + 1) c := by unfold leastI; rw [if_pos (by omega), hadd]
              have HC := Lib.hid (fun W => l1Least_calm (thenV n j q (c : Int) + nw n j (u : Int)) 1000000000000001 W)
              rw [hle] at HC
              have hwt : IntKind.i64.wrap (thenV n j q (c : Int) + nw n j (u : Int)) = thenV n j q (c : Int) + nw n j (u : Int) := IntWalk.i64_in _ (by omega)
              clear hle hadd hC
              generalize thenV n j (q + 1) (c : Int) = y0 at *
              generalize thenV n j q (c : Int) = y1 at *
              generalize nw n j (u : Int) = y2 at *
              go_wp2_with fail
              go_still_tail 15, (by kernel_rfl)
              still_call (HC.out _)
              repeat still_step
              refine wpStill_nil ?_
              go_wp2_with fail
              go_roundw
              case rel => exact ⟨c + 1, by go_num, by omega, by omega, HNew⟩
              case measure => simp [intOf]; omega
            · have HEnd : Hid (FwW w gf (gf + 1) gn P n j (m + 1) wr ∧ RowAt wr gt 3 (rowI (P + 1) (thenV n j (q + 1)))) := Lib.hid ⟨hC.out.1, by
                have h := hC.out.2
                rw [rowI_end (by omega)] at h; exact h⟩
              have b4 : ¬ (c : Int) ≤ (P : Int) := by omega
              clear hC
              go_wp2_with fail
              go_roundw
              case rel => exact ⟨q + 1, by go_num, by omega, HEnd⟩
              case measure => simp [intOf]; omega
        · obtain rfl : q = (nextL (m + 1)).length := by omega
          have HX : Hid (FwW w gf (gf + 1) gn P n j (m + 1) wr ∧ RowAt wr gt 3 (rowI (P + 1) (fun i => if i < ((0 : Nat) : Int) then thenV n j 0 i else nw n (j + 1) i)) ∧ RowAt wr (gf + 1) 3 (rowI (P + 1) (fun i => if i < ((0 : Nat) : Int) then accW n (j + 1) i else accW n j i))) := by
            refine Lib.hid ⟨hQ.out.1, ?_, ?_⟩
            · have h := hQ.out.2
              rw [← hjn, show thenV n j (nextL (n - j)).length = nw n (j + 1) from funext fun p => thenV_all n j p] at h
              rw [rowI_low (fun i hi => by omega)]; exact h
            · rw [rowI_low (fun i hi => by omega)]; exact hQ.out.1.2.1
          have b1 : ¬ ((nextL (m + 1)).length : Int) < ((nextL (m + 1)).length : Int) := by omega
          clear hQ
          have hidh := index_head m
          have hcall := frPot_yes m (by omega) _ (head_in m)
          generalize (nextL (m + 1)).head?.getD 0 = ch at *
          have HCall := Lib.hid (And.intro hidh hcall); clear hidh hcall
          go_wp2_with fail
          go_loopw [68] (fun i wr => ∃ c : Nat, i = .int .i64 c ∧ c ≤ P + 1 ∧ Hid (FrAt wr gf (frR (m + 1)) (frC (m + 1)) (frL (m + 1)) ∧ RowAt wr gt 3 (rowI (P + 1) (nw n (j + 1))) ∧ RowAt wr (gf + 1) 3 (rowI (P + 1) (fun i => if i < (c : Int) then accW n (j + 1) i else accW n j i)) ∧ Below w.heap.size w wr)) (fun i _ => P + 1 - (intOf i).toNat)
          case atStart =>
            refine ⟨0, rfl, by omega, Lib.hid ⟨HX.out.1.1, ?_, HX.out.2.2, HX.out.1.2.2.2⟩⟩
            have h := HX.out.2.1
            rw [rowI_low (fun i hi => by omega)] at h; exact h
          case round =>
            clear HX
            obtain ⟨c, rfl, hc, hA⟩ := hrel
            by_cases hcP : c < P + 1
            · have b2 : (c : Int) < (P : Int) + 1 := by omega
              have e1 := hA.out.2.1.cell (j := c) (by rw [rowI_len]; omega)
              have e2 := hA.out.2.2.1.cell (j := c) (by rw [rowI_len]; omega)
              have f1 := hA.out.2.2.1.free c
              rw [rowI_get _ (by omega)] at e1 e2
              rw [if_neg (by omega)] at e2
              have ha0 := acc_nn n (c : Int) j
              have ha1 := acc_bd hn (j := j) (by omega) (c : Int)
              have ha2 := acc_bd hn (j := j + 1) (by omega) (c : Int)
              have hn0 := nw_nn n (j + 1) (c : Int)
              have hadd : accW n (j + 1) (c : Int) = accW n j c + nw n (j + 1) c := rfl
              have HNew : Hid (FrAt (wr.setCell ⟨gf + 1, c, none⟩ (.int .i64 (accW n (j + 1) c))) gf (frR (m + 1)) (frC (m + 1)) (frL (m + 1)) ∧ RowAt (wr.setCell ⟨gf + 1, c, none⟩ (.int .i64 (accW n (j + 1) c))) gt 3 (rowI (P + 1) (nw n (j + 1))) ∧ RowAt (wr.setCell ⟨gf + 1, c, none⟩ (.int .i64 (accW n (j + 1) c))) (gf + 1) 3 (rowI (P + 1) (fun i => if i < ((c + 1 : Nat) : Int) then accW n (j + 1) i else accW n j i)) ∧ Below w.heap.size w (wr.setCell ⟨gf + 1, c, none⟩ (.int .i64 (accW n (j + 1) c)))) := by
                refine Lib.hid ⟨hA.out.1.other (by omega) _, hA.out.2.1.other _ _ (by have := HNt.out.2.1; simp only; omega), ?_, hA.out.2.2.2.setCell (p := ⟨gf + 1, c, none⟩) (by have := hne.out.2.2; simp only; omega) _⟩
                have hp := hA.out.2.2.1.put (j := c) (by rw [rowI_len]; omega) (accW n (j + 1) c)
                rw [rowI_step (by omega) rfl] at hp
                exact hp
              have hle : leastI (accW n j (c : Int) + nw n (j + 1) (c : Int)) 1000000000000001 = accW n (j + 1) c := by unfold leastI; rw [if_pos (by omega), hadd]
              have HC := Lib.hid (fun W => l1Least_calm (accW n j (c : Int) + nw n (j + 1) (c : Int)) 1000000000000001 W)
              rw [hle] at HC
              clear hle hA
              rw [hadd] at ha2
              generalize accW n (j + 1) (c : Int) = y0 at *
              generalize accW n j (c : Int) = y1 at *
              generalize nw n (j + 1) (c : Int) = y2 at *
              clear hadd
              go_wp2_with fail
              refine (HC.out _).mono ?_; rintro e w6 ⟨rfl, rfl⟩
              go_wp2_with fail
              go_roundw
              case rel => exact ⟨c + 1, by go_num, by omega, HNew⟩
              case measure => simp [intOf]; omega
            · have HE : Hid (FwW w gf (gf + 1) gt P n (j + 1) (m + 1) wr) := by
                have h := hA.out.2.2.1
                rw [rowI_end (by omega)] at h
                exact Lib.hid ⟨hA.out.1, h, hA.out.2.1, hA.out.2.2.2⟩
              have b2 : ¬ (c : Int) < (P : Int) + 1 := by omega
              have hix := HCall.out.1
              clear hA
              obtain ⟨d0, d1, d2, d3, d4, d5⟩ := HE.out.1.cells
              go_wp2_with fail
              go_region_with (go_at_call 33; refine (HCall.out.2 _).mono ?_; rintro e w7 ⟨rfl, b7⟩; have tA7 := (HE.out.1.drew).keep b7; obtain ⟨e0, e1, e2, e3, e4, e5⟩ := tA7.cells)
              all_goals
                all_goals
                  have hS := tA7.stored (frR m) (frC m) (frL m)
                  have hD := HE.out.drew
                  have K1 := hD.2.1.keep b7
                  have K2 := hD.2.2.1.keep b7
                  have H8 : Hid (FwW w gf (gf + 1) gt P n (j + 1) m (put3 w7 gf m)) := Lib.hid ⟨hS, ((K1.other ⟨gf, 0, none⟩ _ (by simp only; omega)).other ⟨gf, 1, none⟩ _ (by simp only; omega)).other ⟨gf, 2, none⟩ _ (by simp only; omega), ((K2.other ⟨gf, 0, none⟩ _ (by have := HNt.out.1; simp only; omega)).other ⟨gf, 1, none⟩ _ (by have := HNt.out.1; simp only; omega)).other ⟨gf, 2, none⟩ _ (by have := HNt.out.1; simp only; omega), below_put3 (p := m) (hD.2.2.2.trans (b7.mono hD.2.2.2.size)) hne.out.2.2⟩
                  unfold put3 at H8
                  obtain ⟨q0, q1, q2, q3, q4, q5⟩ := H8.out.1.cells
                  clear hS hD K1 K2 b7 tA7 e0 e1 e2 e3 e4 e5 d0 d1 d2 d3 d4 d5 HE
                  generalize ((w7.setCell ⟨gf, 0, none⟩ (.int .i64 (frR m))).setCell ⟨gf, 1, none⟩ (.bool (frC m))).setCell ⟨gf, 2, none⟩ (.int .i64 (frL m)) = w8 at *
                  go_wp2_with fail
                  refine (HN.out m _).mono ?_; rintro e w9 ⟨rfl, b9⟩
                  have H9 := Lib.hid (H8.out.keep b9); clear b9 H8 q0 q1 q2 q3 q4 q5
                  go_wp2_with fail
                  go_roundw
                  case rel => exact ⟨m, j + 1, gt, by omega, rfl, rfl, H9, Lib.hid ⟨HNt.out.1, HNt.out.2.1, hne.out.2.2⟩⟩
                  case measure => rw [numAt_n H9.out.1 (by omega), HNum.out]; omega
end Go.Proofs.YtaplkciomagmiabDoor
