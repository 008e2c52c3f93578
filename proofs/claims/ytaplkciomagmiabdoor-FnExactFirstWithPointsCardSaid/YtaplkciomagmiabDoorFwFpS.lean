/-
  Frames: FirstWithPoints: the model's.
-/
import Derived.Test.YtaplkciomagmiabDoorFwFpI
import Derived.Laws.DeepStrings4
namespace Go.Proofs.YtaplkciomagmiabDoor
open Go.RowKit
set_option linter.unusedVariables false
set_option linter.unusedSimpArgs false

theorem take_one (l : List UInt8) {q : Nat} (h : q < l.length) : (l.drop q).take 1 = [l.getD q 0] := by
  rw [List.drop_eq_getElem_cons h, List.take_succ_cons, List.take_zero]
  simp [h]
theorem slice_one {n q : Nat} (h : q < (nextL n).length) (W : World) : (Instr.slice 9 (.string (nextS n)) (some (.int .i64 (q : Int))) (some (.int .i64 ((q : Int) + 1))) none).run Tryd.prog W = .ok (.string ⟨#[(nextL n).getD q 0]⟩) W := by
  have h2 : q < (nextS n).size := by rw [next_size_len]; exact h
  rw [run_slice_string_if W _ _ _ _ _ _ Tryd.underlying9, if_pos ⟨by omega, by omega⟩, if_pos ⟨by omega, by omega⟩]
  rw [show ((q : Int) + 1).toNat = q + 1 by omega, Int.toNat_natCast, Lib.extract_eq, next_list, show q + 1 - q = 1 by omega, take_one _ h]

/-- A frame laid in a block of its own, beside the one of the call. -/
def StepF (w X : World) (b p q : Nat) : Prop :=
  FrAt X b (frR p) (frC p) (frL p) ∧ FrAt X w.heap.size (frR q) (frC q) (frL q) ∧ Below w.heap.size w X
theorem stepF1 {w wr w2 : World} {p q : Nat} (hA : FrAt wr w.heap.size (frR q) (frC q) (frL q)) (hbel : Below w.heap.size w wr)
    (b2 : Below (wr.alloc zeroC).drew.heap.size (wr.alloc zeroC).drew w2) : StepF w (put3 w2 wr.heap.size p) wr.heap.size p q := by
  have zA := hA.lt
  have k : ∀ {g : Nat} {r : Int} {c : Bool} {l : Int}, FrAt (wr.alloc zeroC) g r c l → FrAt w2 g r c l := fun h => h.drew.keep b2
  refine ⟨(k (FrAt.new wr 0 false 0)).stored _ _ _, (k (hA.old _)).put3_other (by omega), below_put3 (((hbel.alloc (by omega) _).drew).trans (b2.mono (by simp; omega))) (by omega)⟩
theorem stepF2 {w wr w2 : World} {p q : Nat} (hA : FrAt wr w.heap.size (frR q) (frC q) (frL q)) (hbel : Below w.heap.size w wr)
    (b2 : Below wr.drew.heap.size wr.drew w2) : StepF w (w2.alloc (.cells #[.int .i64 (frR p), .bool (frC p), .int .i64 (frL p)] 29)) w2.heap.size p q := by
  have zA := hA.lt
  have z2 := b2.size
  simp at z2
  have k : ∀ {g : Nat} {r : Int} {c : Bool} {l : Int}, FrAt wr g r c l → FrAt w2 g r c l := fun h => h.drew.keep b2
  exact ⟨FrAt.new w2 _ _ _, (k hA).old _, ((hbel.drew).trans (b2.mono (by simp; omega))).alloc (by omega) _⟩

set_option maxHeartbeats 6400000 in
set_option maxRecDepth 100000 in
theorem specFwp_no (n : Nat) (hn : n ≤ 36) (k : Nat) (hk : k ≤ 147) (h0 : bp n k = 0) (w : World) :
    Calls Tryd.prog 18 #[frV n, .int .i64 k] w fun e w' => e = .returned (.tuple #[.string ⟨#[]⟩, .bool false]) ∧ Below w.heap.size w w' := by
  have H := Lib.hid (frG_of hn)
  have HI := Lib.hid (show inR (k : Int) 0 147 = true by unfold inR; simp; omega)
  have HV := Lib.hid h0; clear h0
  have A0 := FrAt.new w (frR n) (frC n) (frL n)
  have b0 := below_new w (.cells #[.int .i64 (frR n), .bool (frC n), .int .i64 (frL n)] 29)
  go_enter Tryd.func18, Tryd.ntmps18
  go_wp2_with fail
  refine (frGood_any _ _ _ _).mono ?_; rintro e w1 ⟨rfl, b1⟩
  rw [H.out]
  have H1 := Lib.hid (And.intro (A0.keep b1) (b0.trans (b1.mono b0.size))); clear A0 b0 b1
  obtain ⟨d0, d1, d2, -, -, -⟩ := H1.out.1.cells
  go_wp2_with fail
  refine (l1In_any _ _ _ _).mono ?_; rintro e w2 ⟨rfl, rfl⟩
  rw [HI.out]
  go_wp2_with fail
  refine (frWays_any n k hn hk _).mono ?_; rintro e w3 ⟨g, rfl, hg, hr, b3⟩
  have c0 := hr.cell (j := k) (by rw [rowI_len]; omega)
  rw [rowI_get _ (by omega), HV.out] at c0
  have b2 : (k : Int) < (k : Int) + 1 := by omega
  have H3 := Lib.hid (H1.out.2.trans (b3.mono H1.out.2.size))
  clear hr d0 d1 d2 b3 H1
  go_wp2_with fail
  go_ret2
  exact ⟨rfl, H3.out⟩

set_option maxHeartbeats 12800000 in
set_option maxRecDepth 100000 in
theorem specFwp_yes (n : Nat) (hn : n ≤ 36) (k : Nat) (hk : k ≤ 147) (h0 : 0 < bp n k) (w : World) :
    Calls Tryd.prog 18 #[frV n, .int .i64 k] w fun e w' => e = .returned (.tuple #[.string ⟨(firstP n k).toArray⟩, .bool true]) ∧ Below w.heap.size w w' := by
  have H := Lib.hid (frG_of hn)
  have HI := Lib.hid (show inR (k : Int) 0 147 = true by unfold inR; simp; omega)
  have HN := Lib.hid (fun m => frNext_n m)
  have hRl := firstP_len n (k : Int)
  obtain ⟨R, hR⟩ : ∃ R, R = firstP n (k : Int) := ⟨_, rfl⟩
  rw [← hR] at hRl ⊢
  obtain ⟨v, hv⟩ : ∃ v, v = bp n (k : Int) := ⟨_, rfl⟩
  have hv0 : (v == 0) = false := by rw [beq_eq_false_iff_ne]; omega
  have HB := Lib.hid (And.intro h0 (And.intro hR hv)); clear h0 hR hv
  have A0 := FrAt.new w (frR n) (frC n) (frL n)
  have b0 := below_new w (.cells #[.int .i64 (frR n), .bool (frC n), .int .i64 (frL n)] 29)
  go_enter Tryd.func18, Tryd.ntmps18
  go_wp2_with fail
  refine (frGood_any _ _ _ _).mono ?_; rintro e w1 ⟨rfl, b1⟩
  rw [H.out]
  have H1 := Lib.hid (And.intro (A0.keep b1) (b0.trans (b1.mono b0.size))); clear A0 b0 b1
  obtain ⟨d0, d1, d2, -, -, -⟩ := H1.out.1.cells
  go_wp2_with fail
  refine (l1In_any _ _ _ _).mono ?_; rintro e w2 ⟨rfl, rfl⟩
  rw [HI.out]
  go_wp2_with fail
  refine (frWays_any n k hn hk _).mono ?_; rintro e w3 ⟨g, rfl, hg, hr, b3⟩
  have c0 := hr.cell (j := k) (by rw [rowI_len]; omega)
  rw [rowI_get _ (by omega), ← HB.out.2.2] at c0
  have b2 : (k : Int) < (k : Int) + 1 := by omega
  have H3 := Lib.hid (And.intro (H1.out.1.keep b3) (H1.out.2.trans (b3.mono H1.out.2.size)))
  clear hr d0 d1 d2 b3 H1
  go_wp2_with fail
  clear c0 b2 hv0
  go_loopw [1, 6] (fun a o wr => ∃ (x m : Nat) (acc : List UInt8), a = .int .i64 x ∧ o = .string ⟨acc.toArray⟩ ∧ x ≤ 147 ∧ m ≤ 36 ∧ acc.length + m ≤ 36 ∧ Hid (0 < bp m (x : Int)) ∧ Hid (acc ++ firstP m (x : Int) = R) ∧ Hid (FrAt wr w.heap.size (frR m) (frC m) (frL m) ∧ Below w.heap.size w wr)) (fun a _ _ => (intOf a).toNat)
  case atStart => exact ⟨k, n, [], rfl, rfl, hk, hn, by simpa using hn, Lib.hid HB.out.1, Lib.hid HB.out.2.1.symm, H3⟩
  case round =>
    clear H3 HB
    obtain ⟨x, m, acc, rfl, rfl, hx, hm, hal, hpos, hR, hW⟩ := hrel
    by_cases hx0 : 0 < x
    · obtain ⟨m', rfl, c, hf, hc, hr0, hrp⟩ := bp_more hm (by omega) hpos.out
      have hx1 : (0 : Int) < (x : Int) := by omega
      have hR2 : acc ++ c :: firstP m' ((x : Int) - scB c) = R := by rw [← firstP_some hx1 hf]; exact hR.out
      have HR2 := Lib.hid (And.intro hR2 hrp)
      have HFS := Lib.hid hf
      clear hpos hR hf hr0 hrp hR2 hc
      obtain ⟨d0, d1, d2, d3, d4, d5⟩ := hW.out.1.cells
      have hlen0 := next_size_len (m' + 1)
      have hlen6 := nextL_len6 hm
      have hsz : ((nextS (m' + 1)).size : Int) = (nextL (m' + 1)).length := by rw [hlen0]
      go_wp2_with fail
      refine (HN.out (m' + 1) _).mono ?_; rintro e w4 ⟨rfl, b4⟩
      have H4 := Lib.hid (And.intro (hW.out.1.keep b4) (hW.out.2.trans (b4.mono hW.out.2.size))); clear b4 d0 d1 d2 d3 d4 d5 hW
      go_wp2_with fail
      go_loopw [1, 6, 8] (fun a o i wr => ∃ q : Nat, i = .int .i64 q ∧ a = .int .i64 x ∧ o = .string ⟨acc.toArray⟩ ∧ q ≤ (nextL (m' + 1)).length ∧ Hid (((nextL (m' + 1)).drop q).find? (okB m' x) = some c) ∧ Hid (FrAt wr w.heap.size (frR (m' + 1)) (frC (m' + 1)) (frL (m' + 1)) ∧ Below w.heap.size w wr)) (fun _ _ i _ => (nextL (m' + 1)).length - (intOf i).toNat)
      case atStart => exact ⟨0, rfl, rfl, rfl, Nat.zero_le _, HFS, H4⟩
      case round =>
        clear H4 HFS
        obtain ⟨q, rfl, rfl, rfl, hq, hF, hW⟩ := hrel
        by_cases hql : q < (nextL (m' + 1)).length
        · have b1 : (q : Int) < ((nextL (m' + 1)).length : Int) := by omega
          have hix := index_next hql
          have hsl := slice_one hql
          have hmem : (nextL (m' + 1)).getD q 0 ∈ nextL (m' + 1) := by simp [hql]
          have hcb := scB_next (n := m' + 1) hm ((nextL (m' + 1)).getD q 0) hmem
          have hfd := findU_drop (p := okB m' x) hql
          rw [hF.out] at hfd
          generalize (nextL (m' + 1)).getD q 0 = ch at *
          obtain ⟨s, hs⟩ : ∃ s : Nat, scB ch = (s : Int) := ⟨(scB ch).toNat, by omega⟩
          have hch : (ch.toNat : Int) = (s : Int) + 48 := by unfold scB at hs; omega
          have hok : okB m' x ch = (decide (0 ≤ (x : Int) - s) && decide (0 < bp m' ((x : Int) - s))) := by unfold okB; rw [hs]
          have hcall := frPot_yes m' (by omega) ch hmem
          rw [hch] at hix hcall
          rw [hs] at hcb
          have HCall := Lib.hid hcall; clear hcall hmem hF
          obtain ⟨d0, d1, d2, d3, d4, d5⟩ := hW.out.1.cells
          have zA := hW.out.1.lt
          go_wp2_with fail
          go_region_with (go_at_call 33; refine (HCall.out _).mono ?_; rintro e w7 ⟨rfl, b7⟩; obtain ⟨c2, f2⟩ := bcell b7; have z2 := b7.size; (try simp at z2))
          all_goals clear c2 f2 d0 d1 d2 d3 d4 d5 hix
          all_goals first
            | (have hP := stepF1 (p := m') hW.out.1 hW.out.2 (b7 : Below (wr.alloc zeroC).drew.heap.size (wr.alloc zeroC).drew w7)
               unfold put3 at hP
               generalize (((w7.setCell ⟨wr.heap.size, 0, none⟩ (.int .i64 (frR m'))).setCell ⟨wr.heap.size, 1, none⟩ (.bool (frC m'))).setCell ⟨wr.heap.size, 2, none⟩ (.int .i64 (frL m'))) = X at hP ⊢
               generalize wr.heap.size = bb at hP ⊢)
            | (have hP := stepF2 (p := m') hW.out.1 hW.out.2 (b7 : Below wr.drew.heap.size wr.drew w7)
               generalize w7.alloc (.cells #[.int .i64 (frR m'), .bool (frC m'), .int .i64 (frL m')] 29) = X at hP ⊢
               generalize w7.heap.size = bb at hP ⊢)
          all_goals
            clear b7 z2 hW
            have HP := Lib.hid hP; clear hP
            by_cases hr : 0 ≤ (x : Int) - s
            · obtain ⟨r, hrr⟩ : ∃ r : Nat, (x : Int) - (s : Int) = (r : Int) := ⟨((x : Int) - s).toNat, by omega⟩
              rw [decide_eq_true hr, Bool.true_and, hrr] at hok
              rw [hrr] at hr
              have HFw := Lib.hid (frWays_any m' r (by omega) (by omega))
              obtain ⟨d0, d1, d2, -, -, -⟩ := HP.out.1.cells
              have b3 : (r : Int) < (r : Int) + 1 := by omega
              by_cases hy : 0 < bp m' (r : Int)
              · rw [decide_eq_true hy] at hok
                rw [if_pos hok] at hfd
                have hcc : c = ch := by simpa using hfd
                have hRr : (acc ++ [ch]) ++ firstP m' (r : Int) = R := by
                  rw [← HR2.out.1, hcc, hs, hrr]; simp
                have HX := Lib.hid (And.intro hRr hy)
                have hadd : ∀ W : World, (Op.stringOp .add ⟨acc.toArray⟩ ⟨#[ch]⟩).run Tryd.prog W = .ok (.string ⟨(acc ++ [ch]).toArray⟩) W := fun W => run_string_add_lists W acc [ch] (by omega) (by simp)
                clear hok hfd hcc hRr hs hch
                go_wp2_with fail
                refine (HFw.out _).mono ?_; rintro e w9 ⟨g, rfl, hg, hr9, b9⟩
                have c0 := hr9.cell (j := r) (by rw [rowI_len]; omega)
                rw [rowI_get _ (by omega)] at c0
                have H9 := Lib.hid (And.intro (HP.out.1.keep b9) (And.intro (HP.out.2.1.keep b9) (HP.out.2.2.trans (b9.mono HP.out.2.2.size))))
                clear hr9 b9 HP d0 d1 d2
                generalize hyv : bp m' (r : Int) = y at *
                have HY := Lib.hid hyv; clear hyv
                obtain ⟨d0, d1, d2, -, -, -⟩ := H9.out.1.cells
                obtain ⟨e0, e1, e2, e3, e4, e5⟩ := H9.out.2.1.cells
                have hS := H9.out.2.1.stored (frR m') (frC m') (frL m')
                have B5 := below_put3 (b := w.heap.size) (p := m') H9.out.2.2 (Nat.le_refl _)
                have H5 := Lib.hid (And.intro hS B5); clear hS B5
                go_wp2_with fail
                go_roundw
                case rel => exact ⟨r, m', acc ++ [ch], by first | rfl | go_num, rfl, by omega, by omega, by simp; omega, Lib.hid (by rw [HY.out]; exact HX.out.2), Lib.hid HX.out.1, H5⟩
                case measure => simp [intOf]; omega
              · rw [decide_eq_false hy] at hok
                rw [if_neg (by rw [hok]; simp)] at hfd
                have HF2 := Lib.hid hfd.symm
                clear hok hfd hs hch hsl
                go_wp2_with fail
                refine (HFw.out _).mono ?_; rintro e w9 ⟨g, rfl, hg, hr9, b9⟩
                have c0 := hr9.cell (j := r) (by rw [rowI_len]; omega)
                rw [rowI_get _ (by omega)] at c0
                have H9 := Lib.hid (And.intro (HP.out.2.1.keep b9) (HP.out.2.2.trans (b9.mono HP.out.2.2.size)))
                clear hr9 b9 HP d0 d1 d2
                generalize bp m' (r : Int) = y at *
                go_wp2_with fail
                go_roundw
                case rel => exact ⟨q + 1, by go_num, rfl, rfl, by omega, HF2, H9⟩
                case measure => simp [intOf]; omega
            · rw [decide_eq_false hr, Bool.false_and] at hok
              rw [if_neg (by rw [hok]; simp)] at hfd
              have HF2 := Lib.hid hfd.symm
              have H9 := Lib.hid HP.out.2
              clear hok hfd hs hch hsl HP
              go_wp2_with fail
              go_roundw
              case rel => exact ⟨q + 1, by go_num, rfl, rfl, by omega, HF2, H9⟩
              case measure => simp [intOf]; omega
        · obtain rfl : q = (nextL (m' + 1)).length := by omega
          have := hF.out
          rw [List.drop_length] at this
          cases this
    · obtain rfl : x = 0 := by omega
      have hf : acc = R := by rw [← hR.out, firstP_end m (by omega)]; simp
      have HX := Lib.hid (And.intro hf hW.out.2); clear hf hR hpos hW
      go_wp2_with fail
      go_ret2
      exact ⟨by rw [HX.out.1]; rfl, HX.out.2⟩
end Go.Proofs.YtaplkciomagmiabDoor
