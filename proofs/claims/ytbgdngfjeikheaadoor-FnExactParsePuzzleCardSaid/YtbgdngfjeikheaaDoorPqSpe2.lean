/-
  Puzzles out of texts: the model: no clues.
-/
import Derived.Test.YtbgdngfjeikheaaDoorPqSpec
import Derived.OwnWalk
import Derived.Deep.RegionHeld3
namespace Go.Proofs.YtbgdngfjeikheaaDoor
open Go.RowKit
set_option linter.unusedVariables false
set_option linter.unusedSimpArgs false

set_option maxHeartbeats 800000 in
set_option maxRecDepth 100000 in
theorem pzParse_nil (s p q : ByteArray) (t : Int) (V : Int × List Cl) (o : Bool) (hz : s.size ≤ 60) (hp : p.size ≤ s.size) (hq : q.data.toList = []) (ht : readL p.data.toList = t) (hvv : (goodP t [] = false → V = (t, []) ∧ o = false) ∧ (goodP t [] = true → (pzTL t [] = s.data.toList → V = (t, []) ∧ o = true) ∧ (¬ pzTL t [] = s.data.toList → V = (t, []) ∧ o = false))) (hsp : ∀ w : World, Calls Tryd.prog 88 #[.string s, .int .u8 112] w fun e w' => ∃ v, e = .returned v ∧ w'.ownsRow w.heap.size 9 1 v 2 (strS [p, q]) ∧ Below w.heap.size w w') (w : World) :
    Calls Tryd.prog 69 #[.string s] w fun e w' => PzR V.1 V.2 o w e w' := by
  have HSP := Lib.hid hsp; clear hsp
  have htw := fun W => l1Read_any p (by omega) W
  rw [ht] at htw
  have HTW := Lib.hid htw; clear htw ht
  have HP0 := Lib.hid (And.intro (ObAt.new w 24 #[.int .i64 0, .slice none 0 0]) (Below.ofNew (w := w) (.cells #[.int .i64 0, .slice none 0 0] 24)))
  have d6 : ¬ (60 : Int) < (s.size : Int) := by omega
  have hq1 : q.size = 0 := by have h := congrArg List.length hq; simpa using h
  have HVV := Lib.hid hvv; clear hvv
  clear hz hp hq
  go_enter Tryd.func69, Tryd.ntmps69
  go_wp2_with fail
  refine (HSP.out _).mono ?_; rintro e w1 ⟨v, rfl, hown, hbel⟩
  obtain ⟨b0, cap0, cs0, rfl, -, hob, hcs⟩ := row_ob hown (by decide)
  have HP1 := Lib.hid (And.intro (HP0.out.1.keep hbel) (And.intro (HP0.out.2.trans (hbel.mono HP0.out.2.size)) hob))
  have HC0 := Lib.hid (And.intro (hcs 0 p rfl) (hcs 1 q rfl))
  have k0 : w1.cell? ⟨b0, 0, none⟩ = some (.string p) := (hob.cell 0).trans HC0.out.1
  clear hown hbel HP0 HSP hob hcs
  go_wp2_with fail
  refine (HTW.out _).mono ?_; rintro e w2 ⟨rfl, rfl⟩
  clear k0
  have bn := Below.ofNew (w := w1) (.cells #[.int .i64 t, .slice none 0 0] 24)
  have HP2 : Hid (ObAt (w1.alloc (.cells #[.int .i64 t, .slice none 0 0] 24)) w.heap.size 24 #[.int .i64 0, .slice none 0 0] ∧ ObAt (w1.alloc (.cells #[.int .i64 t, .slice none 0 0] 24)) w1.heap.size 24 #[.int .i64 t, .slice none 0 0] ∧ ObAt (w1.alloc (.cells #[.int .i64 t, .slice none 0 0] 24)) b0 9 cs0 ∧ w.heap.size < w1.heap.size ∧ Below w.heap.size w (w1.alloc (.cells #[.int .i64 t, .slice none 0 0] 24))) :=
    ⟨HP1.out.1.keep bn, ObAt.new _ _ _, HP1.out.2.2.keep bn, HP1.out.1.lt, HP1.out.2.1.trans (bn.mono HP1.out.2.1.size)⟩
  clear bn HP1 HTW
  have k1 : (w1.alloc (.cells #[.int .i64 t, .slice none 0 0] 24)).cell? ⟨b0, 1, none⟩ = some (.string q) := (HP2.out.2.2.1.cell 1).trans HC0.out.2
  have HPQ : Hid (PqS w t w1.heap.size none [] 0 (w1.alloc (.cells #[.int .i64 t, .slice none 0 0] 24))) := ⟨HP2.out.1, HP2.out.2.1, owns_nil3 _ _ _, HP2.out.2.2.2.2⟩
  have HNE : Hid (w1.heap.size ≠ w.heap.size) := Nat.ne_of_gt HP2.out.2.2.2.1
  clear HP2 HC0
  have hq0 : ¬ 0 < q.size := by omega
  go_wp2_with fail
  clear k1
  generalize w1.alloc (.cells #[.int .i64 t, .slice none 0 0] 24) = WR at *
  generalize w1.heap.size = g at *
  have hrd : Reads WR none (clus []) := .inl rfl
  have HLT := Lib.hid (fun W (hb : Below WR.heap.size WR W) => pzGood_any t [] none 0 W (by first | omega | (simp; done)) (hrd.old hb))
  have HTX := Lib.hid (fun (hg : goodP t [] = true) W (hb : Below WR.heap.size WR W) => pzTextZ_any t [] hg none 0 W (hrd.old hb))
  clear hrd
  cases hg : goodP t []
  · rw [hg] at HLT
    have HF := Lib.hid (HVV.out.1 hg)
    clear hg HVV HTX
    refine wp_region_held_drew (S := fun wi => wi.cell? ⟨g, 0, none⟩ = some (.int .i64 t) ∧ wi.cell? ⟨g, 1, none⟩ = some (.slice none 0 0)) (by kernel_rfl) ⟨HPQ.out.2.1.cell 0, HPQ.out.2.1.cell 1⟩ (fun hHeld => ?_)
    (refine wpAnyH_take (i := 0) (v := ?_) rfl (by kernel_rfl) (by kernel_rfl) (by kernel_rfl) (fun _ _ _ h => h) (Or.inl ⟨by kernel_rfl, ?_⟩) (by assumption) ?_; rotate_left; focus (intro w hSw; (try dsimp only at hSw); go_simp; try with_reducible rfl); (try simp only [List.getElem_toArray, List.getElem_cons_succ, List.getElem_cons_zero, Act.put, List.setIfInBounds_toArray, List.set_cons_zero, List.set_cons_succ])); (refine wpAnyH_take (i := 1) (v := ?_) rfl (by kernel_rfl) (by kernel_rfl) (by kernel_rfl) (fun _ _ _ h => h) (Or.inl ⟨by kernel_rfl, ?_⟩) (by assumption) ?_; rotate_left; focus (intro w hSw; (try dsimp only at hSw); go_simp; try with_reducible rfl); (try simp only [List.getElem_toArray, List.getElem_cons_succ, List.getElem_cons_zero, Act.put, List.setIfInBounds_toArray, List.set_cons_zero, List.set_cons_succ]))
    refine wpAnyH_ready (rs := [2]) (by kernel_rfl) (by simp) ?_; refine AllReadyH.cons rfl (fun K hK => ?_) AllReadyH.nil
    go_simp
    go_at_call 62
    refine (HLT.out _ (Below.drew (Below.refl _ _))).mono ?_; rintro e w9 ⟨rfl, b9⟩
    have KP := Lib.hid ((HPQ.out.keep (Below.drew (Below.refl _ _))).keep b9)
    have KS := Lib.hid (And.intro (KP.out.2.1.cell 0) (KP.out.2.1.cell 1))
    clear hHeld
    go_wp2_with fail
    first
      | refine hK.out _ _ KS.out (fun hHeld => ?_)
      | refine hK _ _ KS.out (fun hHeld => ?_)
    clear hK K
    (try simp only [List.getElem_toArray, List.getElem_cons_succ, List.getElem_cons_zero, Act.put, List.setIfInBounds_toArray, List.set_cons_zero, List.set_cons_succ])
    clear KS
    (refine wpAnyH_take (i := 3) (v := ?_) rfl (by kernel_rfl) (by kernel_rfl) (by kernel_rfl) (fun _ _ _ h => h) (Or.inl ⟨by kernel_rfl, ?_⟩) (by assumption) ?_; rotate_left; focus (intro w hSw; (try dsimp only at hSw); go_simp; try with_reducible rfl); (try simp only [List.getElem_toArray, List.getElem_cons_succ, List.getElem_cons_zero, Act.put, List.setIfInBounds_toArray, List.set_cons_zero, List.set_cons_succ]))
    (refine wpAnyH_take (i := 4) (v := undef) rfl (by kernel_rfl) (by kernel_rfl) (by kernel_rfl) (fun _ _ _ h => h) (Or.inr ⟨by kernel_rfl, rfl⟩) (by assumption) ?_; (try simp only [List.getElem_toArray, List.getElem_cons_succ, List.getElem_cons_zero, Act.put, List.setIfInBounds_toArray, List.set_cons_zero, List.set_cons_succ])); (refine wpAnyH_take (i := 5) (v := undef) rfl (by kernel_rfl) (by kernel_rfl) (by kernel_rfl) (fun _ _ _ h => h) (Or.inr ⟨by kernel_rfl, rfl⟩) (by assumption) ?_; (try simp only [List.getElem_toArray, List.getElem_cons_succ, List.getElem_cons_zero, Act.put, List.setIfInBounds_toArray, List.set_cons_zero, List.set_cons_succ])); (refine wpAnyH_take (i := 6) (v := undef) rfl (by kernel_rfl) (by kernel_rfl) (by kernel_rfl) (fun _ _ _ h => h) (Or.inr ⟨by kernel_rfl, rfl⟩) (by assumption) ?_; (try simp only [List.getElem_toArray, List.getElem_cons_succ, List.getElem_cons_zero, Act.put, List.setIfInBounds_toArray, List.set_cons_zero, List.set_cons_succ])); (refine wpAnyH_take (i := 7) (v := undef) rfl (by kernel_rfl) (by kernel_rfl) (by kernel_rfl) (fun _ _ _ h => h) (Or.inr ⟨by kernel_rfl, rfl⟩) (by assumption) ?_; (try simp only [List.getElem_toArray, List.getElem_cons_succ, List.getElem_cons_zero, Act.put, List.setIfInBounds_toArray, List.set_cons_zero, List.set_cons_succ]))
    (refine wpAnyH_take (i := 8) (v := ?_) rfl (by kernel_rfl) (by kernel_rfl) (by kernel_rfl) (fun _ _ _ h => h) (Or.inl ⟨by kernel_rfl, ?_⟩) (by assumption) ?_; rotate_left; focus (intro w hSw; (try dsimp only at hSw); go_simp; try with_reducible rfl); (try simp only [List.getElem_toArray, List.getElem_cons_succ, List.getElem_cons_zero, Act.put, List.setIfInBounds_toArray, List.set_cons_zero, List.set_cons_succ]))
    have HRS := Lib.hid (KP.out.res (.int .i64 t) (.slice none 0 0))
    obtain ⟨z0, z1, f0, f1⟩ := KP.out.1.two
    have hgw : g ≠ w.heap.size := HNE.out
    obtain ⟨e0, e1⟩ := pq_cells (u0 := .int .i64 t) (u1 := .slice none 0 0) KP.out.2.1 hgw
    have HE := Lib.hid (And.intro e0 e1); clear e0 e1 hgw
    refine wpAnyH_ready (rs := [9]) (by kernel_rfl) (by simp) ?_; refine AllReadyH.cons rfl (fun K hK => ?_) AllReadyH.nil
    go_simp
    clear z0 z1 f0 f1
    first
      | refine hK.out _ _ HE.out (fun hHeld => ?_)
      | refine hK _ _ HE.out (fun hHeld => ?_)
    clear hK K
    (try simp only [List.getElem_toArray, List.getElem_cons_succ, List.getElem_cons_zero, Act.put, List.setIfInBounds_toArray, List.set_cons_zero, List.set_cons_succ])
    (refine wpAnyH_take (i := 10) (v := ?_) rfl (by kernel_rfl) (by kernel_rfl) (by kernel_rfl) (fun _ _ _ h => h) (Or.inl ⟨by kernel_rfl, ?_⟩) (by assumption) ?_; rotate_left; focus (intro w hSw; (try dsimp only at hSw); go_simp; try with_reducible rfl); (try simp only [List.getElem_toArray, List.getElem_cons_succ, List.getElem_cons_zero, Act.put, List.setIfInBounds_toArray, List.set_cons_zero, List.set_cons_succ]))
    refine wpAnyH_done (by kernel_rfl) ?_ _
    (try simp only [List.getElem_toArray, List.getElem_cons_succ, List.getElem_cons_zero, Act.put, List.setIfInBounds_toArray, List.set_cons_zero, List.set_cons_succ])
    obtain ⟨r0, r1, -, -⟩ := HRS.out.2.2.two
    go_wp2_with fail
    rw [HF.out.1, HF.out.2]
    refine bodyPost_ret (v := .tuple #[.agg #[.int .i64 t, .slice none 0 0], .bool false]) ?_ rfl ⟨none, 0, rfl, HRS.out.1, HRS.out.2.1⟩
    simp [results, Tryd.results69, go_sem, *]
  · rw [hg] at HLT
    have HT1 := Lib.hid (HTX.out hg)
    have hq := eq_listPq (pzTL t []) s
    have hv := HVV.out.2 hg
    clear hg HVV HTX
    by_cases ht : pzTL t [] = s.data.toList
    · rw [decide_eq_true ht] at hq
      have HF := Lib.hid (hv.1 ht)
      generalize (⟨(pzTL t []).toArray⟩ : ByteArray) = T at *
      clear ht hv
      refine wp_region_held_drew (S := fun wi => wi.cell? ⟨g, 0, none⟩ = some (.int .i64 t) ∧ wi.cell? ⟨g, 1, none⟩ = some (.slice none 0 0)) (by kernel_rfl) ⟨HPQ.out.2.1.cell 0, HPQ.out.2.1.cell 1⟩ (fun hHeld => ?_)
      (refine wpAnyH_take (i := 0) (v := ?_) rfl (by kernel_rfl) (by kernel_rfl) (by kernel_rfl) (fun _ _ _ h => h) (Or.inl ⟨by kernel_rfl, ?_⟩) (by assumption) ?_; rotate_left; focus (intro w hSw; (try dsimp only at hSw); go_simp; try with_reducible rfl); (try simp only [List.getElem_toArray, List.getElem_cons_succ, List.getElem_cons_zero, Act.put, List.setIfInBounds_toArray, List.set_cons_zero, List.set_cons_succ])); (refine wpAnyH_take (i := 1) (v := ?_) rfl (by kernel_rfl) (by kernel_rfl) (by kernel_rfl) (fun _ _ _ h => h) (Or.inl ⟨by kernel_rfl, ?_⟩) (by assumption) ?_; rotate_left; focus (intro w hSw; (try dsimp only at hSw); go_simp; try with_reducible rfl); (try simp only [List.getElem_toArray, List.getElem_cons_succ, List.getElem_cons_zero, Act.put, List.setIfInBounds_toArray, List.set_cons_zero, List.set_cons_succ]))
      refine wpAnyH_ready (rs := [2]) (by kernel_rfl) (by simp) ?_; refine AllReadyH.cons rfl (fun K hK => ?_) AllReadyH.nil
      go_simp
      go_at_call 62
      refine (HLT.out _ (Below.drew (Below.refl _ _))).mono ?_; rintro e w9 ⟨rfl, b9⟩
      have KP := Lib.hid ((HPQ.out.keep (Below.drew (Below.refl _ _))).keep b9)
      have KS := Lib.hid (And.intro (KP.out.2.1.cell 0) (KP.out.2.1.cell 1))
      clear hHeld
      go_wp2_with fail
      first
        | refine hK.out _ _ KS.out (fun hHeld => ?_)
        | refine hK _ _ KS.out (fun hHeld => ?_)
      clear hK K
      (try simp only [List.getElem_toArray, List.getElem_cons_succ, List.getElem_cons_zero, Act.put, List.setIfInBounds_toArray, List.set_cons_zero, List.set_cons_succ])
      clear KS
      (refine wpAnyH_take (i := 3) (v := ?_) rfl (by kernel_rfl) (by kernel_rfl) (by kernel_rfl) (fun _ _ _ h => h) (Or.inl ⟨by kernel_rfl, ?_⟩) (by assumption) ?_; rotate_left; focus (intro w hSw; (try dsimp only at hSw); go_simp; try with_reducible rfl); (try simp only [List.getElem_toArray, List.getElem_cons_succ, List.getElem_cons_zero, Act.put, List.setIfInBounds_toArray, List.set_cons_zero, List.set_cons_succ]))
      (refine wpAnyH_take (i := 4) (v := ?_) rfl (by kernel_rfl) (by kernel_rfl) (by kernel_rfl) (fun _ _ _ h => h) (Or.inl ⟨by kernel_rfl, ?_⟩) (by assumption) ?_; rotate_left; focus (intro w hSw; (try dsimp only at hSw); go_simp; try with_reducible rfl); (try simp only [List.getElem_toArray, List.getElem_cons_succ, List.getElem_cons_zero, Act.put, List.setIfInBounds_toArray, List.set_cons_zero, List.set_cons_succ])); (refine wpAnyH_take (i := 6) (v := ?_) rfl (by kernel_rfl) (by kernel_rfl) (by kernel_rfl) (fun _ _ _ h => h) (Or.inl ⟨by kernel_rfl, ?_⟩) (by assumption) ?_; rotate_left; focus (intro w hSw; (try dsimp only at hSw); go_simp; try with_reducible rfl); (try simp only [List.getElem_toArray, List.getElem_cons_succ, List.getElem_cons_zero, Act.put, List.setIfInBounds_toArray, List.set_cons_zero, List.set_cons_succ]))
      refine wpAnyH_ready (rs := [5]) (by kernel_rfl) (by simp) ?_; refine AllReadyH.cons rfl (fun K hK => ?_) AllReadyH.nil
      go_simp
      go_at_call 63
      refine (HT1.out _ ((Below.drew (Below.refl _ _)).trans (b9.mono (Nat.le_refl _)))).mono ?_; rintro e w10 ⟨rfl, b10⟩
      have KP0 := KP; clear KP
      have KP := Lib.hid (KP0.out.keep b10); clear KP0
      have KS := Lib.hid (And.intro (KP.out.2.1.cell 0) (KP.out.2.1.cell 1))
      clear hHeld b9 b10
      go_wp2_with fail
      first
        | refine hK.out _ _ KS.out (fun hHeld => ?_)
        | refine hK _ _ KS.out (fun hHeld => ?_)
      clear hK K
      (try simp only [List.getElem_toArray, List.getElem_cons_succ, List.getElem_cons_zero, Act.put, List.setIfInBounds_toArray, List.set_cons_zero, List.set_cons_succ])
      clear KS
      (refine wpAnyH_take (i := 7) (v := ?_) rfl (by kernel_rfl) (by kernel_rfl) (by kernel_rfl) (fun _ _ _ h => h) (Or.inl ⟨by kernel_rfl, ?_⟩) (by assumption) ?_; rotate_left; focus (intro w hSw; (try dsimp only at hSw); go_simp; try with_reducible rfl); (try simp only [List.getElem_toArray, List.getElem_cons_succ, List.getElem_cons_zero, Act.put, List.setIfInBounds_toArray, List.set_cons_zero, List.set_cons_succ])); (refine wpAnyH_take (i := 8) (v := ?_) rfl (by kernel_rfl) (by kernel_rfl) (by kernel_rfl) (fun _ _ _ h => h) (Or.inl ⟨by kernel_rfl, ?_⟩) (by assumption) ?_; rotate_left; focus (intro w hSw; (try dsimp only at hSw); go_simp; try with_reducible rfl); (try simp only [List.getElem_toArray, List.getElem_cons_succ, List.getElem_cons_zero, Act.put, List.setIfInBounds_toArray, List.set_cons_zero, List.set_cons_succ]))
      have HRS := Lib.hid (KP.out.res (.int .i64 t) (.slice none 0 0))
      obtain ⟨z0, z1, f0, f1⟩ := KP.out.1.two
      have hgw : g ≠ w.heap.size := HNE.out
      obtain ⟨e0, e1⟩ := pq_cells (u0 := .int .i64 t) (u1 := .slice none 0 0) KP.out.2.1 hgw
      have HE := Lib.hid (And.intro e0 e1); clear e0 e1 hgw
      refine wpAnyH_ready (rs := [9]) (by kernel_rfl) (by simp) ?_; refine AllReadyH.cons rfl (fun K hK => ?_) AllReadyH.nil
      go_simp
      clear z0 z1 f0 f1
      first
        | refine hK.out _ _ HE.out (fun hHeld => ?_)
        | refine hK _ _ HE.out (fun hHeld => ?_)
      clear hK K
      (try simp only [List.getElem_toArray, List.getElem_cons_succ, List.getElem_cons_zero, Act.put, List.setIfInBounds_toArray, List.set_cons_zero, List.set_cons_succ])
      (refine wpAnyH_take (i := 10) (v := ?_) rfl (by kernel_rfl) (by kernel_rfl) (by kernel_rfl) (fun _ _ _ h => h) (Or.inl ⟨by kernel_rfl, ?_⟩) (by assumption) ?_; rotate_left; focus (intro w hSw; (try dsimp only at hSw); go_simp; try with_reducible rfl); (try simp only [List.getElem_toArray, List.getElem_cons_succ, List.getElem_cons_zero, Act.put, List.setIfInBounds_toArray, List.set_cons_zero, List.set_cons_succ]))
      refine wpAnyH_done (by kernel_rfl) ?_ _
      (try simp only [List.getElem_toArray, List.getElem_cons_succ, List.getElem_cons_zero, Act.put, List.setIfInBounds_toArray, List.set_cons_zero, List.set_cons_succ])
      obtain ⟨r0, r1, -, -⟩ := HRS.out.2.2.two
      go_wp2_with fail
      rw [HF.out.1, HF.out.2]
      refine bodyPost_ret (v := .tuple #[.agg #[.int .i64 t, .slice none 0 0], .bool true]) ?_ rfl ⟨none, 0, rfl, HRS.out.1, HRS.out.2.1⟩
      simp [results, Tryd.results69, go_sem, *]
    · rw [decide_eq_false ht] at hq
      have HF := Lib.hid (hv.2 ht)
      generalize (⟨(pzTL t []).toArray⟩ : ByteArray) = T at *
      clear ht hv
      refine wp_region_held_drew (S := fun wi => wi.cell? ⟨g, 0, none⟩ = some (.int .i64 t) ∧ wi.cell? ⟨g, 1, none⟩ = some (.slice none 0 0)) (by kernel_rfl) ⟨HPQ.out.2.1.cell 0, HPQ.out.2.1.cell 1⟩ (fun hHeld => ?_)
      (refine wpAnyH_take (i := 0) (v := ?_) rfl (by kernel_rfl) (by kernel_rfl) (by kernel_rfl) (fun _ _ _ h => h) (Or.inl ⟨by kernel_rfl, ?_⟩) (by assumption) ?_; rotate_left; focus (intro w hSw; (try dsimp only at hSw); go_simp; try with_reducible rfl); (try simp only [List.getElem_toArray, List.getElem_cons_succ, List.getElem_cons_zero, Act.put, List.setIfInBounds_toArray, List.set_cons_zero, List.set_cons_succ])); (refine wpAnyH_take (i := 1) (v := ?_) rfl (by kernel_rfl) (by kernel_rfl) (by kernel_rfl) (fun _ _ _ h => h) (Or.inl ⟨by kernel_rfl, ?_⟩) (by assumption) ?_; rotate_left; focus (intro w hSw; (try dsimp only at hSw); go_simp; try with_reducible rfl); (try simp only [List.getElem_toArray, List.getElem_cons_succ, List.getElem_cons_zero, Act.put, List.setIfInBounds_toArray, List.set_cons_zero, List.set_cons_succ]))
      refine wpAnyH_ready (rs := [2]) (by kernel_rfl) (by simp) ?_; refine AllReadyH.cons rfl (fun K hK => ?_) AllReadyH.nil
      go_simp
      go_at_call 62
      refine (HLT.out _ (Below.drew (Below.refl _ _))).mono ?_; rintro e w9 ⟨rfl, b9⟩
      have KP := Lib.hid ((HPQ.out.keep (Below.drew (Below.refl _ _))).keep b9)
      have KS := Lib.hid (And.intro (KP.out.2.1.cell 0) (KP.out.2.1.cell 1))
      clear hHeld
      go_wp2_with fail
      first
        | refine hK.out _ _ KS.out (fun hHeld => ?_)
        | refine hK _ _ KS.out (fun hHeld => ?_)
      clear hK K
      (try simp only [List.getElem_toArray, List.getElem_cons_succ, List.getElem_cons_zero, Act.put, List.setIfInBounds_toArray, List.set_cons_zero, List.set_cons_succ])
      clear KS
      (refine wpAnyH_take (i := 3) (v := ?_) rfl (by kernel_rfl) (by kernel_rfl) (by kernel_rfl) (fun _ _ _ h => h) (Or.inl ⟨by kernel_rfl, ?_⟩) (by assumption) ?_; rotate_left; focus (intro w hSw; (try dsimp only at hSw); go_simp; try with_reducible rfl); (try simp only [List.getElem_toArray, List.getElem_cons_succ, List.getElem_cons_zero, Act.put, List.setIfInBounds_toArray, List.set_cons_zero, List.set_cons_succ]))
      (refine wpAnyH_take (i := 4) (v := ?_) rfl (by kernel_rfl) (by kernel_rfl) (by kernel_rfl) (fun _ _ _ h => h) (Or.inl ⟨by kernel_rfl, ?_⟩) (by assumption) ?_; rotate_left; focus (intro w hSw; (try dsimp only at hSw); go_simp; try with_reducible rfl); (try simp only [List.getElem_toArray, List.getElem_cons_succ, List.getElem_cons_zero, Act.put, List.setIfInBounds_toArray, List.set_cons_zero, List.set_cons_succ])); (refine wpAnyH_take (i := 6) (v := ?_) rfl (by kernel_rfl) (by kernel_rfl) (by kernel_rfl) (fun _ _ _ h => h) (Or.inl ⟨by kernel_rfl, ?_⟩) (by assumption) ?_; rotate_left; focus (intro w hSw; (try dsimp only at hSw); go_simp; try with_reducible rfl); (try simp only [List.getElem_toArray, List.getElem_cons_succ, List.getElem_cons_zero, Act.put, List.setIfInBounds_toArray, List.set_cons_zero, List.set_cons_succ]))
      refine wpAnyH_ready (rs := [5]) (by kernel_rfl) (by simp) ?_; refine AllReadyH.cons rfl (fun K hK => ?_) AllReadyH.nil
      go_simp
      go_at_call 63
      refine (HT1.out _ ((Below.drew (Below.refl _ _)).trans (b9.mono (Nat.le_refl _)))).mono ?_; rintro e w10 ⟨rfl, b10⟩
      have KP0 := KP; clear KP
      have KP := Lib.hid (KP0.out.keep b10); clear KP0
      have KS := Lib.hid (And.intro (KP.out.2.1.cell 0) (KP.out.2.1.cell 1))
      clear hHeld b9 b10
      go_wp2_with fail
      first
        | refine hK.out _ _ KS.out (fun hHeld => ?_)
        | refine hK _ _ KS.out (fun hHeld => ?_)
      clear hK K
      (try simp only [List.getElem_toArray, List.getElem_cons_succ, List.getElem_cons_zero, Act.put, List.setIfInBounds_toArray, List.set_cons_zero, List.set_cons_succ])
      clear KS
      (refine wpAnyH_take (i := 7) (v := ?_) rfl (by kernel_rfl) (by kernel_rfl) (by kernel_rfl) (fun _ _ _ h => h) (Or.inl ⟨by kernel_rfl, ?_⟩) (by assumption) ?_; rotate_left; focus (intro w hSw; (try dsimp only at hSw); go_simp; try with_reducible rfl); (try simp only [List.getElem_toArray, List.getElem_cons_succ, List.getElem_cons_zero, Act.put, List.setIfInBounds_toArray, List.set_cons_zero, List.set_cons_succ])); (refine wpAnyH_take (i := 8) (v := ?_) rfl (by kernel_rfl) (by kernel_rfl) (by kernel_rfl) (fun _ _ _ h => h) (Or.inl ⟨by kernel_rfl, ?_⟩) (by assumption) ?_; rotate_left; focus (intro w hSw; (try dsimp only at hSw); go_simp; try with_reducible rfl); (try simp only [List.getElem_toArray, List.getElem_cons_succ, List.getElem_cons_zero, Act.put, List.setIfInBounds_toArray, List.set_cons_zero, List.set_cons_succ]))
      have HRS := Lib.hid (KP.out.res (.int .i64 t) (.slice none 0 0))
      obtain ⟨z0, z1, f0, f1⟩ := KP.out.1.two
      have hgw : g ≠ w.heap.size := HNE.out
      obtain ⟨e0, e1⟩ := pq_cells (u0 := .int .i64 t) (u1 := .slice none 0 0) KP.out.2.1 hgw
      have HE := Lib.hid (And.intro e0 e1); clear e0 e1 hgw
      refine wpAnyH_ready (rs := [9]) (by kernel_rfl) (by simp) ?_; refine AllReadyH.cons rfl (fun K hK => ?_) AllReadyH.nil
      go_simp
      clear z0 z1 f0 f1
      first
        | refine hK.out _ _ HE.out (fun hHeld => ?_)
        | refine hK _ _ HE.out (fun hHeld => ?_)
      clear hK K
      (try simp only [List.getElem_toArray, List.getElem_cons_succ, List.getElem_cons_zero, Act.put, List.setIfInBounds_toArray, List.set_cons_zero, List.set_cons_succ])
      (refine wpAnyH_take (i := 10) (v := ?_) rfl (by kernel_rfl) (by kernel_rfl) (by kernel_rfl) (fun _ _ _ h => h) (Or.inl ⟨by kernel_rfl, ?_⟩) (by assumption) ?_; rotate_left; focus (intro w hSw; (try dsimp only at hSw); go_simp; try with_reducible rfl); (try simp only [List.getElem_toArray, List.getElem_cons_succ, List.getElem_cons_zero, Act.put, List.setIfInBounds_toArray, List.set_cons_zero, List.set_cons_succ]))
      refine wpAnyH_done (by kernel_rfl) ?_ _
      (try simp only [List.getElem_toArray, List.getElem_cons_succ, List.getElem_cons_zero, Act.put, List.setIfInBounds_toArray, List.set_cons_zero, List.set_cons_succ])
      obtain ⟨r0, r1, -, -⟩ := HRS.out.2.2.two
      go_wp2_with fail
      rw [HF.out.1, HF.out.2]
      refine bodyPost_ret (v := .tuple #[.agg #[.int .i64 t, .slice none 0 0], .bool false]) ?_ rfl ⟨none, 0, rfl, HRS.out.1, HRS.out.2.1⟩
      simp [results, Tryd.results69, go_sem, *]
end Go.Proofs.YtbgdngfjeikheaaDoor
