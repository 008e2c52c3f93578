/-
  Puzzles: PzNeed, PzNeedS.
-/
import Derived.Test.YtcigighklghjkaaDoorPzSolA
import Derived.Deep.RegionHeld3
namespace Go.Proofs.YtcigighklghjkaaDoor
open Go.RowKit
set_option linter.unusedVariables false
set_option linter.unusedSimpArgs false

theorem infoI : (Tryd.prog.info? 3).map (fun i => (i.zero, i.size, i.bytes)) = some (some (.int .i64 0), 1, 8) := by kernel_rfl
/-- A row of numbers that is the call's own, and what lay below. -/
def RoI (B : Nat) (w : World) (L : List Int) (v : Value) (wr : World) : Prop := wr.ownsRow B 3 1 v L.length (ints L) ∧ Below B w wr
theorem RoI.nil (w wr : World) (h : Below w.heap.size w wr) : RoI w.heap.size w [] (.slice none 0 0) wr := ⟨⟨rfl, .inl ⟨rfl, rfl⟩⟩, h⟩
theorem RoI.keep {B : Nat} {w wr W5 : World} {L : List Int} {v : Value} (h : RoI B w L v wr) (hb : Below wr.heap.size wr W5) (hB : B ≤ wr.heap.size) : RoI B w L v W5 := ⟨owns_below h.1 hb, h.2.trans (hb.mono hB)⟩
theorem RoI.grown {B : Nat} {w wr W5 : World} {L : List Int} {v : Value} (h : RoI B w L v wr) (hg : wr.grownBy W5 v.ownBlock) (hB : B ≤ wr.heap.size) : Below B w W5 := h.2.grown hg hB (fun g e => (owns_ge h.1 e).1)
theorem ints_append (L M : List Int) : ints (L ++ M) = ints L ++ ints M := by simp [ints]
/-- One number more behind a row (in a region that draws its order). -/
theorem wp_append_num {w : World} {o : Oper} {a : Act} {K : Act → World → Prop} {Q : Exit → Act → World → Prop} (s x : Operand)
    (ho : o.op = .call { callee := .builtin .append, args := #[s, x], argTypes := #[50, 50] })
    (w0 : World) (v : Value) (L : List Int) (y : Int) (ad : Addr) (c : Nat) (hs : a.eval s = v) (hx : a.eval x = .slice (some ad) 1 c)
    (B : Nat) (hown : RoI B w0 L v w) (hy : ∀ j u, ([.int .i64 y] : List Value)[j]? = some u → w.cell? (ad.add j) = some u) (hB : B ≤ w.heap.size) (hsz : L.length ≤ 4000000)
    (h : ∀ v' w', RoI B w0 (L ++ [y]) v' w' → K (a.put o.dst v') w') :
    o.wp Tryd.prog a w K Q := by
  obtain ⟨i0, hi, hz0, hz1, hz2⟩ := info_parts infoI
  obtain ⟨v', w', hrun, h2, h3, h4, h5⟩ := run_append_own_at (P := Tryd.prog) w B 50 o.type 3 i0 (.int .i64 0) 1 8 Tryd.underlying50 hi hz0 hz1 hz2 rfl (by decide) v L.length (ints L) hown.1 ad 1 c [.int .i64 y] rfl hy (by intro u hu; simp at hu; subst hu; rfl) (by unfold maxLen; omega) (by omega) hB
  refine Lib.wp_append_run w s x _ _ ho v _ hs hx v' w' hrun (h v' w' ⟨?_, hown.grown h3 hB⟩)
  rw [List.length_append, ints_append]; exact h2

def cntC (pn : Nat) (l : List Cl) : Nat := (solsL pn l).length
theorem cntC_bd {pn : Nat} (h : pn ≤ 8) (l : List Cl) : cntC pn l ≤ 256 := by
  have := solsL_len pn l
  have := pow_bd h
  unfold cntC; omega
theorem count_is {pn : Nat} {l : List Cl} (h : goodP pn l = true) : (solsO pn l).length = cntC pn l := by rw [solsO_is h]; rfl
def needT (pn : Nat) (l : List Cl) (k : Nat) : List Int := ((List.range k).filter fun i => decide (cntC pn (dropC l i) = cntC pn l)).map fun (i : Nat) => (i : Int)
theorem needT_succ (pn : Nat) (l : List Cl) (k : Nat) : needT pn l (k + 1) = needT pn l k ++ (if cntC pn (dropC l k) = cntC pn l then [(k : Int)] else []) := by
  unfold needT
  rw [List.range_succ, List.filter_append, List.map_append]
  congr 1
  by_cases h : cntC pn (dropC l k) = cntC pn l <;> simp [h]
theorem needT_len (pn : Nat) (l : List Cl) (k : Nat) : (needT pn l k).length ≤ k := by
  have := List.length_filter_le (fun i => decide (cntC pn (dropC l i) = cntC pn l)) (List.range k)
  simp [needT] at this ⊢; omega
def needO (p : Int) (l : List Cl) : List Int := if goodP p l then needT p.toNat l l.length else []
theorem needO_len (p : Int) (l : List Cl) : ((needO p l).length : Int) ≤ 1000 := by
  unfold needO
  split
  · rename_i h
    have := needT_len p.toNat l l.length
    have := (goodP_bd h).2.1
    omega
  · simp
theorem goodP_drop {p : Int} {l : List Cl} (h : goodP p l = true) {k : Nat} (hk : k < l.length) : goodP p (dropC l k) = true := by
  obtain ⟨h1, h2, h3⟩ := goodP_bd h
  exact goodP_of h1 (by rw [dropC_len l hk]; omega) (goodCs_sub h3 dropC_sub)

set_option maxHeartbeats 3200000 in
set_option maxRecDepth 100000 in
theorem implNeedless_any (p : Int) (l : List Cl) (ad : Option Addr) (c : Nat) (pe0 pe1 : Addr) (w : World) (hl : (l.length : Int) ≤ 1000000000000) (hlc : l.length ≤ c) (hr : Reads w ad (clus l)) (hd : PzDoor w pe0 pe1) :
    Calls Tryd.prog 35 #[.agg #[.int .i64 p, .slice ad l.length c]] w fun e w' => RowR (needO p l) (goodP p l) w e w' := by
  have T0 := Lib.hid (PzB.new w p (.slice ad l.length c))
  obtain ⟨p0, p1, -⟩ := T0.out.full
  have HS := Lib.hid (implCount_any p l ad c pe0 pe1 _ hl (hr.old T0.out.2) (hd.keep T0.out.2))
  cases hg : goodP p l
  · rw [solsO_not hg, hg] at HS
    have hs : needO p l = [] := by unfold needO; rw [hg]; rfl
    rw [hs]; clear hs hg hr hd
    go_enter Tryd.func35, Tryd.ntmps35
    go_wp2_with fail
    refine HS.out.mono ?_; rintro e w1 ⟨rfl, b1⟩
    have T1 := Lib.hid (T0.out.keep b1); clear b1 p0 p1
    go_wp2_with fail
    refine bodyPost_ret (v := .tuple #[.slice none 0 0, .bool false]) ?_ rfl ⟨_, rfl, owns_nil _ _ _, T1.out.2⟩
    simp [results, Tryd.results35, go_sem, *]
  · obtain ⟨hp, h6, hgc⟩ := goodP_bd hg
    obtain ⟨pn, rfl⟩ : ∃ pn : Nat, p = pn := ⟨p.toNat, by omega⟩
    have hs : needO pn l = needT pn l l.length := by unfold needO; rw [hg]; rfl
    rw [count_is hg, hg] at HS
    have HWO := Lib.hid (fun (k : Nat) (hk : k < l.length) W (hb : Below w.heap.size w W) => without_any pn l ad c k W (by omega) hlc hk (hr.old hb))
    have HCN : Hid (∀ (k : Nat) (hk : k < l.length) (a : Option Addr) (c' : Nat) W (hb : Below w.heap.size w W) (hra : Reads W a (clus (dropC l k))), Calls Tryd.prog 27 #[.agg #[.int .i64 pn, .slice a (dropC l k).length c']] W fun e w' => e = .returned (.tuple #[.int .i64 (cntC pn (dropC l k)), .bool true]) ∧ Below W.heap.size W w') := fun k hk a c' W hb hra => by
      have hgd := goodP_drop hg hk
      have := implCount_any pn (dropC l k) a c' pe0 pe1 W (by rw [dropC_len l hk]; omega) hra (hd.keep hb)
      rw [count_is hgd, hgd] at this
      exact this
    have HTN := Lib.hid (fun k => And.intro (needT_succ pn l k) (needT_len pn l k))
    obtain ⟨i0, hi, hz0, hz1, hz2⟩ := info_parts infoI
    have HIN := Lib.hid (And.intro hi (And.intro hz0 (And.intro hz1 hz2))); clear hi hz0 hz1 hz2
    rw [hs]; clear hs hg hr hd hgc
    have h6' : (l.length : Int) ≤ 6 := by omega
    go_enter Tryd.func35, Tryd.ntmps35
    go_wp2_with fail
    refine HS.out.mono ?_; rintro e w1 ⟨rfl, b1⟩
    have T1 := Lib.hid (T0.out.keep b1); clear b1 p0 p1
    obtain ⟨p0, p1, -⟩ := T1.out.full
    go_wp2_with fail
    go_loopw [6, 20] (fun v i wq => ∃ k : Nat, i = .int .i64 k ∧ k ≤ l.length ∧ Hid (RoI w.heap.size w (needT pn l k) v wq ∧ PzB w pn (.slice ad l.length c) wq)) (fun _ i _ => l.length - (intOf i).toNat)
    case atStart => exact ⟨0, rfl, Nat.zero_le _, RoI.nil _ _ T1.out.2, T1.out⟩
    case round =>
      obtain ⟨k, rfl, hk, hK⟩ := hrel
      by_cases hlt : k < l.length
      · have b2 : (k : Int) < (l.length : Int) := by omega
        clear p0 p1
        obtain ⟨p0, p1, -⟩ := hK.out.2.full
        have HC := Lib.hid (fun a c' => HCN.out k hlt a c')
        have HW := Lib.hid (HWO.out k hlt wr hK.out.2.2)
        have hst := (HTN.out k).1
        have HFL := Lib.hid (HTN.out k).2
        generalize dropC l k = m at *
        generalize cntC pn m = n1 at *
        generalize cntC pn l = n2 at *
        by_cases hq : n1 = n2
        · rw [if_pos hq] at hst
          have HST := Lib.hid hst; clear hst
          have hqi : (n1 : Int) = (n2 : Int) := by omega
          go_wp2_with fail
          refine HW.out.mono ?_; rintro e w2 ⟨a, c', rfl, o2, b2'⟩
          obtain ⟨a2, c2, he, hrd, -⟩ := Reads.own o2
          injection he with e1 e2 e3
          subst e1
          have K2 := Lib.hid (And.intro (hK.out.1.keep b2' hK.out.2.2.size) (hK.out.2.keep b2'))
          have HRD := Lib.hid hrd; clear hrd o2 b2' e2 e3
          go_wp2_with fail
          refine (HC.out a c' w2 K2.out.2.2 HRD.out).mono ?_; rintro e w3 ⟨rfl, b3⟩
          have K3 := Lib.hid (And.intro (K2.out.1.keep b3 K2.out.2.2.size) (K2.out.2.keep b3)); clear b3 HRD p0 p1
          have hbs3 := K3.out.2.2.size
          have HN := Lib.hid (cell_one_new w3 (.int .i64 k) 3)
          go_wp2_with (at_builtin; refine wpList_append_own_at _ rfl _ _ 50 rfl w.heap.size 3 i0 (.int .i64 0) 1 8 Tryd.underlying50 HIN.out.1 HIN.out.2.1 HIN.out.2.2.1 HIN.out.2.2.2 rfl (by decide) _ _ _ rfl (K3.out.1.1.alloc _) ⟨w3.heap.size, 0, none⟩ 1 1 [.int .i64 k] rfl rfl HN.out ?_ ?_ ?_ ?_ ?_)
          · intro u hu
            simp at hu
            rcases hu with rfl <;> rfl
          · have := HFL.out; unfold maxLen; omega
          · have := HFL.out; omega
          · simp; omega
          intro v' w5 hown5 hgrow _ hob
          have hal := And.intro (K3.out.1.keep (Below.ofNew (w := w3) (.cells #[.int .i64 k] 3)) hbs3) (K3.out.2.keep (Below.ofNew (w := w3) (.cells #[.int .i64 k] 3)))
          have hbel5 : Below w.heap.size w w5 := hal.1.grown hgrow (by simp; omega)
          have hpz : PzB w pn (.slice ad l.length c) w5 := ⟨hal.2.1.grow (by decide) hal.1.1 hgrow, hbel5⟩
          have H5 : Hid (RoI w.heap.size w (needT pn l (k + 1)) v' w5 ∧ PzB w pn (.slice ad l.length c) w5) := by
            refine ⟨⟨?_, hbel5⟩, hpz⟩
            rw [HST.out, List.length_append, ints_append]
            exact hown5
          clear hown5 hgrow hbel5 HN hbs3 hal hpz hob
          go_wp2_with fail
          go_roundw
          case rel => exact ⟨k + 1, by go_num, by omega, H5⟩
          case measure => simp [intOf]; omega
        · rw [if_neg hq, List.append_nil] at hst
          have HST := Lib.hid hst; clear hst
          have hqi : ¬ (n1 : Int) = (n2 : Int) := by omega
          go_wp2_with fail
          refine HW.out.mono ?_; rintro e w2 ⟨a, c', rfl, o2, b2'⟩
          obtain ⟨a2, c2, he, hrd, -⟩ := Reads.own o2
          injection he with e1 e2 e3
          subst e1
          have K2 := Lib.hid (And.intro (hK.out.1.keep b2' hK.out.2.2.size) (hK.out.2.keep b2'))
          have HRD := Lib.hid hrd; clear hrd o2 b2' e2 e3
          go_wp2_with fail
          refine (HC.out a c' w2 K2.out.2.2 HRD.out).mono ?_; rintro e w3 ⟨rfl, b3⟩
          have K3 : Hid (RoI w.heap.size w (needT pn l (k + 1)) u6 w3 ∧ PzB w pn (.slice ad l.length c) w3) := by
            show _ ∧ _
            rw [HST.out]; exact And.intro (K2.out.1.keep b3 K2.out.2.2.size) (K2.out.2.keep b3)
          clear b3 HRD p0 p1
          go_wp2_with fail
          go_roundw
          case rel => exact ⟨k + 1, by go_num, by omega, K3⟩
          case measure => simp [intOf]; omega
      · obtain rfl : k = l.length := by omega
        go_wp2_with fail
        refine bodyPost_ret (v := .tuple #[u6, .bool true]) ?_ rfl ⟨_, rfl, hK.out.1.1, hK.out.1.2⟩
        simp [results, Tryd.results35, go_sem, *]


set_option maxHeartbeats 6400000 in
set_option maxRecDepth 100000 in
theorem specNeedless_any (p : Int) (l : List Cl) (ad : Option Addr) (c : Nat) (w : World) (hl : (l.length : Int) ≤ 1000000000000) (hlc : l.length ≤ c) (hr : Reads w ad (clus l)) :
    Calls Tryd.prog 34 #[.agg #[.int .i64 p, .slice ad l.length c]] w fun e w' => RowR (needO p l) (goodP p l) w e w' := by
  have T0 := Lib.hid (PzB.new w p (.slice ad l.length c))
  obtain ⟨p0, p1, -⟩ := T0.out.full
  have HG := Lib.hid (fun W (hb : Below w.heap.size w W) => pzGood_any p l ad c W hl (hr.old hb))
  cases hg : goodP p l
  · rw [hg] at HG
    have hs : needO p l = [] := by unfold needO; rw [hg]; rfl
    rw [hs]; clear hs hg hr
    go_enter Tryd.func34, Tryd.ntmps34
    go_wp2_with fail
    refine (HG.out _ T0.out.2).mono ?_; rintro e w1 ⟨rfl, b1⟩
    have T1 := Lib.hid (T0.out.keep b1); clear b1 p0 p1
    go_wp2_with fail
    refine bodyPost_ret (v := .tuple #[.slice none 0 0, .bool false]) ?_ rfl ⟨_, rfl, owns_nil _ _ _, T1.out.2⟩
    simp [results, Tryd.results34, go_sem, *]
  · obtain ⟨hp, h6, hgc⟩ := goodP_bd hg
    obtain ⟨pn, rfl⟩ : ∃ pn : Nat, p = pn := ⟨p.toNat, by omega⟩
    have hs : needO pn l = needT pn l l.length := by unfold needO; rw [hg]; rfl
    rw [hg] at HG
    have hA : ∀ W (hb : Below w.heap.size w W), Calls Tryd.prog 56 #[.int .i64 pn, .slice ad l.length c] W fun e w' => ∃ a c', e = .returned (.slice a (cntC pn l) c') ∧ Below W.heap.size W w' := fun W hb =>
      (pzAll_any pn l ad c W (by omega) h6 hgc (hr.old hb)).mono (by
        rintro e w' ⟨v, rfl, h⟩
        obtain ⟨a, c', rfl, -, -, -⟩ := own_cap h.1
        exact ⟨a, c', rfl, h.2⟩)
    have HA := Lib.hid hA; clear hA
    have HWO := Lib.hid (fun (k : Nat) (hk : k < l.length) W (hb : Below w.heap.size w W) => pzWithout_any l ad c k W (by omega) hlc hk (hr.old hb))
    have HCN : Hid (∀ (k : Nat) (hk : k < l.length) (a : Option Addr) (c' : Nat) W (hra : Reads W a (clus (dropC l k))), Calls Tryd.prog 56 #[.int .i64 pn, .slice a (dropC l k).length c'] W fun e w' => ∃ a c', e = .returned (.slice a (cntC pn (dropC l k)) c') ∧ Below W.heap.size W w') := fun k hk a c' W hra => by
      obtain ⟨h1, h2, h3⟩ := goodP_bd (goodP_drop hg hk)
      exact (pzAll_any pn (dropC l k) a c' W (by omega) h2 h3 hra).mono (by
        rintro e w' ⟨v, rfl, h⟩
        obtain ⟨a, c', rfl, -, -, -⟩ := own_cap h.1
        exact ⟨a, c', rfl, h.2⟩)
    have HTN := Lib.hid (fun k => And.intro (needT_succ pn l k) (needT_len pn l k))
    obtain ⟨i0, hi, hz0, hz1, hz2⟩ := info_parts infoI
    have HIN := Lib.hid (And.intro hi (And.intro hz0 (And.intro hz1 hz2))); clear hi hz0 hz1 hz2
    rw [hs]; clear hs hg hr hgc
    have h6' : (l.length : Int) ≤ 6 := by omega
    go_enter Tryd.func34, Tryd.ntmps34
    go_wp2_with fail
    refine (HG.out _ T0.out.2).mono ?_; rintro e w1 ⟨rfl, b1⟩
    have T1 := Lib.hid (T0.out.keep b1); clear b1 p0 p1
    obtain ⟨p0, p1, -⟩ := T1.out.full
    go_wp2_with fail
    refine (HA.out _ T1.out.2).mono ?_; rintro e w2 ⟨ra, rc, rfl, b2⟩
    have T2 := Lib.hid (T1.out.keep b2); clear b2 p0 p1
    obtain ⟨p0, p1, -⟩ := T2.out.full
    go_wp2_with fail
    go_loopw [4, 19] (fun v i wq => ∃ k : Nat, i = .int .i64 k ∧ k ≤ l.length ∧ Hid (RoI w.heap.size w (needT pn l k) v wq ∧ PzB w pn (.slice ad l.length c) wq)) (fun _ i _ => l.length - (intOf i).toNat)
    case atStart => exact ⟨0, rfl, Nat.zero_le _, RoI.nil _ _ T2.out.2, T2.out⟩
    case round =>
      obtain ⟨k, rfl, hk, HJ⟩ := hrel
      by_cases hlt : k < l.length
      · have b2 : (k : Int) < (l.length : Int) := by omega
        clear p0 p1
        have HC := Lib.hid (fun a c' => HCN.out k hlt a c')
        have hbd := Below.drew (Below.refl wr.heap.size wr)
        have KD := Lib.hid (And.intro (HJ.out.1.keep hbd HJ.out.2.2.size) (HJ.out.2.keep hbd))
        have HW := Lib.hid (HWO.out k hlt wr.drew KD.out.2.2)
        have hst := (HTN.out k).1
        have HFL := Lib.hid (HTN.out k).2
        clear hbd
        generalize dropC l k = m at *
        generalize cntC pn m = n1 at *
        generalize cntC pn l = n2 at *
        go_wp2_with fail
        refine wp_region_held_drew (S := fun wi => wi.cell? ⟨w.heap.size, 0, none⟩ = some (.int .i64 pn) ∧ wi.cell? ⟨w.heap.size, 1, none⟩ = some (.slice ad l.length c)) (by kernel_rfl) ⟨KD.out.2.full.1, KD.out.2.full.2.1⟩ (fun hHeld => ?_)
        (refine wpAnyH_take (i := 0) (v := ?_) rfl (by kernel_rfl) (by kernel_rfl) (by kernel_rfl) (fun _ _ _ h => h) (Or.inl ⟨by kernel_rfl, ?_⟩) (by assumption) ?_; rotate_left; focus (intro w hSw; (try dsimp only at hSw); go_simp; try with_reducible rfl); (try simp only [List.getElem_toArray, List.getElem_cons_succ, List.getElem_cons_zero, Act.put, List.setIfInBounds_toArray, List.set_cons_zero, List.set_cons_succ])); (refine wpAnyH_take (i := 1) (v := ?_) rfl (by kernel_rfl) (by kernel_rfl) (by kernel_rfl) (fun _ _ _ h => h) (Or.inl ⟨by kernel_rfl, ?_⟩) (by assumption) ?_; rotate_left; focus (intro w hSw; (try dsimp only at hSw); go_simp; try with_reducible rfl); (try simp only [List.getElem_toArray, List.getElem_cons_succ, List.getElem_cons_zero, Act.put, List.setIfInBounds_toArray, List.set_cons_zero, List.set_cons_succ])); (refine wpAnyH_take (i := 2) (v := ?_) rfl (by kernel_rfl) (by kernel_rfl) (by kernel_rfl) (fun _ _ _ h => h) (Or.inl ⟨by kernel_rfl, ?_⟩) (by assumption) ?_; rotate_left; focus (intro w hSw; (try dsimp only at hSw); go_simp; try with_reducible rfl); (try simp only [List.getElem_toArray, List.getElem_cons_succ, List.getElem_cons_zero, Act.put, List.setIfInBounds_toArray, List.set_cons_zero, List.set_cons_succ])); (refine wpAnyH_take (i := 3) (v := ?_) rfl (by kernel_rfl) (by kernel_rfl) (by kernel_rfl) (fun _ _ _ h => h) (Or.inl ⟨by kernel_rfl, ?_⟩) (by assumption) ?_; rotate_left; focus (intro w hSw; (try dsimp only at hSw); go_simp; try with_reducible rfl); (try simp only [List.getElem_toArray, List.getElem_cons_succ, List.getElem_cons_zero, Act.put, List.setIfInBounds_toArray, List.set_cons_zero, List.set_cons_succ])); (refine wpAnyH_take (i := 4) (v := ?_) rfl (by kernel_rfl) (by kernel_rfl) (by kernel_rfl) (fun _ _ _ h => h) (Or.inl ⟨by kernel_rfl, ?_⟩) (by assumption) ?_; rotate_left; focus (intro w hSw; (try dsimp only at hSw); go_simp; try with_reducible rfl); (try simp only [List.getElem_toArray, List.getElem_cons_succ, List.getElem_cons_zero, Act.put, List.setIfInBounds_toArray, List.set_cons_zero, List.set_cons_succ])); (refine wpAnyH_take (i := 8) (v := ?_) rfl (by kernel_rfl) (by kernel_rfl) (by kernel_rfl) (fun _ _ _ h => h) (Or.inl ⟨by kernel_rfl, ?_⟩) (by assumption) ?_; rotate_left; focus (intro w hSw; (try dsimp only at hSw); go_simp; try with_reducible rfl); (try simp only [List.getElem_toArray, List.getElem_cons_succ, List.getElem_cons_zero, Act.put, List.setIfInBounds_toArray, List.set_cons_zero, List.set_cons_succ]))
        refine wpAnyH_ready (rs := [5]) (by kernel_rfl) (by simp) ?_; refine AllReadyH.cons rfl (fun K hK => ?_) AllReadyH.nil
        go_simp
        go_at_call 65
        refine HW.out.mono ?_; rintro e w2 ⟨a, c', rfl, o2, b2'⟩
        obtain ⟨a2, c2, he, hrd, -⟩ := Reads.own o2
        injection he with e1 e2 e3
        subst e1
        have K2 := Lib.hid (And.intro (KD.out.1.keep b2' KD.out.2.2.size) (KD.out.2.keep b2'))
        have HRD := Lib.hid hrd; clear hrd o2 b2' e2 e3 hHeld
        go_wp2_with fail
        first
          | refine hK.out _ _ ⟨K2.out.2.full.1, K2.out.2.full.2.1⟩ (fun hHeld => ?_)
          | refine hK _ _ ⟨K2.out.2.full.1, K2.out.2.full.2.1⟩ (fun hHeld => ?_)
        clear hK K
        (try simp only [List.getElem_toArray, List.getElem_cons_succ, List.getElem_cons_zero, Act.put, List.setIfInBounds_toArray, List.set_cons_zero, List.set_cons_succ])
        refine wpAnyH_ready (rs := [6]) (by kernel_rfl) (by simp) ?_; refine AllReadyH.cons rfl (fun K hK => ?_) AllReadyH.nil
        go_simp
        go_at_call 56
        refine (HC.out a c' _ HRD.out).mono ?_; rintro e w3 ⟨ra3, rc3, rfl, b3⟩
        have K3 := Lib.hid (And.intro (K2.out.1.keep b3 K2.out.2.2.size) (K2.out.2.keep b3)); clear b3 HRD hHeld
        go_wp2_with fail
        first
          | refine hK.out _ _ ⟨K3.out.2.full.1, K3.out.2.full.2.1⟩ (fun hHeld => ?_)
          | refine hK _ _ ⟨K3.out.2.full.1, K3.out.2.full.2.1⟩ (fun hHeld => ?_)
        clear hK K
        (try simp only [List.getElem_toArray, List.getElem_cons_succ, List.getElem_cons_zero, Act.put, List.setIfInBounds_toArray, List.set_cons_zero, List.set_cons_succ])
        (refine wpAnyH_take (i := 7) (v := ?_) rfl (by kernel_rfl) (by kernel_rfl) (by kernel_rfl) (fun _ _ _ h => h) (Or.inl ⟨by kernel_rfl, ?_⟩) (by assumption) ?_; rotate_left; focus (intro w hSw; (try dsimp only at hSw); go_simp; try with_reducible rfl); (try simp only [List.getElem_toArray, List.getElem_cons_succ, List.getElem_cons_zero, Act.put, List.setIfInBounds_toArray, List.set_cons_zero, List.set_cons_succ])); (refine wpAnyH_take (i := 9) (v := ?_) rfl (by kernel_rfl) (by kernel_rfl) (by kernel_rfl) (fun _ _ _ h => h) (Or.inl ⟨by kernel_rfl, ?_⟩) (by assumption) ?_; rotate_left; focus (intro w hSw; (try dsimp only at hSw); go_simp; try with_reducible rfl); (try simp only [List.getElem_toArray, List.getElem_cons_succ, List.getElem_cons_zero, Act.put, List.setIfInBounds_toArray, List.set_cons_zero, List.set_cons_succ]))
        refine wpAnyH_done (by kernel_rfl) ?_ _
        clear hHeld
        by_cases hq : n1 = n2
        · rw [if_pos hq] at hst
          have HST := Lib.hid hst; clear hst
          have hqi : (n1 : Int) = (n2 : Int) := by omega
          have hbs3 := K3.out.2.2.size
          have HN := Lib.hid (cell_one_new w3 (.int .i64 k) 3)
          go_wp2_with (at_builtin; refine wpList_append_own_at _ rfl _ _ 50 rfl w.heap.size 3 i0 (.int .i64 0) 1 8 Tryd.underlying50 HIN.out.1 HIN.out.2.1 HIN.out.2.2.1 HIN.out.2.2.2 rfl (by decide) _ _ _ rfl (K3.out.1.1.alloc _) ⟨w3.heap.size, 0, none⟩ 1 1 [.int .i64 k] rfl rfl HN.out ?_ ?_ ?_ ?_ ?_)
          · intro u hu
            simp at hu
            rcases hu with rfl <;> rfl
          · have := HFL.out; unfold maxLen; omega
          · have := HFL.out; omega
          · simp; omega
          intro v' w5 hown5 hgrow _ hob
          have hal := And.intro (K3.out.1.keep (Below.ofNew (w := w3) (.cells #[.int .i64 k] 3)) hbs3) (K3.out.2.keep (Below.ofNew (w := w3) (.cells #[.int .i64 k] 3)))
          have hbel5 : Below w.heap.size w w5 := hal.1.grown hgrow (by simp; omega)
          have hpz : PzB w pn (.slice ad l.length c) w5 := ⟨hal.2.1.grow (by decide) hal.1.1 hgrow, hbel5⟩
          have H5 : Hid (RoI w.heap.size w (needT pn l (k + 1)) v' w5 ∧ PzB w pn (.slice ad l.length c) w5) := by
            refine ⟨⟨?_, hbel5⟩, hpz⟩
            rw [HST.out, List.length_append, ints_append]
            exact hown5
          clear hown5 hgrow hbel5 HN hbs3 hal hpz hob
          go_wp2_with fail
          go_roundw
          case rel => exact ⟨k + 1, by go_num, by omega, H5⟩
          case measure => simp [intOf]; omega
        · rw [if_neg hq, List.append_nil] at hst
          have HST := Lib.hid hst; clear hst
          have hqi : ¬ (n1 : Int) = (n2 : Int) := by omega
          have K4 : Hid (RoI w.heap.size w (needT pn l (k + 1)) u4 w3 ∧ PzB w pn (.slice ad l.length c) w3) := by
            show _ ∧ _
            rw [HST.out]; exact K3.out
          go_wp2_with fail
          go_roundw
          case rel => exact ⟨k + 1, by go_num, by omega, K4⟩
          case measure => simp [intOf]; omega
      · obtain rfl : k = l.length := by omega
        go_wp2_with fail
        refine bodyPost_ret (v := .tuple #[u4, .bool true]) ?_ rfl ⟨_, rfl, HJ.out.1.1, HJ.out.1.2⟩
        simp [results, Tryd.results34, go_sem, *]
end Go.Proofs.YtcigighklghjkaaDoor
