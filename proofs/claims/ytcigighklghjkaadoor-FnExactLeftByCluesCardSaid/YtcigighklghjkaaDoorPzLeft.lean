/-
  Puzzles: the points left by clues: both sides.
-/
import Derived.Test.YtcigighklghjkaaDoorPzBest
namespace Go.Proofs.YtcigighklghjkaaDoor
open Go.RowKit
set_option linter.unusedVariables false
set_option linter.unusedSimpArgs false

/-- One number more behind a row (in a region that draws its order). -/
theorem wp_append_numG {w : World} {o : Oper} {a : Act} {K : Act → World → Prop} {Q : Exit → Act → World → Prop} (s x : Operand)
    (ho : o.op = .call { callee := .builtin .append, args := #[s, x], argTypes := #[50, 50] })
    (w0 : World) (v : Value) (L : List Int) (y : Int) (ad : Addr) (c : Nat) (hs : a.eval s = v) (hx : a.eval x = .slice (some ad) 1 c)
    (B : Nat) (hown : RoI B w0 L v w) (hy : ∀ j u, ([.int .i64 y] : List Value)[j]? = some u → w.cell? (ad.add j) = some u) (hB : B ≤ w.heap.size) (hsz : L.length ≤ 4000000)
    (h : ∀ v' w', RoI B w0 (L ++ [y]) v' w' → w.grownBy w' v.ownBlock → K (a.put o.dst v') w') :
    o.wp Tryd.prog a w K Q := by
  obtain ⟨i0, hi, hz0, hz1, hz2⟩ := info_parts infoI
  obtain ⟨v', w', hrun, h2, h3, h4, h5⟩ := run_append_own_at (P := Tryd.prog) w B 50 o.type 3 i0 (.int .i64 0) 1 8 Tryd.underlying50 hi hz0 hz1 hz2 rfl (by decide) v L.length (ints L) hown.1 ad 1 c [.int .i64 y] rfl hy (by intro u hu; simp at hu; subst hu; rfl) (by unfold maxLen; omega) (by omega) hB
  refine Lib.wp_append_run w s x _ _ ho v _ hs hx v' w' hrun (h v' w' ⟨?_, hown.grown h3 hB⟩ h3)
  rw [List.length_append, ints_append]; exact h2

def leftT (pn : Nat) (l : List Cl) (k : Nat) : List Int := (List.range k).map fun i => (cntC pn (partL l 0 i) : Int)
theorem leftT_succ (pn : Nat) (l : List Cl) (k : Nat) : leftT pn l (k + 1) = leftT pn l k ++ [(cntC pn (partL l 0 k) : Int)] := by
  unfold leftT; rw [List.range_succ, List.map_append]; rfl
theorem leftT_len (pn : Nat) (l : List Cl) (k : Nat) : (leftT pn l k).length = k := by simp [leftT]
def leftO (p : Int) (l : List Cl) : List Int := if goodP p l then leftT p.toNat l (l.length + 1) else []
theorem leftO_len (p : Int) (l : List Cl) : ((leftO p l).length : Int) ≤ 1000 := by
  unfold leftO
  split
  · rename_i h
    have := leftT_len p.toNat l (l.length + 1)
    have := (goodP_bd h).2.1
    omega
  · simp

set_option maxHeartbeats 800000 in
set_option maxRecDepth 100000 in
theorem implLeft_any (p : Int) (l : List Cl) (ad : Option Addr) (c : Nat) (pe0 pe1 : Addr) (w : World) (hl : (l.length : Int) ≤ 1000000000000) (hlc : l.length ≤ c) (hr : Reads w ad (clus l)) (hd : PzDoor w pe0 pe1) :
    Calls Tryd.prog 40 #[.agg #[.int .i64 p, .slice ad l.length c]] w fun e w' => RowR (leftO p l) (goodP p l) w e w' := by
  have T0 := Lib.hid (PzB.new w p (.slice ad l.length c))
  obtain ⟨p0, p1, -⟩ := T0.out.full
  have HG := Lib.hid (fun W (hb : Below w.heap.size w W) => isPuzzle_any p l ad c W hl (hr.old hb))
  cases hg : goodP p l
  · rw [hg] at HG
    have hs : leftO p l = [] := by unfold leftO; rw [hg]; rfl
    rw [hs]; clear hs hg hr hd
    go_enter Tryd.func40, Tryd.ntmps40
    go_wp2_with fail
    refine (HG.out _ T0.out.2).mono ?_; rintro e w1 ⟨rfl, b1⟩
    have T1 := Lib.hid (T0.out.keep b1); clear b1 p0 p1
    go_wp2_with fail
    refine bodyPost_ret (v := .tuple #[.slice none 0 0, .bool false]) ?_ rfl ⟨_, rfl, owns_nil _ _ _, T1.out.2⟩
    simp [results, Tryd.results40, go_sem, *]
  · obtain ⟨hp, h6, hgc⟩ := goodP_bd hg
    obtain ⟨pn, rfl⟩ : ∃ pn : Nat, p = pn := ⟨p.toNat, by omega⟩
    obtain ⟨N, hN⟩ : ∃ N, N = l.length + 1 := ⟨_, rfl⟩
    have hs : leftO pn l = leftT pn l N := by unfold leftO; rw [hg, hN]; rfl
    have HCN : Hid (∀ (k : Nat) (hk : k ≤ l.length) W (hb : Below w.heap.size w W), Calls Tryd.prog 27 #[.agg #[.int .i64 pn, .slice (cutA ad 0 k) (k - 0) (k - 0)]] W fun e w' => e = .returned (.tuple #[.int .i64 (cntC pn (partL l 0 k)), .bool true]) ∧ Below W.heap.size W w') := fun k hk W hb =>
      implCnt_any (goodP_part hg hk) _ _ _ pe0 pe1 W (partL_len hk) (reads_cut (hr.old hb) (by omega) hk) (hd.keep hb)
    have HTN := Lib.hid (fun k => And.intro (leftT_succ pn l k) (leftT_len pn l k))
    obtain ⟨i0, hi, hz0, hz1, hz2⟩ := info_parts infoI
    have HIN := Lib.hid (And.intro hi (And.intro hz0 (And.intro hz1 hz2))); clear hi hz0 hz1 hz2
    rw [hg] at HG
    rw [hs]; clear hs hg hr hd hgc
    have h6' : (l.length : Int) ≤ 6 := by omega
    have hn1 : (l.length : Int) + 1 = (N : Int) := by omega
    have hn2 : IntKind.i64.wrap (N : Int) = (N : Int) := by rw [IntKind.wrap_i64]; omega
    have hn3 : IntKind.i64.wrap ((l.length : Int) + 1) = (N : Int) := by rw [IntKind.wrap_i64]; omega
    have hN7 : N ≤ 7 := by omega
    have HN0 := Lib.hid hN; clear hN
    go_enter Tryd.func40, Tryd.ntmps40
    go_wp2_with fail
    refine (HG.out _ T0.out.2).mono ?_; rintro e w1 ⟨rfl, b1⟩
    have T1 := Lib.hid (T0.out.keep b1); clear b1 p0 p1
    obtain ⟨p0, p1, -⟩ := T1.out.full
    go_wp2_with fail
    go_loopw [4, 15] (fun v i wq => ∃ k : Nat, i = .int .i64 k ∧ k ≤ N ∧ Hid (RoI w.heap.size w (leftT pn l k) v wq ∧ PzB w pn (.slice ad l.length c) wq)) (fun _ i _ => N - (intOf i).toNat)
    case atStart => exact ⟨0, rfl, Nat.zero_le _, RoI.nil _ _ T1.out.2, T1.out⟩
    case round =>
      obtain ⟨k, rfl, hk, HJ⟩ := hrel
      by_cases hlt : k < N
      · have b2 : (k : Int) < (N : Int) := by omega
        clear p0 p1
        obtain ⟨p0, p1, -⟩ := HJ.out.2.full
        have hkl : k ≤ l.length := by have := HN0.out; omega
        have HC := Lib.hid (HCN.out k hkl)
        have hst := (HTN.out k).1
        have HFL := Lib.hid (HTN.out k).2
        have HCT := Lib.hid (cut_any (pn : Int) ad l.length c 0 k wr (by omega) hkl hlc)
        rw [Nat.sub_zero] at HCT HC
        generalize cntC pn (partL l 0 k) = n1 at *
        generalize cutA ad 0 k = a0 at *
        have HST := Lib.hid hst; clear hst
        go_wp2_with fail
        refine HCT.out.mono ?_; rintro e w2 ⟨rfl, b2'⟩
        have K2 := Lib.hid (And.intro (HJ.out.1.keep b2' HJ.out.2.2.size) (HJ.out.2.keep b2')); clear b2'
        go_wp2_with fail
        refine (HC.out _ K2.out.2.2).mono ?_; rintro e w3 ⟨rfl, b3⟩
        have K3 := Lib.hid (And.intro (K2.out.1.keep b3 K2.out.2.2.size) (K2.out.2.keep b3)); clear b3 p0 p1
        have hbs3 := K3.out.2.2.size
        have HN := Lib.hid (cell_one_new w3 (.int .i64 n1) 3)
        go_wp2_with (at_builtin; refine wpList_append_own_at _ rfl _ _ 50 rfl w.heap.size 3 i0 (.int .i64 0) 1 8 Tryd.underlying50 HIN.out.1 HIN.out.2.1 HIN.out.2.2.1 HIN.out.2.2.2 rfl (by decide) _ _ _ rfl (K3.out.1.1.alloc _) ⟨w3.heap.size, 0, none⟩ 1 1 [.int .i64 n1] rfl rfl HN.out ?_ ?_ ?_ ?_ ?_)
        · intro u hu
          simp at hu
          rcases hu with rfl <;> rfl
        · have := HFL.out; unfold maxLen; omega
        · have := HFL.out; omega
        · simp; omega
        intro v' w5 hown5 hgrow _ hob
        have hal := And.intro (K3.out.1.keep (Below.ofNew (w := w3) (.cells #[.int .i64 n1] 3)) hbs3) (K3.out.2.keep (Below.ofNew (w := w3) (.cells #[.int .i64 n1] 3)))
        have hbel5 : Below w.heap.size w w5 := hal.1.grown hgrow (by simp; omega)
        have hpz : PzB w pn (.slice ad l.length c) w5 := ⟨hal.2.1.grow (by decide) hal.1.1 hgrow, hbel5⟩
        have H5 : Hid (RoI w.heap.size w (leftT pn l (k + 1)) v' w5 ∧ PzB w pn (.slice ad l.length c) w5) := by
          refine ⟨⟨?_, hbel5⟩, hpz⟩
          rw [HST.out, List.length_append, ints_append]
          exact hown5
        clear hown5 hgrow hbel5 HN hbs3 hal hpz hob
        go_wp2_with fail
        go_roundw
        case rel => exact ⟨k + 1, by go_num, by omega, H5⟩
        case measure => simp [intOf]; omega
      · obtain rfl : k = N := by omega
        go_wp2_with fail
        refine bodyPost_ret (v := .tuple #[u4, .bool true]) ?_ rfl ⟨_, rfl, HJ.out.1.1, HJ.out.1.2⟩
        simp [results, Tryd.results40, go_sem, *]

set_option maxHeartbeats 800000 in
set_option maxRecDepth 100000 in
theorem specLeft_any (p : Int) (l : List Cl) (ad : Option Addr) (c : Nat) (w : World) (hl : (l.length : Int) ≤ 1000000000000) (hlc : l.length ≤ c) (hr : Reads w ad (clus l)) :
    Calls Tryd.prog 39 #[.agg #[.int .i64 p, .slice ad l.length c]] w fun e w' => RowR (leftO p l) (goodP p l) w e w' := by
  have T0 := Lib.hid (PzB.new w p (.slice ad l.length c))
  obtain ⟨p0, p1, -⟩ := T0.out.full
  have HG := Lib.hid (fun W (hb : Below w.heap.size w W) => pzGood_any p l ad c W hl (hr.old hb))
  cases hg : goodP p l
  · rw [hg] at HG
    have hs : leftO p l = [] := by unfold leftO; rw [hg]; rfl
    rw [hs]; clear hs hg hr
    go_enter Tryd.func39, Tryd.ntmps39
    go_wp2_with fail
    refine (HG.out _ T0.out.2).mono ?_; rintro e w1 ⟨rfl, b1⟩
    have T1 := Lib.hid (T0.out.keep b1); clear b1 p0 p1
    go_wp2_with fail
    refine bodyPost_ret (v := .tuple #[.slice none 0 0, .bool false]) ?_ rfl ⟨_, rfl, owns_nil _ _ _, T1.out.2⟩
    simp [results, Tryd.results39, go_sem, *]
  · obtain ⟨hp, h6, hgc⟩ := goodP_bd hg
    obtain ⟨pn, rfl⟩ : ∃ pn : Nat, p = pn := ⟨p.toNat, by omega⟩
    have hs : leftO pn l = leftT pn l (l.length + 1) := by unfold leftO; rw [hg]; rfl
    have HCN : Hid (∀ (k : Nat) (hk : k ≤ l.length) W (hb : Below w.heap.size w W), Calls Tryd.prog 56 #[.int .i64 pn, .slice ad k c] W fun e w' => ∃ a' c', e = .returned (.slice a' (cntC pn (partL l 0 k)) c') ∧ Below W.heap.size W w') := fun k hk W hb => by
      refine pzCnt_any (goodP_part hg hk) _ _ _ W (by rw [partL_len hk]; omega) ?_
      rw [partL_upto]; exact reads_upto (hr.old hb) k
    have HTN := Lib.hid (fun k => And.intro (leftT_succ pn l k) (leftT_len pn l k))
    rw [hg] at HG
    rw [hs]; clear hs hg hr hgc
    have h6' : (l.length : Int) ≤ 6 := by omega
    have HFIN : Hid (∀ v wq, RoI w.heap.size w (leftT pn l (l.length + 1)) v wq → ∃ v', Ending.returned (.tuple #[v, .bool true]) = Ending.returned (.tuple #[v', .bool true]) ∧ wq.ownsRow w.heap.size 3 1 v' (leftT pn l (l.length + 1)).length (ints (leftT pn l (l.length + 1))) ∧ Below w.heap.size w wq) := fun v wq h => ⟨v, rfl, h.1, h.2⟩
    go_enter Tryd.func39, Tryd.ntmps39
    go_wp2_with fail
    refine (HG.out _ T0.out.2).mono ?_; rintro e w1 ⟨rfl, b1⟩
    have T1 := Lib.hid (T0.out.keep b1); clear b1 p0 p1
    obtain ⟨p0, p1, -⟩ := T1.out.full
    go_wp2_with fail
    go_loopw [4, 5] (fun v i wq => ∃ k : Nat, i = .int .i64 k ∧ k ≤ l.length + 1 ∧ Hid (RoI w.heap.size w (leftT pn l k) v wq ∧ PzB w pn (.slice ad l.length c) wq)) (fun _ i _ => l.length + 1 - (intOf i).toNat)
    case atStart => exact ⟨0, rfl, Nat.zero_le _, RoI.nil _ _ T1.out.2, T1.out⟩
    case round =>
      obtain ⟨k, rfl, hk, HJ⟩ := hrel
      clear p0 p1
      obtain ⟨p0, p1, -⟩ := HJ.out.2.full
      by_cases hlt : k ≤ l.length
      · have b2 : (k : Int) ≤ (l.length : Int) := by omega
        have hbd := Below.drew (Below.refl wr.heap.size wr)
        have KD := Lib.hid (And.intro (HJ.out.1.keep hbd HJ.out.2.2.size) (HJ.out.2.keep hbd))
        have HC := Lib.hid (HCN.out k hlt _ KD.out.2.2)
        have hst := (HTN.out k).1
        have HFL := Lib.hid (HTN.out k).2
        have hsl := run_upto ad l.length c k (by omega)
        rw [upto_same] at hsl
        have HST := Lib.hid hst; clear hst hbd
        generalize cntC pn (partL l 0 k) = n1 at *
        go_wp2_with fail
        clear p0 p1
        refine wp_region_held_drew (S := fun wi => wi.cell? ⟨w.heap.size, 0, none⟩ = some (.int .i64 pn) ∧ wi.cell? ⟨w.heap.size, 1, none⟩ = some (.slice ad l.length c)) (by kernel_rfl) ⟨KD.out.2.full.1, KD.out.2.full.2.1⟩ (fun hHeld => ?_)
        (refine wpAnyH_take (i := 0) (v := ?_) rfl (by kernel_rfl) (by kernel_rfl) (by kernel_rfl) (fun _ _ _ h => h) (Or.inl ⟨by kernel_rfl, ?_⟩) (by assumption) ?_; rotate_left; focus (intro w hSw; (try dsimp only at hSw); go_simp; try with_reducible rfl); (try simp only [List.getElem_toArray, List.getElem_cons_succ, List.getElem_cons_zero, Act.put, List.setIfInBounds_toArray, List.set_cons_zero, List.set_cons_succ])); (refine wpAnyH_take (i := 1) (v := ?_) rfl (by kernel_rfl) (by kernel_rfl) (by kernel_rfl) (fun _ _ _ h => h) (Or.inl ⟨by kernel_rfl, ?_⟩) (by assumption) ?_; rotate_left; focus (intro w hSw; (try dsimp only at hSw); go_simp; try with_reducible rfl); (try simp only [List.getElem_toArray, List.getElem_cons_succ, List.getElem_cons_zero, Act.put, List.setIfInBounds_toArray, List.set_cons_zero, List.set_cons_succ])); (refine wpAnyH_take (i := 2) (v := ?_) rfl (by kernel_rfl) (by kernel_rfl) (by kernel_rfl) (fun _ _ _ h => h) (Or.inl ⟨by kernel_rfl, ?_⟩) (by assumption) ?_; rotate_left; focus (intro w hSw; (try dsimp only at hSw); go_simp; try with_reducible rfl); (try simp only [List.getElem_toArray, List.getElem_cons_succ, List.getElem_cons_zero, Act.put, List.setIfInBounds_toArray, List.set_cons_zero, List.set_cons_succ])); (refine wpAnyH_take (i := 3) (v := ?_) rfl (by kernel_rfl) (by kernel_rfl) (by kernel_rfl) (fun _ _ _ h => h) (Or.inl ⟨by kernel_rfl, ?_⟩) (by assumption) ?_; rotate_left; focus (intro w hSw; (try dsimp only at hSw); go_simp; try with_reducible rfl); (try simp only [List.getElem_toArray, List.getElem_cons_succ, List.getElem_cons_zero, Act.put, List.setIfInBounds_toArray, List.set_cons_zero, List.set_cons_succ])); (refine wpAnyH_take (i := 4) (v := ?_) rfl (by kernel_rfl) (by kernel_rfl) (by kernel_rfl) (fun _ _ _ h => h) (Or.inl ⟨by kernel_rfl, ?_⟩) (by assumption) ?_; rotate_left; focus (intro w hSw; (try dsimp only at hSw); go_simp; try with_reducible rfl); (try simp only [List.getElem_toArray, List.getElem_cons_succ, List.getElem_cons_zero, Act.put, List.setIfInBounds_toArray, List.set_cons_zero, List.set_cons_succ])); (refine wpAnyH_take (i := 5) (v := ?_) rfl (by kernel_rfl) (by kernel_rfl) (by kernel_rfl) (fun _ _ _ h => h) (Or.inl ⟨by kernel_rfl, ?_⟩) (by assumption) ?_; rotate_left; focus (intro w hSw; (try dsimp only at hSw); go_simp; try with_reducible rfl); (try simp only [List.getElem_toArray, List.getElem_cons_succ, List.getElem_cons_zero, Act.put, List.setIfInBounds_toArray, List.set_cons_zero, List.set_cons_succ])); (refine wpAnyH_take (i := 6) (v := ?_) rfl (by kernel_rfl) (by kernel_rfl) (by kernel_rfl) (fun _ _ _ h => h) (Or.inl ⟨by kernel_rfl, ?_⟩) (by assumption) ?_; rotate_left; focus (intro w hSw; (try dsimp only at hSw); go_simp; try with_reducible rfl); (try simp only [List.getElem_toArray, List.getElem_cons_succ, List.getElem_cons_zero, Act.put, List.setIfInBounds_toArray, List.set_cons_zero, List.set_cons_succ]))
        refine wpAnyH_ready (rs := [7]) (by kernel_rfl) (by simp) ?_; refine AllReadyH.cons rfl (fun K hK => ?_) AllReadyH.nil
        go_simp
        go_at_call 56
        refine HC.out.mono ?_; rintro e w3 ⟨ra3, rc3, rfl, b3⟩
        have K3 := Lib.hid (And.intro (KD.out.1.keep b3 KD.out.2.2.size) (KD.out.2.keep b3)); clear b3 hHeld
        go_wp2_with fail
        first
          | refine hK.out _ _ ⟨K3.out.2.full.1, K3.out.2.full.2.1⟩ (fun hHeld => ?_)
          | refine hK _ _ ⟨K3.out.2.full.1, K3.out.2.full.2.1⟩ (fun hHeld => ?_)
        clear hK K
        (try simp only [List.getElem_toArray, List.getElem_cons_succ, List.getElem_cons_zero, Act.put, List.setIfInBounds_toArray, List.set_cons_zero, List.set_cons_succ])
        (refine wpAnyH_take (i := 8) (v := ?_) rfl (by kernel_rfl) (by kernel_rfl) (by kernel_rfl) (fun _ _ _ h => h) (Or.inl ⟨by kernel_rfl, ?_⟩) (by assumption) ?_; rotate_left; focus (intro w hSw; (try dsimp only at hSw); go_simp; try with_reducible rfl); (try simp only [List.getElem_toArray, List.getElem_cons_succ, List.getElem_cons_zero, Act.put, List.setIfInBounds_toArray, List.set_cons_zero, List.set_cons_succ]))
        have hbn := Below.ofNew (w := w3) (.cells #[.int .i64 n1] 3)
        have K4 := Lib.hid (And.intro (K3.out.1.keep hbn K3.out.2.2.size) (K3.out.2.keep hbn)); clear hbn
        refine wpAnyH_ready (rs := [9]) (by kernel_rfl) (by simp) ?_; refine AllReadyH.cons rfl (fun K hK => ?_) AllReadyH.nil
        go_simp
        first
          | refine hK.out _ _ ⟨K4.out.2.full.1, K4.out.2.full.2.1⟩ (fun hHeld => ?_)
          | refine hK _ _ ⟨K4.out.2.full.1, K4.out.2.full.2.1⟩ (fun hHeld => ?_)
        clear hK K
        (try simp only [List.getElem_toArray, List.getElem_cons_succ, List.getElem_cons_zero, Act.put, List.setIfInBounds_toArray, List.set_cons_zero, List.set_cons_succ])
        refine wpAnyH_ready (rs := [10]) (by kernel_rfl) (by simp) ?_; refine AllReadyH.cons rfl (fun K hK => ?_) AllReadyH.nil
        refine wp_append_numG _ _ rfl w _ (leftT pn l k) n1 ⟨w3.heap.size, 0, none⟩ 1 rfl rfl w.heap.size K4.out.1 (cell_one_new w3 (.int .i64 n1) 3) K4.out.2.2.size (by rw [HFL.out]; omega) ?_
        intro v' w5 h5 hg5
        have H5 : Hid (RoI w.heap.size w (leftT pn l (k + 1)) v' w5 ∧ PzB w pn (.slice ad l.length c) w5) :=
          ⟨by rw [HST.out]; exact h5, K4.out.2.1.grow (by decide) K4.out.1.1 hg5, h5.2⟩
        clear h5 hg5 hHeld
        first
          | refine hK.out _ _ ⟨H5.out.2.full.1, H5.out.2.full.2.1⟩ (fun hHeld => ?_)
          | refine hK _ _ ⟨H5.out.2.full.1, H5.out.2.full.2.1⟩ (fun hHeld => ?_)
        clear hK K
        (try simp only [List.getElem_toArray, List.getElem_cons_succ, List.getElem_cons_zero, Act.put, List.setIfInBounds_toArray, List.set_cons_zero, List.set_cons_succ])
        (refine wpAnyH_take (i := 11) (v := ?_) rfl (by kernel_rfl) (by kernel_rfl) (by kernel_rfl) (fun _ _ _ h => h) (Or.inl ⟨by kernel_rfl, ?_⟩) (by assumption) ?_; rotate_left; focus (intro w hSw; (try dsimp only at hSw); go_simp; try with_reducible rfl); (try simp only [List.getElem_toArray, List.getElem_cons_succ, List.getElem_cons_zero, Act.put, List.setIfInBounds_toArray, List.set_cons_zero, List.set_cons_succ]))
        refine wpAnyH_done (by kernel_rfl) ?_ _
        clear hHeld
        go_wp2_with fail
        go_roundw
        case rel => exact ⟨k + 1, by go_num, by omega, H5⟩
        case measure => simp [intOf]; omega
      · obtain rfl : k = l.length + 1 := by omega
        have hng : ¬ ((l.length + 1 : Nat) : Int) ≤ (l.length : Int) := by omega
        go_wp2_with fail
        refine bodyPost_ret (v := .tuple #[u4, .bool true]) ?_ rfl (HFIN.out _ _ HJ.out.1)
        simp [results, Tryd.results39, go_sem, *]
end Go.Proofs.YtcigighklghjkaaDoor
