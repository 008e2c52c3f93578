/-
  Leagues: CountFirsts and CanBeFirst: both sides.
-/
import Derived.Test.YtpfphjfpaoiicaaLgFsJ
namespace Go.Proofs.Ytpfphjfpaoiicaa
open Go.RowKit
set_option linter.unusedVariables false
set_option linter.unusedSimpArgs false

def openL (t wn : Int) (l : List Rs) (team : Int) : Bool := teamL t wn l team && decide (((leftL t.toNat l).length : Int) ≤ 7)
def firstV (t wn : Int) (l : List Rs) (team : Int) : Int := if openL t wn l team then waysN t.toNat wn team (leftL t.toNat l) (fun i => ptsT wn l i) else 0
theorem left_good (T : Nat) (l : List Rs) : ∀ p ∈ leftL T l, GoodP T p := by
  intro p hp
  simp only [leftL, List.mem_filter] at hp
  obtain ⟨h1, h2⟩ := hp
  obtain ⟨h3, h4⟩ := prs_mem_bd h1
  simp only [leftB, Bool.and_eq_true, decide_eq_true_eq] at h2
  exact ⟨h3, h4, h2.1⟩
theorem pts_small {wn : Int} (hw : 2 ≤ wn ∧ wn ≤ 3) (l : List Rs) (h : l.length ≤ 56) {n : Nat} (hn : n ≤ 7) (i : Int) : 0 ≤ ptsT wn l i ∧ ptsT wn l i ≤ 300 - 3 * (n : Int) := by
  have := ptsT_bd hw l i
  omega

set_option maxHeartbeats 3200000 in
set_option maxRecDepth 100000 in
theorem implCf_any (t wn : Int) (l : List Rs) (ad : Option Addr) (c : Nat) (team : Int) (w : World) (hl : (l.length : Int) ≤ 1000000000000) (hlc : l.length ≤ c) (hr : Reads w ad (ress l)) :
    Calls Try.prog 49 #[.agg #[.int .i64 t, .int .i64 wn, .slice ad l.length c], .int .i64 team] w fun e w' => e = .returned (.tuple #[.int .i64 (firstV t wn l team), .bool (openL t wn l team)]) ∧ Below w.heap.size w w' := by
  have H0 := Lib.hid (BoxS.new w t wn (.slice ad l.length c))
  have HL := Lib.hid (implLeft_any t wn l ad c _ hl hlc (hr.old H0.out.2))
  have HG := Lib.hid (fun W (hb : Below w.heap.size w W) => isTeamOf_any t wn l ad c team W hl hlc (hr.old hb))
  have HPT := Lib.hid (fun W (hb : Below w.heap.size w W) => implPts_any t wn l ad c W hl hlc (hr.old hb))
  have HR := Lib.hid hr; clear hr
  cases hg : teamL t wn l team
  · have hv : openL t wn l team = false := by unfold openL; rw [hg]; rfl
    have hv2 : firstV t wn l team = 0 := by unfold firstV; rw [hv]; rfl
    rw [hg] at HG; rw [hv, hv2]; clear hg hv hv2
    go_enter Try.func49, Try.ntmps49
    go_wp2_with fail
    refine HL.out.mono ?_; rintro e w1 ⟨v, rfl, hp, b1⟩
    have H1 := Lib.hid (H0.out.keep b1); clear b1 H0 hp
    obtain ⟨p0, p1, p2, -⟩ := H1.out.full
    go_wp2_with fail
    refine (HG.out _ H1.out.2).mono ?_; rintro e w2 ⟨rfl, b2⟩
    have H2 := Lib.hid (H1.out.keep b2); clear b2 H1 p0 p1 p2
    go_wp2_with fail
    refine bodyPost_ret (v := .tuple #[.int .i64 0, .bool false]) (by simp [results, Try.results49, go_sem]) rfl ⟨rfl, H2.out.2⟩
  · obtain ⟨hgd, m0, m1⟩ := teamL_good hg
    obtain ⟨t2, t8, hw2, hw3, h56⟩ := goodL_bd hgd
    obtain ⟨T, rfl⟩ : ∃ T : Nat, t = T := ⟨t.toNat, by omega⟩
    obtain ⟨M, rfl⟩ : ∃ M : Nat, team = M := ⟨team.toNat, by omega⟩
    have hpv : ptsV T wn l = rowF T (fun i => ptsT wn l i) := by unfold ptsV; rw [if_pos hgd, Int.toNat_natCast]
    have hop : openL T wn l M = decide (((leftL T l).length : Int) ≤ 7) := by unfold openL; rw [hg, Bool.true_and, Int.toNat_natCast]
    rw [hgd] at HL HPT
    simp only [if_true, Int.toNat_natCast] at HL
    rw [hpv] at HPT
    rw [hg] at HG
    by_cases h7 : ((leftL T l).length : Int) ≤ 7
    · have hv2 : firstV T wn l M = waysN T wn M (leftL T l) (fun i => ptsT wn l i) := by unfold firstV; rw [hop, decide_eq_true h7, Int.toNat_natCast]; rfl
      rw [hop, decide_eq_true h7, hv2]; clear hv2 hop
      have HCF := Lib.hid (fun g cp a c hcp hc W hp hlf => countFirsts_any T (by omega) (by omega) wn hw2 hw3 M (by omega) (leftL T l) (by omega) (left_good T l) (fun i => ptsT wn l i) (fun i _ _ => pts_small ⟨hw2, hw3⟩ l h56 (by omega) i) g cp a c hcp hc W hp hlf)
      clear hg hgd hpv
      generalize leftL T l = L at *
      go_enter Try.func49, Try.ntmps49
      go_wp2_with fail
      refine HL.out.mono ?_; rintro e w1 ⟨v, rfl, hp, b1⟩
      obtain ⟨a3, c3, rfl, hc3, hlf⟩ := LfR.ofPair hp
      have H1 := Lib.hid (And.intro (H0.out.keep b1) hlf); clear b1 H0 hp hlf
      obtain ⟨p0, p1, p2, -⟩ := H1.out.1.full
      have d7 : ¬ 7 < (L.length : Int) := by omega
      go_wp2_with fail
      refine (HG.out _ H1.out.1.2).mono ?_; rintro e w2 ⟨rfl, b2⟩
      have H2 := Lib.hid (And.intro (H1.out.1.keep b2) (H1.out.2.keep b2)); clear b2 H1 p0 p1 p2
      obtain ⟨p0, p1, p2, -⟩ := H2.out.1.full
      go_wp2_with fail
      refine (HPT.out _ H2.out.1.2).mono ?_; rintro e w4 ⟨v, rfl, ho, b4⟩
      obtain ⟨g', cp', rfl, hcp', hge, hp1⟩ := PtR.ofOwn (cs := rowF T (fun i => ptsT wn l i)) (by rw [rowF_len]; omega) ho
      rw [rowF_len] at hcp' ⊢
      have H3 := Lib.hid (And.intro (H2.out.1.keep b4) (And.intro (H2.out.2.keep b4) hp1)); clear b4 H2 p0 p1 p2 ho hp1
      obtain ⟨p0, p1, p2, -⟩ := H3.out.1.full
      go_wp2_with fail
      refine (HCF.out g' cp' a3 c3 hcp' hc3 _ H3.out.2.2 H3.out.2.1).mono ?_; rintro e w5 ⟨rfl, b5⟩
      have H4 := Lib.hid (H3.out.1.keep b5); clear b5 H3 p0 p1 p2 HCF
      generalize hVV : waysN T wn M L (fun i => ptsT wn l i) = V at *
      have HVV := Lib.hid hVV; clear hVV
      go_wp2_with fail
      refine bodyPost_ret (v := .tuple #[.int .i64 V, .bool true]) (by simp [results, Try.results49, go_sem]) rfl ⟨by rw [HVV.out], H4.out.2⟩
    · have hv2 : firstV T wn l M = 0 := by unfold firstV; rw [hop, decide_eq_false h7]; rfl
      rw [hop, decide_eq_false h7, hv2]; clear hv2 hop hg hgd hpv
      generalize leftL T l = L at *
      go_enter Try.func49, Try.ntmps49
      go_wp2_with fail
      refine HL.out.mono ?_; rintro e w1 ⟨v, rfl, hp, b1⟩
      obtain ⟨a3, c3, rfl, hc3, -⟩ := LfR.ofPair hp
      have H1 := Lib.hid (H0.out.keep b1); clear b1 H0 hp
      obtain ⟨p0, p1, p2, -⟩ := H1.out.full
      have d7 : 7 < (L.length : Int) := by omega
      go_wp2_with fail
      refine (HG.out _ H1.out.2).mono ?_; rintro e w2 ⟨rfl, b2⟩
      have H2 := Lib.hid (H1.out.keep b2); clear b2 H1 p0 p1 p2
      go_wp2_with fail
      refine bodyPost_ret (v := .tuple #[.int .i64 0, .bool false]) (by simp [results, Try.results49, go_sem]) rfl ⟨rfl, H2.out.2⟩

set_option maxHeartbeats 1600000 in
theorem implCan_any (t wn : Int) (l : List Rs) (ad : Option Addr) (c : Nat) (team : Int) (w : World) (hl : (l.length : Int) ≤ 1000000000000) (hlc : l.length ≤ c) (hr : Reads w ad (ress l)) :
    Calls Try.prog 47 #[.agg #[.int .i64 t, .int .i64 wn, .slice ad l.length c], .int .i64 team] w fun e w' => e = .returned (.tuple #[.bool (decide (0 < firstV t wn l team)), .bool (openL t wn l team)]) ∧ Below w.heap.size w w' := by
  have H0 := Lib.hid (BoxS.new w t wn (.slice ad l.length c))
  have HC := Lib.hid (implCf_any t wn l ad c team _ hl hlc (hr.old H0.out.2)); clear hr
  generalize firstV t wn l team = V at *
  generalize openL t wn l team = O at *
  go_enter Try.func47, Try.ntmps47
  go_wp2_with fail
  refine HC.out.mono ?_; rintro e w1 ⟨rfl, b1⟩
  have H1 := Lib.hid (H0.out.keep b1); clear b1 H0
  go_wp2_with fail
  refine bodyPost_ret (v := .tuple #[.bool (decide (0 < V)), .bool O]) (by simp [results, Try.results47, go_sem]) rfl ⟨rfl, H1.out.2⟩

set_option maxHeartbeats 1600000 in
theorem lgOpen_any (t wn : Int) (l : List Rs) (ad : Option Addr) (c : Nat) (team : Int) (w : World) (hl : (l.length : Int) ≤ 1000000000000) (hlc : l.length ≤ c) (hr : Reads w ad (ress l)) :
    Calls Try.prog 90 #[.agg #[.int .i64 t, .int .i64 wn, .slice ad l.length c], .int .i64 team] w fun e w' => e = .returned (.bool (openL t wn l team)) ∧ Below w.heap.size w w' := by
  have H0 := Lib.hid (BoxS.new w t wn (.slice ad l.length c))
  have HG := Lib.hid (lgTeam_any t wn l ad c team _ hl hlc (hr.old H0.out.2))
  cases hg : teamL t wn l team
  · have hv : openL t wn l team = false := by unfold openL; rw [hg]; rfl
    rw [hg] at HG; rw [hv]; clear hg hv hr
    go_enter Try.func90, Try.ntmps90
    go_wp2_with fail
    refine HG.out.mono ?_; rintro e w1 ⟨rfl, b1⟩
    have H1 := Lib.hid (H0.out.keep b1); clear b1 H0
    go_wp2_with fail
    go_ret
    exact ⟨rfl, H1.out.2⟩
  · obtain ⟨hgd, m0, m1⟩ := teamL_good hg
    obtain ⟨t2, t8, -⟩ := goodL_bd hgd
    obtain ⟨T, rfl⟩ : ∃ T : Nat, t = T := ⟨t.toNat, by omega⟩
    have hop : openL T wn l team = decide (((leftL T l).length : Int) ≤ 7) := by unfold openL; rw [hg, Bool.true_and, Int.toNat_natCast]
    have HL := Lib.hid (fun W (hb : Below w.heap.size w W) => lgLeft_any T (by omega) wn l ad c W hl (hr.old hb))
    rw [hg] at HG; rw [hop]; clear hg hop hr hgd
    generalize leftL T l = L at *
    go_enter Try.func90, Try.ntmps90
    go_wp2_with fail
    refine HG.out.mono ?_; rintro e w1 ⟨rfl, b1⟩
    have H1 := Lib.hid (H0.out.keep b1); clear b1 H0
    obtain ⟨p0, p1, p2, -⟩ := H1.out.full
    go_wp2_with fail
    refine (HL.out _ H1.out.2).mono ?_; rintro e w2 ⟨v, rfl, hp, b2⟩
    obtain ⟨a3, c3, rfl⟩ := hp.slice
    have H2 := Lib.hid (H1.out.keep b2); clear b2 H1 p0 p1 p2 hp
    go_wp2_with fail
    go_ret
    exact ⟨ret_bool (by simp), H2.out.2⟩

set_option maxHeartbeats 3200000 in
set_option maxRecDepth 100000 in
theorem specCf_any (t wn : Int) (l : List Rs) (ad : Option Addr) (c : Nat) (team : Int) (w : World) (hl : (l.length : Int) ≤ 1000000000000) (hlc : l.length ≤ c) (hr : Reads w ad (ress l)) :
    Calls Try.prog 48 #[.agg #[.int .i64 t, .int .i64 wn, .slice ad l.length c], .int .i64 team] w fun e w' => e = .returned (.tuple #[.int .i64 (firstV t wn l team), .bool (openL t wn l team)]) ∧ Below w.heap.size w w' := by
  have H0 := Lib.hid (BoxS.new w t wn (.slice ad l.length c))
  have HG := Lib.hid (lgOpen_any t wn l ad c team _ hl hlc (hr.old H0.out.2))
  have HR := Lib.hid hr; clear hr
  cases ho : openL t wn l team
  · have hv2 : firstV t wn l team = 0 := by unfold firstV; rw [ho]; rfl
    rw [ho] at HG; rw [hv2]; clear ho hv2
    go_enter Try.func48, Try.ntmps48
    go_wp2_with fail
    refine HG.out.mono ?_; rintro e w1 ⟨rfl, b1⟩
    have H1 := Lib.hid (H0.out.keep b1); clear b1 H0
    go_wp2_with fail
    refine bodyPost_ret (v := .tuple #[.int .i64 0, .bool false]) (by simp [results, Try.results48, go_sem]) rfl ⟨by first | rfl | simp, H1.out.2⟩
  · have ho2 := ho
    simp only [openL, Bool.and_eq_true, decide_eq_true_eq] at ho2
    obtain ⟨hg, h7⟩ := ho2
    obtain ⟨hgd, m0, m1⟩ := teamL_good hg
    obtain ⟨t2, t8, hw2, hw3, h56⟩ := goodL_bd hgd
    obtain ⟨T, rfl⟩ : ∃ T : Nat, t = T := ⟨t.toNat, by omega⟩
    obtain ⟨M, rfl⟩ : ∃ M : Nat, team = M := ⟨team.toNat, by omega⟩
    rw [Int.toNat_natCast] at h7
    have hv2 : firstV T wn l M = waysN T wn M (leftL T l) (fun i => ptsT wn l i) := by unfold firstV; rw [ho, Int.toNat_natCast]; rfl
    have HP := Lib.hid (fun W (hb : Below w.heap.size w W) => lgPoints_any T wn l hgd ad c W (HR.out.old hb))
    have HL := Lib.hid (fun W (hb : Below w.heap.size w W) => lgLeft_any T (by omega) wn l ad c W hl (HR.out.old hb))
    have HCF := Lib.hid (fun g cp a c hcp hc W hp hlf => lgFirsts_any T (by omega) (by omega) wn hw2 hw3 M (by omega) (leftL T l) (by omega) (left_good T l) (fun i => ptsT wn l i) (fun i _ _ => pts_small ⟨hw2, hw3⟩ l h56 (by omega) i) g cp a c hcp hc W hp hlf)
    rw [ho] at HG; rw [hv2]; clear ho hv2 hg hgd
    generalize leftL T l = L at *
    go_enter Try.func48, Try.ntmps48
    go_wp2_with fail
    refine HG.out.mono ?_; rintro e w1 ⟨rfl, b1⟩
    have H1 := Lib.hid (H0.out.keep b1); clear b1 H0 HG
    obtain ⟨p0, p1, p2, -⟩ := H1.out.full
    go_wp2_with fail
    clear p0 p1 p2
    have H1d := Lib.hid H1.out.drew
    refine wp_region_held_drew (S := fun w' => w'.cell? ⟨w.heap.size, 0, none⟩ = some (.int .i64 T) ∧ w'.cell? ⟨w.heap.size, 1, none⟩ = some (.int .i64 wn) ∧ w'.cell? ⟨w.heap.size, 2, none⟩ = some (.slice ad l.length c) ∧ BoxS w T wn (.slice ad l.length c) w') (by kernel_rfl) H1d.out.full (fun hHeld => ?_)
    (refine wpAnyH_take (i := 0) (v := ?_) rfl (by kernel_rfl) (by kernel_rfl) (by kernel_rfl) (fun _ _ _ h => h) (Or.inl ⟨by kernel_rfl, ?_⟩) (by assumption) ?_; rotate_left; focus (intro w hSw; (try dsimp only at hSw); go_simp; try with_reducible rfl); (try simp only [List.getElem_toArray, List.getElem_cons_succ, List.getElem_cons_zero, Act.put, List.setIfInBounds_toArray, List.set_cons_zero, List.set_cons_succ])); (refine wpAnyH_take (i := 2) (v := ?_) rfl (by kernel_rfl) (by kernel_rfl) (by kernel_rfl) (fun _ _ _ h => h) (Or.inl ⟨by kernel_rfl, ?_⟩) (by assumption) ?_; rotate_left; focus (intro w hSw; (try dsimp only at hSw); go_simp; try with_reducible rfl); (try simp only [List.getElem_toArray, List.getElem_cons_succ, List.getElem_cons_zero, Act.put, List.setIfInBounds_toArray, List.set_cons_zero, List.set_cons_succ])); (refine wpAnyH_take (i := 3) (v := ?_) rfl (by kernel_rfl) (by kernel_rfl) (by kernel_rfl) (fun _ _ _ h => h) (Or.inl ⟨by kernel_rfl, ?_⟩) (by assumption) ?_; rotate_left; focus (intro w hSw; (try dsimp only at hSw); go_simp; try with_reducible rfl); (try simp only [List.getElem_toArray, List.getElem_cons_succ, List.getElem_cons_zero, Act.put, List.setIfInBounds_toArray, List.set_cons_zero, List.set_cons_succ])); (refine wpAnyH_take (i := 4) (v := ?_) rfl (by kernel_rfl) (by kernel_rfl) (by kernel_rfl) (fun _ _ _ h => h) (Or.inl ⟨by kernel_rfl, ?_⟩) (by assumption) ?_; rotate_left; focus (intro w hSw; (try dsimp only at hSw); go_simp; try with_reducible rfl); (try simp only [List.getElem_toArray, List.getElem_cons_succ, List.getElem_cons_zero, Act.put, List.setIfInBounds_toArray, List.set_cons_zero, List.set_cons_succ])); (refine wpAnyH_take (i := 6) (v := ?_) rfl (by kernel_rfl) (by kernel_rfl) (by kernel_rfl) (fun _ _ _ h => h) (Or.inl ⟨by kernel_rfl, ?_⟩) (by assumption) ?_; rotate_left; focus (intro w hSw; (try dsimp only at hSw); go_simp; try with_reducible rfl); (try simp only [List.getElem_toArray, List.getElem_cons_succ, List.getElem_cons_zero, Act.put, List.setIfInBounds_toArray, List.set_cons_zero, List.set_cons_succ]))
    refine wpAnyH_ready (rs := [1]) (by kernel_rfl) (by simp) ?_; refine AllReadyH.cons rfl (fun K hK => ?_) AllReadyH.nil
    go_simp
    go_at_call 75
    refine (HP.out _ H1d.out.2).mono ?_; rintro e w5 ⟨g, rfl, hge, hrow, b5⟩
    have H5 := Lib.hid (And.intro (H1d.out.keep b5) (PtR.ofRow hrow)); clear b5 H1d H1 hHeld hrow hge HP
    go_wp2_with fail
    first
      | refine hK.out _ _ H5.out.1.full (fun hHeld => ?_)
      | refine hK _ _ H5.out.1.full (fun hHeld => ?_)
    clear hK K
    (try simp only [List.getElem_toArray, List.getElem_cons_succ, List.getElem_cons_zero, Act.put, List.setIfInBounds_toArray, List.set_cons_zero, List.set_cons_succ])
    refine wpAnyH_ready (rs := [5]) (by kernel_rfl) (by simp) ?_; refine AllReadyH.cons rfl (fun K hK => ?_) AllReadyH.nil
    go_simp
    go_at_call 88
    refine (HL.out _ H5.out.1.2).mono ?_; rintro e w6 ⟨v, rfl, hp, b6⟩
    obtain ⟨a3, c3, rfl, hc3, hlf⟩ := LfR.ofPair hp
    have H6 := Lib.hid (And.intro (H5.out.1.keep b6) (And.intro (H5.out.2.keep b6) hlf)); clear b6 H5 hHeld hp hlf HL
    go_wp2_with fail
    first
      | refine hK.out _ _ H6.out.1.full (fun hHeld => ?_)
      | refine hK _ _ H6.out.1.full (fun hHeld => ?_)
    clear hK K
    (try simp only [List.getElem_toArray, List.getElem_cons_succ, List.getElem_cons_zero, Act.put, List.setIfInBounds_toArray, List.set_cons_zero, List.set_cons_succ])
    refine wpAnyH_ready (rs := [7]) (by kernel_rfl) (by simp) ?_; refine AllReadyH.cons rfl (fun K hK => ?_) AllReadyH.nil
    go_simp
    go_at_call 91
    refine (HCF.out g T a3 c3 (Nat.le_refl _) hc3 _ H6.out.2.1 H6.out.2.2).mono ?_; rintro e w7 ⟨rfl, b7⟩
    have H7 := Lib.hid (H6.out.1.keep b7); clear b7 H6 hHeld HCF
    generalize hVV : waysN T wn M L (fun i => ptsT wn l i) = V at *
    have HVV := Lib.hid hVV; clear hVV
    go_wp2_with fail
    first
      | refine hK.out _ _ H7.out.full (fun hHeld => ?_)
      | refine hK _ _ H7.out.full (fun hHeld => ?_)
    clear hK K
    (try simp only [List.getElem_toArray, List.getElem_cons_succ, List.getElem_cons_zero, Act.put, List.setIfInBounds_toArray, List.set_cons_zero, List.set_cons_succ])
    (refine wpAnyH_take (i := 8) (v := ?_) rfl (by kernel_rfl) (by kernel_rfl) (by kernel_rfl) (fun _ _ _ h => h) (Or.inl ⟨by kernel_rfl, ?_⟩) (by assumption) ?_; rotate_left; focus (intro w hSw; (try dsimp only at hSw); go_simp; try with_reducible rfl); (try simp only [List.getElem_toArray, List.getElem_cons_succ, List.getElem_cons_zero, Act.put, List.setIfInBounds_toArray, List.set_cons_zero, List.set_cons_succ])); (refine wpAnyH_take (i := 9) (v := ?_) rfl (by kernel_rfl) (by kernel_rfl) (by kernel_rfl) (fun _ _ _ h => h) (Or.inl ⟨by kernel_rfl, ?_⟩) (by assumption) ?_; rotate_left; focus (intro w hSw; (try dsimp only at hSw); go_simp; try with_reducible rfl); (try simp only [List.getElem_toArray, List.getElem_cons_succ, List.getElem_cons_zero, Act.put, List.setIfInBounds_toArray, List.set_cons_zero, List.set_cons_succ]))
    refine wpAnyH_done (by kernel_rfl) ?_ _
    clear hHeld
    go_wp2_with fail
    refine bodyPost_ret (v := .tuple #[.int .i64 V, .bool true]) (by simp [results, Try.results48, go_sem]) rfl ⟨by rw [HVV.out], H7.out.2⟩

set_option maxHeartbeats 3200000 in
set_option maxRecDepth 100000 in
theorem specCan_any (t wn : Int) (l : List Rs) (ad : Option Addr) (c : Nat) (team : Int) (w : World) (hl : (l.length : Int) ≤ 1000000000000) (hlc : l.length ≤ c) (hr : Reads w ad (ress l)) :
    Calls Try.prog 46 #[.agg #[.int .i64 t, .int .i64 wn, .slice ad l.length c], .int .i64 team] w fun e w' => e = .returned (.tuple #[.bool (decide (0 < firstV t wn l team)), .bool (openL t wn l team)]) ∧ Below w.heap.size w w' := by
  have H0 := Lib.hid (BoxS.new w t wn (.slice ad l.length c))
  have HG := Lib.hid (lgOpen_any t wn l ad c team _ hl hlc (hr.old H0.out.2))
  have HR := Lib.hid hr; clear hr
  cases ho : openL t wn l team
  · have hv2 : firstV t wn l team = 0 := by unfold firstV; rw [ho]; rfl
    rw [ho] at HG; rw [hv2]; clear ho hv2
    go_enter Try.func46, Try.ntmps46
    go_wp2_with fail
    refine HG.out.mono ?_; rintro e w1 ⟨rfl, b1⟩
    have H1 := Lib.hid (H0.out.keep b1); clear b1 H0
    go_wp2_with fail
    refine bodyPost_ret (v := .tuple #[.bool false, .bool false]) (by simp [results, Try.results46, go_sem]) rfl ⟨by first | rfl | simp, H1.out.2⟩
  · have ho2 := ho
    simp only [openL, Bool.and_eq_true, decide_eq_true_eq] at ho2
    obtain ⟨hg, h7⟩ := ho2
    obtain ⟨hgd, m0, m1⟩ := teamL_good hg
    obtain ⟨t2, t8, hw2, hw3, h56⟩ := goodL_bd hgd
    obtain ⟨T, rfl⟩ : ∃ T : Nat, t = T := ⟨t.toNat, by omega⟩
    obtain ⟨M, rfl⟩ : ∃ M : Nat, team = M := ⟨team.toNat, by omega⟩
    rw [Int.toNat_natCast] at h7
    have hv2 : firstV T wn l M = waysN T wn M (leftL T l) (fun i => ptsT wn l i) := by unfold firstV; rw [ho, Int.toNat_natCast]; rfl
    have HP := Lib.hid (fun W (hb : Below w.heap.size w W) => lgPoints_any T wn l hgd ad c W (HR.out.old hb))
    have HL := Lib.hid (fun W (hb : Below w.heap.size w W) => lgLeft_any T (by omega) wn l ad c W hl (HR.out.old hb))
    have HCF := Lib.hid (fun g cp a c hcp hc W hp hlf => lgFirsts_any T (by omega) (by omega) wn hw2 hw3 M (by omega) (leftL T l) (by omega) (left_good T l) (fun i => ptsT wn l i) (fun i _ _ => pts_small ⟨hw2, hw3⟩ l h56 (by omega) i) g cp a c hcp hc W hp hlf)
    rw [ho] at HG; rw [hv2]; clear ho hv2 hg hgd
    generalize leftL T l = L at *
    go_enter Try.func46, Try.ntmps46
    go_wp2_with fail
    refine HG.out.mono ?_; rintro e w1 ⟨rfl, b1⟩
    have H1 := Lib.hid (H0.out.keep b1); clear b1 H0 HG
    obtain ⟨p0, p1, p2, -⟩ := H1.out.full
    go_wp2_with fail
    clear p0 p1 p2
    have H1d := Lib.hid H1.out.drew
    refine wp_region_held_drew (S := fun w' => w'.cell? ⟨w.heap.size, 0, none⟩ = some (.int .i64 T) ∧ w'.cell? ⟨w.heap.size, 1, none⟩ = some (.int .i64 wn) ∧ w'.cell? ⟨w.heap.size, 2, none⟩ = some (.slice ad l.length c) ∧ BoxS w T wn (.slice ad l.length c) w') (by kernel_rfl) H1d.out.full (fun hHeld => ?_)
    (refine wpAnyH_take (i := 0) (v := ?_) rfl (by kernel_rfl) (by kernel_rfl) (by kernel_rfl) (fun _ _ _ h => h) (Or.inl ⟨by kernel_rfl, ?_⟩) (by assumption) ?_; rotate_left; focus (intro w hSw; (try dsimp only at hSw); go_simp; try with_reducible rfl); (try simp only [List.getElem_toArray, List.getElem_cons_succ, List.getElem_cons_zero, Act.put, List.setIfInBounds_toArray, List.set_cons_zero, List.set_cons_succ])); (refine wpAnyH_take (i := 2) (v := ?_) rfl (by kernel_rfl) (by kernel_rfl) (by kernel_rfl) (fun _ _ _ h => h) (Or.inl ⟨by kernel_rfl, ?_⟩) (by assumption) ?_; rotate_left; focus (intro w hSw; (try dsimp only at hSw); go_simp; try with_reducible rfl); (try simp only [List.getElem_toArray, List.getElem_cons_succ, List.getElem_cons_zero, Act.put, List.setIfInBounds_toArray, List.set_cons_zero, List.set_cons_succ])); (refine wpAnyH_take (i := 3) (v := ?_) rfl (by kernel_rfl) (by kernel_rfl) (by kernel_rfl) (fun _ _ _ h => h) (Or.inl ⟨by kernel_rfl, ?_⟩) (by assumption) ?_; rotate_left; focus (intro w hSw; (try dsimp only at hSw); go_simp; try with_reducible rfl); (try simp only [List.getElem_toArray, List.getElem_cons_succ, List.getElem_cons_zero, Act.put, List.setIfInBounds_toArray, List.set_cons_zero, List.set_cons_succ])); (refine wpAnyH_take (i := 4) (v := ?_) rfl (by kernel_rfl) (by kernel_rfl) (by kernel_rfl) (fun _ _ _ h => h) (Or.inl ⟨by kernel_rfl, ?_⟩) (by assumption) ?_; rotate_left; focus (intro w hSw; (try dsimp only at hSw); go_simp; try with_reducible rfl); (try simp only [List.getElem_toArray, List.getElem_cons_succ, List.getElem_cons_zero, Act.put, List.setIfInBounds_toArray, List.set_cons_zero, List.set_cons_succ])); (refine wpAnyH_take (i := 6) (v := ?_) rfl (by kernel_rfl) (by kernel_rfl) (by kernel_rfl) (fun _ _ _ h => h) (Or.inl ⟨by kernel_rfl, ?_⟩) (by assumption) ?_; rotate_left; focus (intro w hSw; (try dsimp only at hSw); go_simp; try with_reducible rfl); (try simp only [List.getElem_toArray, List.getElem_cons_succ, List.getElem_cons_zero, Act.put, List.setIfInBounds_toArray, List.set_cons_zero, List.set_cons_succ]))
    refine wpAnyH_ready (rs := [1]) (by kernel_rfl) (by simp) ?_; refine AllReadyH.cons rfl (fun K hK => ?_) AllReadyH.nil
    go_simp
    go_at_call 75
    refine (HP.out _ H1d.out.2).mono ?_; rintro e w5 ⟨g, rfl, hge, hrow, b5⟩
    have H5 := Lib.hid (And.intro (H1d.out.keep b5) (PtR.ofRow hrow)); clear b5 H1d H1 hHeld hrow hge HP
    go_wp2_with fail
    first
      | refine hK.out _ _ H5.out.1.full (fun hHeld => ?_)
      | refine hK _ _ H5.out.1.full (fun hHeld => ?_)
    clear hK K
    (try simp only [List.getElem_toArray, List.getElem_cons_succ, List.getElem_cons_zero, Act.put, List.setIfInBounds_toArray, List.set_cons_zero, List.set_cons_succ])
    refine wpAnyH_ready (rs := [5]) (by kernel_rfl) (by simp) ?_; refine AllReadyH.cons rfl (fun K hK => ?_) AllReadyH.nil
    go_simp
    go_at_call 88
    refine (HL.out _ H5.out.1.2).mono ?_; rintro e w6 ⟨v, rfl, hp, b6⟩
    obtain ⟨a3, c3, rfl, hc3, hlf⟩ := LfR.ofPair hp
    have H6 := Lib.hid (And.intro (H5.out.1.keep b6) (And.intro (H5.out.2.keep b6) hlf)); clear b6 H5 hHeld hp hlf HL
    go_wp2_with fail
    first
      | refine hK.out _ _ H6.out.1.full (fun hHeld => ?_)
      | refine hK _ _ H6.out.1.full (fun hHeld => ?_)
    clear hK K
    (try simp only [List.getElem_toArray, List.getElem_cons_succ, List.getElem_cons_zero, Act.put, List.setIfInBounds_toArray, List.set_cons_zero, List.set_cons_succ])
    refine wpAnyH_ready (rs := [7]) (by kernel_rfl) (by simp) ?_; refine AllReadyH.cons rfl (fun K hK => ?_) AllReadyH.nil
    go_simp
    go_at_call 91
    refine (HCF.out g T a3 c3 (Nat.le_refl _) hc3 _ H6.out.2.1 H6.out.2.2).mono ?_; rintro e w7 ⟨rfl, b7⟩
    have H7 := Lib.hid (H6.out.1.keep b7); clear b7 H6 hHeld HCF
    generalize hVV : waysN T wn M L (fun i => ptsT wn l i) = V at *
    have HVV := Lib.hid hVV; clear hVV
    go_wp2_with fail
    first
      | refine hK.out _ _ H7.out.full (fun hHeld => ?_)
      | refine hK _ _ H7.out.full (fun hHeld => ?_)
    clear hK K
    (try simp only [List.getElem_toArray, List.getElem_cons_succ, List.getElem_cons_zero, Act.put, List.setIfInBounds_toArray, List.set_cons_zero, List.set_cons_succ])
    (refine wpAnyH_take (i := 8) (v := ?_) rfl (by kernel_rfl) (by kernel_rfl) (by kernel_rfl) (fun _ _ _ h => h) (Or.inl ⟨by kernel_rfl, ?_⟩) (by assumption) ?_; rotate_left; focus (intro w hSw; (try dsimp only at hSw); go_simp; try with_reducible rfl); (try simp only [List.getElem_toArray, List.getElem_cons_succ, List.getElem_cons_zero, Act.put, List.setIfInBounds_toArray, List.set_cons_zero, List.set_cons_succ])); (refine wpAnyH_take (i := 9) (v := ?_) rfl (by kernel_rfl) (by kernel_rfl) (by kernel_rfl) (fun _ _ _ h => h) (Or.inl ⟨by kernel_rfl, ?_⟩) (by assumption) ?_; rotate_left; focus (intro w hSw; (try dsimp only at hSw); go_simp; try with_reducible rfl); (try simp only [List.getElem_toArray, List.getElem_cons_succ, List.getElem_cons_zero, Act.put, List.setIfInBounds_toArray, List.set_cons_zero, List.set_cons_succ])); (refine wpAnyH_take (i := 10) (v := ?_) rfl (by kernel_rfl) (by kernel_rfl) (by kernel_rfl) (fun _ _ _ h => h) (Or.inl ⟨by kernel_rfl, ?_⟩) (by assumption) ?_; rotate_left; focus (intro w hSw; (try dsimp only at hSw); go_simp; try with_reducible rfl); (try simp only [List.getElem_toArray, List.getElem_cons_succ, List.getElem_cons_zero, Act.put, List.setIfInBounds_toArray, List.set_cons_zero, List.set_cons_succ]))
    refine wpAnyH_done (by kernel_rfl) ?_ _
    clear hHeld
    go_wp2_with fail
    refine bodyPost_ret (v := .tuple #[.bool (decide (0 < V)), .bool true]) (by simp [results, Try.results46, go_sem]) rfl ⟨by rw [HVV.out], H7.out.2⟩

end Go.Proofs.Ytpfphjfpaoiicaa
