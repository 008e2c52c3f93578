/-
  Puzzles: the points left by clues, the best clue: both sides.
-/
import Derived.Test.YtcigighklghjkaaDoorPzNeedA
namespace Go.Proofs.YtcigighklghjkaaDoor
open Go.RowKit
set_option linter.unusedVariables false
set_option linter.unusedSimpArgs false

theorem goodP_part {p : Int} {l : List Cl} (h : goodP p l = true) {i j : Nat} (hj : j ≤ l.length) : goodP p (partL l i j) = true := by
  obtain ⟨h1, h2, h3⟩ := goodP_bd h
  exact goodP_of h1 (by rw [partL_len hj]; omega) (goodCs_sub h3 (fun c hc => List.mem_of_mem_take (List.mem_of_mem_drop hc)))
theorem implCnt_any {pn : Nat} {m : List Cl} (hg : goodP pn m = true) (a : Option Addr) (n c : Nat) (pe0 pe1 : Addr) (w : World) (hn : m.length = n) (hr : Reads w a (clus m)) (hd : PzDoor w pe0 pe1) :
    Calls Tryd.prog 27 #[.agg #[.int .i64 pn, .slice a n c]] w fun e w' => e = .returned (.tuple #[.int .i64 (cntC pn m), .bool true]) ∧ Below w.heap.size w w' := by
  subst hn
  have h6 := (goodP_bd hg).2.1
  have := implCount_any pn m a c pe0 pe1 w (by omega) hr hd
  rw [count_is hg, hg] at this
  exact this
theorem pzCnt_any {pn : Nat} {m : List Cl} (hg : goodP pn m = true) (a : Option Addr) (n c : Nat) (w : World) (hn : m.length = n) (hr : Reads w a (clus m)) :
    Calls Tryd.prog 56 #[.int .i64 pn, .slice a n c] w fun e w' => ∃ a' c', e = .returned (.slice a' (cntC pn m) c') ∧ Below w.heap.size w w' := by
  subst hn
  obtain ⟨h1, h2, h3⟩ := goodP_bd hg
  refine (pzAll_any pn m a c w (by omega) h2 h3 hr).mono ?_
  rintro e w' ⟨v, rfl, h⟩
  obtain ⟨a, c', rfl, -, -, -⟩ := own_cap h.1
  exact ⟨a, c', rfl, h.2⟩
theorem run_mid (ad : Option Addr) (n c i j : Nat) (hi : i ≤ j) (hj : j ≤ c) (W : World) :
    (Instr.slice 36 (.slice ad n c) (some (.int .i64 (i : Int))) (some (.int .i64 (j : Int))) none).run Tryd.prog W = .ok (.slice (cutA ad i c) (j - i) (c - i)) W := by
  obtain ⟨i0, hi0, -, -, -⟩ := info_parts infoClue
  have h1 := run_sizeOf (P := Tryd.prog) (w := W) hi0
  rw [show Tryd.prog.cellsOf 26 = 3 from by kernel_rfl] at h1
  have e1 : (0 : Int) ≤ (i : Int) := by omega
  have e2 : (0 : Int) ≤ (j : Int) := by omega
  have e3 : (i : Int) ≤ (j : Int) := by omega
  have e4 : (j : Int) ≤ (c : Int) := by omega
  simp [Instr.slice, run_underlying Tryd.underlying36, Instr.sliceBounds, run_sliceBound, h1, e1, e2, e3, e4, hi, hj, cutA]
theorem reads_mid {w : World} {ad : Option Addr} {l : List Cl} (h : Reads w ad (clus l)) {i j c : Nat} (hi : i ≤ j) (hj : j ≤ l.length) (hc : l.length ≤ c) : Reads w (cutA ad i c) (clus (partL l i j)) := by
  by_cases e : j = i
  · left
    have : partL l i j = [] := by unfold partL; rw [e]; exact List.drop_of_length_le (by rw [List.length_take]; omega)
    rw [this]; rfl
  · have h2 := reads_cut h (i := i) (j := j) hi hj
    unfold cutA at h2 ⊢
    rw [if_neg e] at h2
    rw [if_neg (by omega)]; exact h2

/-- The best clue of the first so many: its index, and how many points fit it. -/
def bestC (pn : Nat) (l : List Cl) : Nat → Nat × Nat
  | 0 => (0, 0)
  | k + 1 => if k = 0 ∨ cntC pn (partL l k (k + 1)) < (bestC pn l k).2 then (k, cntC pn (partL l k (k + 1))) else bestC pn l k
theorem bestC_succ (pn : Nat) (l : List Cl) (k : Nat) : bestC pn l (k + 1) = if k = 0 ∨ cntC pn (partL l k (k + 1)) < (bestC pn l k).2 then (k, cntC pn (partL l k (k + 1))) else bestC pn l k := rfl
def bestOk (p : Int) (l : List Cl) : Bool := goodP p l && decide (0 < l.length)
def bestO (p : Int) (l : List Cl) : Nat := if bestOk p l then (bestC p.toNat l l.length).1 else 0

set_option maxHeartbeats 800000 in
set_option maxRecDepth 100000 in
theorem implBest_any (p : Int) (l : List Cl) (ad : Option Addr) (c : Nat) (pe0 pe1 : Addr) (w : World) (hl : (l.length : Int) ≤ 1000000000000) (hlc : l.length ≤ c) (hr : Reads w ad (clus l)) (hd : PzDoor w pe0 pe1) :
    Calls Tryd.prog 42 #[.agg #[.int .i64 p, .slice ad l.length c]] w fun e w' => e = .returned (.tuple #[.int .i64 (bestO p l), .bool (bestOk p l)]) ∧ Below w.heap.size w w' := by
  have T0 := Lib.hid (PzB.new w p (.slice ad l.length c))
  obtain ⟨p0, p1, -⟩ := T0.out.full
  have HG := Lib.hid (fun W (hb : Below w.heap.size w W) => isPuzzle_any p l ad c W hl (hr.old hb))
  cases hg : goodP p l
  · have hs : bestOk p l = false := by unfold bestOk; rw [hg]; rfl
    have hs2 : bestO p l = 0 := by unfold bestO; rw [hs]; rfl
    rw [hg] at HG
    rw [hs, hs2]; clear hs hs2 hg hr hd
    go_enter Tryd.func42, Tryd.ntmps42
    go_wp2_with fail
    refine (HG.out _ T0.out.2).mono ?_; rintro e w1 ⟨rfl, b1⟩
    have T1 := Lib.hid (T0.out.keep b1); clear b1 p0 p1
    go_wp2_with fail
    refine bodyPost_ret (v := .tuple #[.int .i64 0, .bool false]) ?_ rfl ⟨rfl, T1.out.2⟩
    simp [results, Tryd.results42, go_sem, *]
  · by_cases h0 : l.length = 0
    · have hs : bestOk p l = false := by unfold bestOk; rw [h0]; simp
      have hs2 : bestO p l = 0 := by unfold bestO; rw [hs]; rfl
      rw [hg] at HG
      rw [hs, hs2]; clear hs hs2 hg hr hd
      obtain rfl : l = [] := List.length_eq_zero_iff.1 h0
      clear h0 hl hlc
      simp only [List.length_nil] at *
      go_enter Tryd.func42, Tryd.ntmps42
      go_wp2_with fail
      refine (HG.out _ T0.out.2).mono ?_; rintro e w1 ⟨rfl, b1⟩
      have T1 := Lib.hid (T0.out.keep b1); clear b1 p0 p1
      obtain ⟨p0, p1, -⟩ := T1.out.full
      go_wp2_with fail
      refine bodyPost_ret (v := .tuple #[.int .i64 0, .bool false]) ?_ rfl ⟨rfl, T1.out.2⟩
      simp [results, Tryd.results42, go_sem, *]
    · obtain ⟨hp, h6, hgc⟩ := goodP_bd hg
      obtain ⟨pn, rfl⟩ : ∃ pn : Nat, p = pn := ⟨p.toNat, by omega⟩
      have hs : bestOk pn l = true := by unfold bestOk; rw [hg]; simp; omega
      have hs2 : bestO pn l = (bestC pn l l.length).1 := by unfold bestO; rw [hs]; rfl
      have HCN : Hid (∀ (k : Nat) (hk : k < l.length) W (hb : Below w.heap.size w W), Calls Tryd.prog 27 #[.agg #[.int .i64 pn, .slice (cutA ad k (k + 1)) (k + 1 - k) (k + 1 - k)]] W fun e w' => e = .returned (.tuple #[.int .i64 (cntC pn (partL l k (k + 1))), .bool true]) ∧ Below W.heap.size W w') := fun k hk W hb =>
        implCnt_any (goodP_part hg (by omega)) _ _ _ pe0 pe1 W (partL_len (by omega)) (reads_cut (hr.old hb) (by omega) (by omega)) (hd.keep hb)
      have HBN := Lib.hid (fun k => bestC_succ pn l k)
      rw [hg] at HG
      rw [hs, hs2]; clear hs hs2 hg hr hd hgc
      have h0i : ¬ (l.length : Int) = 0 := by omega
      have h0b : ((l.length : Int) == 0) = false := by simpa using h0
      go_enter Tryd.func42, Tryd.ntmps42
      go_wp2_with fail
      refine (HG.out _ T0.out.2).mono ?_; rintro e w1 ⟨rfl, b1⟩
      have T1 := Lib.hid (T0.out.keep b1); clear b1 p0 p1
      obtain ⟨p0, p1, -⟩ := T1.out.full
      go_wp2_with fail
      go_loopw [4, 5, 21] (fun b f i wq => ∃ k : Nat, i = .int .i64 k ∧ k ≤ l.length ∧ b = .int .i64 (bestC pn l k).1 ∧ f = .int .i64 (bestC pn l k).2 ∧ Hid (PzB w pn (.slice ad l.length c) wq)) (fun _ _ i _ => l.length - (intOf i).toNat)
      case atStart => exact ⟨0, rfl, Nat.zero_le _, rfl, rfl, T1.out⟩
      case round =>
        obtain ⟨k, rfl, hk, rfl, rfl, HJ⟩ := hrel
        by_cases hlt : k < l.length
        · have b2 : (k : Int) < (l.length : Int) := by omega
          clear p0 p1
          obtain ⟨p0, p1, -⟩ := HJ.out.full
          have HC := Lib.hid (HCN.out k hlt)
          have hst := HBN.out k
          have hcut := cut_any (pn : Int) ad l.length c k (k + 1) wr (by omega) (by omega) hlc
          have hk1 : IntKind.i64.wrap ((k : Int) + 1) = ((k + 1 : Nat) : Int) := by rw [IntKind.wrap_i64]; omega
          have HCT := Lib.hid hcut; clear hcut
          generalize cntC pn (partL l k (k + 1)) = n1 at *
          obtain ⟨M, hM⟩ : ∃ M, M = k + 1 := ⟨_, rfl⟩
          rw [← hM] at hk1 HCT HC
          have hk2 : (k : Int) + 1 = (M : Int) := by omega
          have hk3 : IntKind.i64.wrap (M : Int) = (M : Int) := by rw [IntKind.wrap_i64]; omega
          have HM := Lib.hid hM; clear hM
          generalize hF : bestC pn l k = F at *
          by_cases hq : k = 0 ∨ n1 < F.2
          · rw [if_pos hq] at hst
            have HST := Lib.hid hst; clear hst
            go_wp2_with fail
            refine HCT.out.mono ?_; rintro e w2 ⟨rfl, b2'⟩
            have K2 := Lib.hid (HJ.out.keep b2'); clear b2'
            go_wp2_with fail
            refine (HC.out _ K2.out.2).mono ?_; rintro e w3 ⟨rfl, b3⟩
            have K3 := Lib.hid (K2.out.keep b3); clear b3 p0 p1
            by_cases hk0 : k = 0
            · have hk0i : (k : Int) = 0 := by omega
              go_wp2_with fail
              go_roundw
              case rel => exact ⟨M, by first | rfl | go_num, by have := HM.out; omega, by rw [HM.out, HST.out]; try simp [*], by rw [HM.out, HST.out], K3⟩
              case measure => have := HM.out; simp [intOf]; omega
            · have hk0i : ¬ (k : Int) = 0 := by omega
              have hlt2 : (n1 : Int) < (F.2 : Int) := by omega
              have hltn : n1 < F.2 := by omega
              go_wp2_with fail
              go_roundw
              case rel => exact ⟨M, by first | rfl | go_num, by have := HM.out; omega, by rw [HM.out, HST.out]; try simp [*], by rw [HM.out, HST.out], K3⟩
              case measure => have := HM.out; simp [intOf]; omega
          · rw [if_neg hq] at hst
            have HST := Lib.hid hst; clear hst
            have hk0i : ¬ (k : Int) = 0 := by omega
            have hlt2 : ¬ (n1 : Int) < (F.2 : Int) := by omega
            have hltn : ¬ n1 < F.2 := by omega
            have hk0n : ¬ k = 0 := by omega
            go_wp2_with fail
            refine HCT.out.mono ?_; rintro e w2 ⟨rfl, b2'⟩
            have K2 := Lib.hid (HJ.out.keep b2'); clear b2'
            go_wp2_with fail
            refine (HC.out _ K2.out.2).mono ?_; rintro e w3 ⟨rfl, b3⟩
            have K3 := Lib.hid (K2.out.keep b3); clear b3 p0 p1
            go_wp2_with fail
            go_roundw
            case rel => exact ⟨M, by first | rfl | go_num, by have := HM.out; omega, by rw [HM.out, HST.out]; try simp [*], by rw [HM.out, HST.out], K3⟩
            case measure => have := HM.out; simp [intOf]; omega
        · obtain rfl : k = l.length := by omega
          go_wp2_with fail
          refine bodyPost_ret (v := .tuple #[.int .i64 (bestC pn l l.length).1, .bool true]) ?_ rfl ⟨rfl, HJ.out.2⟩
          simp [results, Tryd.results42, go_sem, *]

set_option maxHeartbeats 800000 in
set_option maxRecDepth 100000 in
theorem specBest_any (p : Int) (l : List Cl) (ad : Option Addr) (c : Nat) (w : World) (hl : (l.length : Int) ≤ 1000000000000) (hlc : l.length ≤ c) (hr : Reads w ad (clus l)) :
    Calls Tryd.prog 41 #[.agg #[.int .i64 p, .slice ad l.length c]] w fun e w' => e = .returned (.tuple #[.int .i64 (bestO p l), .bool (bestOk p l)]) ∧ Below w.heap.size w w' := by
  have T0 := Lib.hid (PzB.new w p (.slice ad l.length c))
  obtain ⟨p0, p1, -⟩ := T0.out.full
  have HG := Lib.hid (fun W (hb : Below w.heap.size w W) => pzGood_any p l ad c W hl (hr.old hb))
  cases hg : goodP p l
  · have hs : bestOk p l = false := by unfold bestOk; rw [hg]; rfl
    have hs2 : bestO p l = 0 := by unfold bestO; rw [hs]; rfl
    rw [hg] at HG
    rw [hs, hs2]; clear hs hs2 hg hr
    go_enter Tryd.func41, Tryd.ntmps41
    go_wp2_with fail
    refine (HG.out _ T0.out.2).mono ?_; rintro e w1 ⟨rfl, b1⟩
    have T1 := Lib.hid (T0.out.keep b1); clear b1 p0 p1
    go_wp2_with fail
    refine bodyPost_ret (v := .tuple #[.int .i64 0, .bool false]) ?_ rfl ⟨rfl, T1.out.2⟩
    simp [results, Tryd.results41, go_sem, *]
  · by_cases h0 : l.length = 0
    · have hs : bestOk p l = false := by unfold bestOk; rw [h0]; simp
      have hs2 : bestO p l = 0 := by unfold bestO; rw [hs]; rfl
      rw [hg] at HG
      rw [hs, hs2]; clear hs hs2 hg hr
      obtain rfl : l = [] := List.length_eq_zero_iff.1 h0
      clear h0 hl hlc
      simp only [List.length_nil] at *
      go_enter Tryd.func41, Tryd.ntmps41
      go_wp2_with fail
      refine (HG.out _ T0.out.2).mono ?_; rintro e w1 ⟨rfl, b1⟩
      have T1 := Lib.hid (T0.out.keep b1); clear b1 p0 p1
      obtain ⟨p0, p1, -⟩ := T1.out.full
      go_wp2_with fail
      refine bodyPost_ret (v := .tuple #[.int .i64 0, .bool false]) ?_ rfl ⟨rfl, T1.out.2⟩
      simp [results, Tryd.results41, go_sem, *]
    · obtain ⟨hp, h6, hgc⟩ := goodP_bd hg
      obtain ⟨pn, rfl⟩ : ∃ pn : Nat, p = pn := ⟨p.toNat, by omega⟩
      have hs : bestOk pn l = true := by unfold bestOk; rw [hg]; simp; omega
      have hs2 : bestO pn l = (bestC pn l l.length).1 := by unfold bestO; rw [hs]; rfl
      have HCN : Hid (∀ (k : Nat) (hk : k < l.length) W (hb : Below w.heap.size w W), Calls Tryd.prog 56 #[.int .i64 pn, .slice (cutA ad k c) (k + 1 - k) (c - k)] W fun e w' => ∃ a' c', e = .returned (.slice a' (cntC pn (partL l k (k + 1))) c') ∧ Below W.heap.size W w') := fun k hk W hb =>
        pzCnt_any (goodP_part hg (by omega)) _ _ _ W (partL_len (by omega)) (reads_mid (hr.old hb) (by omega) (by omega) hlc)
      have HBN := Lib.hid (fun k => bestC_succ pn l k)
      rw [hg] at HG
      rw [hs, hs2]; clear hs hs2 hg hr hgc
      have h0i : ¬ (l.length : Int) = 0 := by omega
      have h0b : ((l.length : Int) == 0) = false := by simpa using h0
      go_enter Tryd.func41, Tryd.ntmps41
      go_wp2_with fail
      refine (HG.out _ T0.out.2).mono ?_; rintro e w1 ⟨rfl, b1⟩
      have T1 := Lib.hid (T0.out.keep b1); clear b1 p0 p1
      obtain ⟨p0, p1, -⟩ := T1.out.full
      go_wp2_with fail
      go_loopw [4, 5, 20] (fun b f i wq => ∃ k : Nat, i = .int .i64 k ∧ k ≤ l.length ∧ b = .int .i64 (bestC pn l k).1 ∧ f = .int .i64 (bestC pn l k).2 ∧ Hid (PzB w pn (.slice ad l.length c) wq)) (fun _ _ i _ => l.length - (intOf i).toNat)
      case atStart => exact ⟨0, rfl, Nat.zero_le _, rfl, rfl, T1.out⟩
      case round =>
        obtain ⟨k, rfl, hk, rfl, rfl, HJ⟩ := hrel
        by_cases hlt : k < l.length
        · have b2 : (k : Int) < (l.length : Int) := by omega
          clear p0 p1
          have KD := Lib.hid (HJ.out.keep (Below.drew (Below.refl wr.heap.size wr)))
          have HC := Lib.hid (HCN.out k hlt _ KD.out.2)
          have hst := HBN.out k
          have hk1 : IntKind.i64.wrap ((k : Int) + 1) = ((k + 1 : Nat) : Int) := by rw [IntKind.wrap_i64]; omega
          have hsl := run_mid ad l.length c k (k + 1) (by omega) (by omega)
          generalize cntC pn (partL l k (k + 1)) = n1 at *
          obtain ⟨M, hM⟩ : ∃ M, M = k + 1 := ⟨_, rfl⟩
          rw [← hM] at hk1 HC hsl
          have hk2 : (k : Int) + 1 = (M : Int) := by omega
          have hk3 : IntKind.i64.wrap (M : Int) = (M : Int) := by rw [IntKind.wrap_i64]; omega
          have HM := Lib.hid hM; clear hM
          generalize hF : bestC pn l k = F at *
          go_wp2_with fail
          refine wp_region_held_drew (S := fun wi => wi.cell? ⟨w.heap.size, 0, none⟩ = some (.int .i64 pn) ∧ wi.cell? ⟨w.heap.size, 1, none⟩ = some (.slice ad l.length c)) (by kernel_rfl) ⟨KD.out.full.1, KD.out.full.2.1⟩ (fun hHeld => ?_)
          (refine wpAnyH_take (i := 0) (v := ?_) rfl (by kernel_rfl) (by kernel_rfl) (by kernel_rfl) (fun _ _ _ h => h) (Or.inl ⟨by kernel_rfl, ?_⟩) (by assumption) ?_; rotate_left; focus (intro w hSw; (try dsimp only at hSw); go_simp; try with_reducible rfl); (try simp only [List.getElem_toArray, List.getElem_cons_succ, List.getElem_cons_zero, Act.put, List.setIfInBounds_toArray, List.set_cons_zero, List.set_cons_succ])); (refine wpAnyH_take (i := 1) (v := ?_) rfl (by kernel_rfl) (by kernel_rfl) (by kernel_rfl) (fun _ _ _ h => h) (Or.inl ⟨by kernel_rfl, ?_⟩) (by assumption) ?_; rotate_left; focus (intro w hSw; (try dsimp only at hSw); go_simp; try with_reducible rfl); (try simp only [List.getElem_toArray, List.getElem_cons_succ, List.getElem_cons_zero, Act.put, List.setIfInBounds_toArray, List.set_cons_zero, List.set_cons_succ])); (refine wpAnyH_take (i := 2) (v := ?_) rfl (by kernel_rfl) (by kernel_rfl) (by kernel_rfl) (fun _ _ _ h => h) (Or.inl ⟨by kernel_rfl, ?_⟩) (by assumption) ?_; rotate_left; focus (intro w hSw; (try dsimp only at hSw); go_simp; try with_reducible rfl); (try simp only [List.getElem_toArray, List.getElem_cons_succ, List.getElem_cons_zero, Act.put, List.setIfInBounds_toArray, List.set_cons_zero, List.set_cons_succ])); (refine wpAnyH_take (i := 3) (v := ?_) rfl (by kernel_rfl) (by kernel_rfl) (by kernel_rfl) (fun _ _ _ h => h) (Or.inl ⟨by kernel_rfl, ?_⟩) (by assumption) ?_; rotate_left; focus (intro w hSw; (try dsimp only at hSw); go_simp; try with_reducible rfl); (try simp only [List.getElem_toArray, List.getElem_cons_succ, List.getElem_cons_zero, Act.put, List.setIfInBounds_toArray, List.set_cons_zero, List.set_cons_succ])); (refine wpAnyH_take (i := 4) (v := ?_) rfl (by kernel_rfl) (by kernel_rfl) (by kernel_rfl) (fun _ _ _ h => h) (Or.inl ⟨by kernel_rfl, ?_⟩) (by assumption) ?_; rotate_left; focus (intro w hSw; (try dsimp only at hSw); go_simp; try with_reducible rfl); (try simp only [List.getElem_toArray, List.getElem_cons_succ, List.getElem_cons_zero, Act.put, List.setIfInBounds_toArray, List.set_cons_zero, List.set_cons_succ])); (refine wpAnyH_take (i := 5) (v := ?_) rfl (by kernel_rfl) (by kernel_rfl) (by kernel_rfl) (fun _ _ _ h => h) (Or.inl ⟨by kernel_rfl, ?_⟩) (by assumption) ?_; rotate_left; focus (intro w hSw; (try dsimp only at hSw); go_simp; try with_reducible rfl); (try simp only [List.getElem_toArray, List.getElem_cons_succ, List.getElem_cons_zero, Act.put, List.setIfInBounds_toArray, List.set_cons_zero, List.set_cons_succ])); (refine wpAnyH_take (i := 6) (v := ?_) rfl (by kernel_rfl) (by kernel_rfl) (by kernel_rfl) (fun _ _ _ h => h) (Or.inl ⟨by kernel_rfl, ?_⟩) (by assumption) ?_; rotate_left; focus (intro w hSw; (try dsimp only at hSw); go_simp; try with_reducible rfl); (try simp only [List.getElem_toArray, List.getElem_cons_succ, List.getElem_cons_zero, Act.put, List.setIfInBounds_toArray, List.set_cons_zero, List.set_cons_succ])); (refine wpAnyH_take (i := 7) (v := ?_) rfl (by kernel_rfl) (by kernel_rfl) (by kernel_rfl) (fun _ _ _ h => h) (Or.inl ⟨by kernel_rfl, ?_⟩) (by assumption) ?_; rotate_left; focus (intro w hSw; (try dsimp only at hSw); go_simp; try with_reducible rfl); (try simp only [List.getElem_toArray, List.getElem_cons_succ, List.getElem_cons_zero, Act.put, List.setIfInBounds_toArray, List.set_cons_zero, List.set_cons_succ]))
          refine wpAnyH_ready (rs := [8]) (by kernel_rfl) (by simp) ?_; refine AllReadyH.cons rfl (fun K hK => ?_) AllReadyH.nil
          go_simp
          go_at_call 56
          refine HC.out.mono ?_; rintro e w3 ⟨ra3, rc3, rfl, b3⟩
          have K3 := Lib.hid (KD.out.keep b3); clear b3 hHeld
          go_wp2_with fail
          first
            | refine hK.out _ _ ⟨K3.out.full.1, K3.out.full.2.1⟩ (fun hHeld => ?_)
            | refine hK _ _ ⟨K3.out.full.1, K3.out.full.2.1⟩ (fun hHeld => ?_)
          clear hK K
          (try simp only [List.getElem_toArray, List.getElem_cons_succ, List.getElem_cons_zero, Act.put, List.setIfInBounds_toArray, List.set_cons_zero, List.set_cons_succ])
          (refine wpAnyH_take (i := 9) (v := ?_) rfl (by kernel_rfl) (by kernel_rfl) (by kernel_rfl) (fun _ _ _ h => h) (Or.inl ⟨by kernel_rfl, ?_⟩) (by assumption) ?_; rotate_left; focus (intro w hSw; (try dsimp only at hSw); go_simp; try with_reducible rfl); (try simp only [List.getElem_toArray, List.getElem_cons_succ, List.getElem_cons_zero, Act.put, List.setIfInBounds_toArray, List.set_cons_zero, List.set_cons_succ])); (refine wpAnyH_take (i := 10) (v := ?_) rfl (by kernel_rfl) (by kernel_rfl) (by kernel_rfl) (fun _ _ _ h => h) (Or.inl ⟨by kernel_rfl, ?_⟩) (by assumption) ?_; rotate_left; focus (intro w hSw; (try dsimp only at hSw); go_simp; try with_reducible rfl); (try simp only [List.getElem_toArray, List.getElem_cons_succ, List.getElem_cons_zero, Act.put, List.setIfInBounds_toArray, List.set_cons_zero, List.set_cons_succ]))
          refine wpAnyH_done (by kernel_rfl) ?_ _
          clear hHeld
          by_cases hq : k = 0 ∨ n1 < F.2
          · rw [if_pos hq] at hst
            have HST := Lib.hid hst; clear hst
            by_cases hk0 : k = 0
            · have hk0i : (k : Int) = 0 := by omega
              go_wp2_with fail
              go_roundw
              case rel => exact ⟨M, by first | rfl | go_num, by have := HM.out; omega, by rw [HM.out, HST.out]; try simp [*], by rw [HM.out, HST.out], K3⟩
              case measure => have := HM.out; simp [intOf]; omega
            · have hk0i : ¬ (k : Int) = 0 := by omega
              have hlt2 : (n1 : Int) < (F.2 : Int) := by omega
              have hltn : n1 < F.2 := by omega
              go_wp2_with fail
              go_roundw
              case rel => exact ⟨M, by first | rfl | go_num, by have := HM.out; omega, by rw [HM.out, HST.out]; try simp [*], by rw [HM.out, HST.out], K3⟩
              case measure => have := HM.out; simp [intOf]; omega
          · rw [if_neg hq] at hst
            have HST := Lib.hid hst; clear hst
            have hk0i : ¬ (k : Int) = 0 := by omega
            have hlt2 : ¬ (n1 : Int) < (F.2 : Int) := by omega
            have hltn : ¬ n1 < F.2 := by omega
            have hk0n : ¬ k = 0 := by omega
            go_wp2_with fail
            go_roundw
            case rel => exact ⟨M, by first | rfl | go_num, by have := HM.out; omega, by rw [HM.out, HST.out]; try simp [*], by rw [HM.out, HST.out], K3⟩
            case measure => have := HM.out; simp [intOf]; omega
        · obtain rfl : k = l.length := by omega
          go_wp2_with fail
          refine bodyPost_ret (v := .tuple #[.int .i64 (bestC pn l l.length).1, .bool true]) ?_ rfl ⟨rfl, HJ.out.2⟩
          simp [results, Tryd.results41, go_sem, *]
end Go.Proofs.YtcigighklghjkaaDoor
