/-
  Leagues: the model's table.
-/
import Derived.Test.YthbkclgdoopbpaaLtSpA
namespace Go.Proofs.Ythbkclgdoopbpaa
open Go.RowKit
set_option linter.unusedVariables false
set_option linter.unusedSimpArgs false

theorem goalsTo_get (l : List Rs) {T j : Nat} (h : j < T) : (goalsTo l T).getD j (0, 0) = (forL (gamesL l j), agL (gamesL l j)) := by simp [goalsTo, h]
theorem ahead_rows {wn : Int} {l : List Rs} {T : Nat} (hgd : goodL T wn l = true) (g go cgo B : Nat) (W : World) (hp : RowAt W g 3 (ptsRow T wn l)) (hq : PairD B (goalsTo l T) (.slice (some ⟨go, 0, none⟩) T cgo) W) (a b : Nat) (ha : a < T) (hb : b < T) :
    Calls Try.prog 72 #[.slice (some ⟨g, 0, none⟩) T T, .slice (some ⟨go, 0, none⟩) T cgo, .int .i64 a, .int .i64 b] W fun e w' => e = .returned (.bool (decide ((ordL wn l).ahead a b))) ∧ Below W.heap.size W w' := by
  obtain ⟨-, t8, -, -, -⟩ := goodL_bd hgd
  obtain ⟨go1, cap1, ga, ca, e1, c1, f1, a1⟩ := hq.row (j := a) (by rw [goalsTo_len]; exact ha)
  obtain ⟨go2, cap2, gb, cb, e2, c2, f2, a2⟩ := hq.row (j := b) (by rw [goalsTo_len]; exact hb)
  simp only [Value.slice.injEq, Option.some.injEq, Addr.mk.injEq, and_true] at e1 e2
  obtain ⟨rfl, -, -⟩ := e1
  obtain ⟨rfl, -, -⟩ := e2
  rw [goalsTo_get l ha] at f1 a1
  rw [goalsTo_get l hb] at f2 a2
  have hpa := hp.cell (j := a) (by rw [ptsRow, rowF_len]; exact ha)
  have hpb := hp.cell (j := b) (by rw [ptsRow, rowF_len]; exact hb)
  rw [ptsRow, rowF_get ha] at hpa
  rw [ptsRow, rowF_get hb] at hpb
  exact lgAhead_any (ordL wn l) a b T g T go cgo ga ca gb cb ha hb (by omega) (goals_bd hgd a) (goals_bd hgd b) W hpa hpb c1 c2 f1 a1 f2 a2

/-- The model's table under way: the league's box, the points, the goals, the table so far. -/
def SpAt (w : World) (T : Nat) (wn : Int) (l : List Rs) (lv : Value) (g go cgo k : Nat) (v : Value) (wr : World) : Prop :=
  BoxS w T wn lv wr ∧ RowAt wr g 3 (ptsRow T wn l) ∧ PairD w.heap.size (goalsTo l T) (.slice (some ⟨go, 0, none⟩) T cgo) wr ∧ wr.ownsRow w.heap.size 3 1 v k (ints ((ordL wn l).tab k))
theorem SpAt.keep {w : World} {T : Nat} {wn : Int} {l : List Rs} {lv : Value} {g go cgo k : Nat} {v : Value} {wr w' : World} (h : SpAt w T wn l lv g go cgo k v wr) (hb : Below wr.heap.size wr w') : SpAt w T wn l lv g go cgo k v w' :=
  ⟨h.1.keep hb, h.2.1.keep hb, h.2.2.1.keep hb, owns_below h.2.2.2 hb⟩

set_option maxHeartbeats 6400000 in
set_option maxRecDepth 100000 in
theorem lgTable_any (T : Nat) (wn : Int) (l : List Rs) (hgd : goodL T wn l = true) (ad : Option Addr) (c : Nat) (w : World) (hr : Reads w ad (ress l)) :
    Calls Try.prog 48 #[.agg #[.int .i64 T, .int .i64 wn, .slice ad l.length c]] w fun e w' => ∃ v, e = .returned v ∧ w'.ownsRow w.heap.size 3 1 v T (ints ((ordL wn l).tab T)) ∧ Below w.heap.size w w' := by
  obtain ⟨t2, t8, hw2, hw3, h56⟩ := goodL_bd hgd
  have HB0 := Lib.hid (BoxS.new w T wn (.slice ad l.length c))
  have HP := Lib.hid (fun W (hb : Below w.heap.size w W) => lgPoints_any T wn l hgd ad c W (hr.old hb))
  have HQ := Lib.hid (fun W (hb : Below w.heap.size w W) => lgGoals_any T wn l hgd ad c W (hr.old hb))
  have HA := Lib.hid (fun g go cgo B W hp hq a b ha hb => ahead_rows hgd g go cgo B W hp hq a b ha hb)
  obtain ⟨i0, hi, hz0, hz1, hz2⟩ := info_parts infoInt
  have HI := Lib.hid (And.intro hi (And.intro hz0 (And.intro hz1 hz2))); clear hi hz0 hz1 hz2 hr hgd
  go_enter Try.func48, Try.ntmps48
  go_wp2_with fail
  refine wp_region_held_drew (S := fun W => BoxS w T wn (.slice ad l.length c) W ∧ W.cell? ⟨w.heap.size, 0, none⟩ = some (.int .i64 T) ∧ W.cell? ⟨w.heap.size, 1, none⟩ = some (.int .i64 wn) ∧ W.cell? ⟨w.heap.size, 2, none⟩ = some (.slice ad l.length c)) (by kernel_rfl) ⟨HB0.out.drew, HB0.out.full.1, HB0.out.full.2.1, HB0.out.full.2.2.1⟩ (fun hHeld => ?_)
  (refine wpAnyH_take (i := 0) (v := ?_) rfl (by kernel_rfl) (by kernel_rfl) (by kernel_rfl) (fun _ _ _ h => h) (Or.inl ⟨by kernel_rfl, ?_⟩) (by assumption) ?_; rotate_left; focus (intro w hSw; (try dsimp only at hSw); go_simp; try with_reducible rfl); (try simp only [List.getElem_toArray, List.getElem_cons_succ, List.getElem_cons_zero, Act.put, List.setIfInBounds_toArray, List.set_cons_zero, List.set_cons_succ])); (refine wpAnyH_take (i := 2) (v := ?_) rfl (by kernel_rfl) (by kernel_rfl) (by kernel_rfl) (fun _ _ _ h => h) (Or.inl ⟨by kernel_rfl, ?_⟩) (by assumption) ?_; rotate_left; focus (intro w hSw; (try dsimp only at hSw); go_simp; try with_reducible rfl); (try simp only [List.getElem_toArray, List.getElem_cons_succ, List.getElem_cons_zero, Act.put, List.setIfInBounds_toArray, List.set_cons_zero, List.set_cons_succ]))
  have HX := Lib.hid hHeld.1
  refine wpAnyH_ready (rs := [1]) (by kernel_rfl) (by simp) ?_; refine AllReadyH.cons rfl (fun K hK => ?_) AllReadyH.nil
  go_simp
  go_at_call 70
  refine (HP.out _ HX.out.2).mono ?_; rintro e w1 ⟨g, rfl, hg1, hrow, b1⟩
  have H1 := Lib.hid (And.intro (HX.out.keep b1) (And.intro hrow hg1)); clear hrow b1 hg1 HX
  go_wp2_with fail
  first
    | refine hK.out _ _ ⟨H1.out.1, H1.out.1.full.1, H1.out.1.full.2.1, H1.out.1.full.2.2.1⟩ (fun hHeld => ?_)
    | refine hK _ _ ⟨H1.out.1, H1.out.1.full.1, H1.out.1.full.2.1, H1.out.1.full.2.2.1⟩ (fun hHeld => ?_)
  clear hK K
  (try simp only [List.getElem_toArray, List.getElem_cons_succ, List.getElem_cons_zero, Act.put, List.setIfInBounds_toArray, List.set_cons_zero, List.set_cons_succ])
  refine wpAnyH_ready (rs := [3]) (by kernel_rfl) (by simp) ?_; refine AllReadyH.cons rfl (fun K hK => ?_) AllReadyH.nil
  go_simp
  go_at_call 71
  refine (HQ.out _ H1.out.1.2).mono ?_; rintro e w2 ⟨v2, rfl, hpd, b2⟩
  obtain ⟨go, cgo, gz, cz, hv2, -⟩ := hpd.row (j := 0) (by rw [goalsTo_len]; omega)
  rw [goalsTo_len] at hv2
  subst hv2
  have H2 : Hid (SpAt w T wn l (.slice ad l.length c) g go cgo 0 (.slice none 0 0) w2) := Lib.hid ⟨H1.out.1.keep b2, H1.out.2.1.keep b2, hpd.base H1.out.1.2.size, owns_nil _ _ _⟩
  clear hpd b2 H1
  go_wp2_with fail
  first
    | refine hK.out _ _ ⟨H2.out.1, H2.out.1.full.1, H2.out.1.full.2.1, H2.out.1.full.2.2.1⟩ (fun hHeld => ?_)
    | refine hK _ _ ⟨H2.out.1, H2.out.1.full.1, H2.out.1.full.2.1, H2.out.1.full.2.2.1⟩ (fun hHeld => ?_)
  clear hK K
  (try simp only [List.getElem_toArray, List.getElem_cons_succ, List.getElem_cons_zero, Act.put, List.setIfInBounds_toArray, List.set_cons_zero, List.set_cons_succ])
  (refine wpAnyH_take (i := 4) (v := ?_) rfl (by kernel_rfl) (by kernel_rfl) (by kernel_rfl) (fun _ _ _ h => h) (Or.inl ⟨by kernel_rfl, ?_⟩) (by assumption) ?_; rotate_left; focus (intro w hSw; (try dsimp only at hSw); go_simp; try with_reducible rfl); (try simp only [List.getElem_toArray, List.getElem_cons_succ, List.getElem_cons_zero, Act.put, List.setIfInBounds_toArray, List.set_cons_zero, List.set_cons_succ])); (refine wpAnyH_take (i := 5) (v := ?_) rfl (by kernel_rfl) (by kernel_rfl) (by kernel_rfl) (fun _ _ _ h => h) (Or.inl ⟨by kernel_rfl, ?_⟩) (by assumption) ?_; rotate_left; focus (intro w hSw; (try dsimp only at hSw); go_simp; try with_reducible rfl); (try simp only [List.getElem_toArray, List.getElem_cons_succ, List.getElem_cons_zero, Act.put, List.setIfInBounds_toArray, List.set_cons_zero, List.set_cons_succ]))
  refine wpAnyH_done (by kernel_rfl) ?_ _
  (try simp only [List.getElem_toArray, List.getElem_cons_succ, List.getElem_cons_zero, Act.put, List.setIfInBounds_toArray, List.set_cons_zero, List.set_cons_succ])
  clear hHeld
  go_wp2_with fail
  go_loopw [5, 6] (fun v i wr => ∃ k : Nat, i = .int .i64 k ∧ k ≤ T ∧ Hid (SpAt w T wn l (.slice ad l.length c) g go cgo k v wr)) (fun _ i _ => T - (intOf i).toNat)
  case atStart => exact ⟨0, rfl, Nat.zero_le _, H2⟩
  case round =>
    clear H2
    obtain ⟨k, rfl, hk, hH⟩ := hrel
    obtain ⟨p0, p1, p2, -, -, -⟩ := hH.out.1.1.three
    by_cases hlt : k < T
    · have b1 : (k : Int) < (T : Int) := by omega
      obtain ⟨a5, c5, rfl, hn5, hrd5, hsp5⟩ := own_cap hH.out.2.2.2
      have HR5 := Lib.hid (And.intro hrd5 (And.intro hsp5 hn5)); clear hrd5 hsp5 hn5
      have HPL := Lib.hid ((ordL wn l).pos_le k ((ordL wn l).tab k))
      have HPA := Lib.hid (fun j hj => (ordL wn l).pos_at k ((ordL wn l).tab k) j hj)
      have HTL := Lib.hid ((ordL wn l).tab_len k)
      have HMB := Lib.hid (fun y (hy : y ∈ (ordL wn l).tab k) => ((ordL wn l).mem_tab y k).1 hy)
      obtain ⟨q, hq⟩ : ∃ q, q = (ordL wn l).pos k ((ordL wn l).tab k) := ⟨_, rfl⟩
      have hqk : q ≤ k := by have := HPL.out; rw [HTL.out, ← hq] at this; exact this
      have hqc : q ≤ c5 := by have := HR5.out.2.2; omega
      have hst : (ordL wn l).tab (k + 1) = (((ordL wn l).tab k).take q ++ [(k : Int)]) ++ ((ordL wn l).tab k).drop q := by
        rw [hq]
        show (ordL wn l).ins k ((ordL wn l).tab k) = _
        rw [Ord3.ins_pos]; simp
      have hlo : ∀ W, Below wr.heap.size wr W → Calls Try.prog 39 #[.slice a5 q c5] W fun e w' => ∃ v, e = .returned v ∧ w'.ownsRow W.heap.size 3 1 v q (ints (((ordL wn l).tab k).take q)) ∧ Below W.heap.size W w' := fun W hb => by
        have hl : (((ordL wn l).tab k).take q).length = q := by rw [List.length_take, HTL.out]; omega
        have := l1Own_any (((ordL wn l).tab k).take q) a5 c5 W (by rw [hl]; omega) (reads_uptoI (HR5.out.1.old hb) q)
        rw [hl] at this; exact this
      have htk : (((ordL wn l).tab k).take q).length = q := by rw [List.length_take, HTL.out]; omega
      have hdk : (((ordL wn l).tab k).drop q).length = k - q ∧ ∀ W, Below wr.heap.size wr W → Reads W (cutI a5 q c5) (ints (((ordL wn l).tab k).drop q)) := ⟨by rw [List.length_drop, HTL.out], fun W hb => reads_fromI (HR5.out.1.old hb) (by rw [HTL.out]; exact hqk) (by rw [HTL.out]; exact HR5.out.2.2)⟩
      have HPA2 : Hid (∀ j, j < k → (j < q → ¬ (ordL wn l).ahead k (((ordL wn l).tab k).getD j 0)) ∧ (j = q → (ordL wn l).ahead k (((ordL wn l).tab k).getD j 0))) := Lib.hid fun j hj => by rw [hq]; exact HPA.out j (by rw [HTL.out]; exact hj)
      have HYN : Hid (∀ j, j < k → ∃ y : Nat, ((ordL wn l).tab k).getD j 0 = y ∧ y < T) := Lib.hid fun j hj => by
        have hm := HMB.out (((ordL wn l).tab k).getD j 0) (by
          rw [List.getD_eq_getElem?_getD, List.getElem?_eq_getElem (by rw [HTL.out]; exact hj)]; simp)
        exact ⟨(((ordL wn l).tab k).getD j 0).toNat, by omega, by omega⟩
      clear hq HPL HPA HMB
      obtain ⟨tk, htkd⟩ : ∃ tk, tk = ((ordL wn l).tab k).take q := ⟨_, rfl⟩
      obtain ⟨dk, hdkd⟩ : ∃ dk, dk = ((ordL wn l).tab k).drop q := ⟨_, rfl⟩
      rw [← htkd] at hst hlo htk
      rw [← hdkd] at hst hdk
      have HTK := Lib.hid (And.intro htk htkd)
      have HDK := Lib.hid hdk
      have HO := Lib.hid hlo
      have HSU := Lib.hid hst
      have hru := fun W => run_uptoI a5 k c5 q hqc W
      have hrf := fun W => run_fromI a5 k c5 q hqk W
      have HPQ : Hid (q ≤ k ∧ q ≤ c5 ∧ k < T) := Lib.hid ⟨hqk, hqc, hlt⟩
      clear htk htkd hdkd hdk hlo hst
      obtain ⟨WB, hWB⟩ : ∃ WB, WB = wr := ⟨wr, rfl⟩
      subst hWB
      go_wp2_with fail
      clear p0 p1 p2
      have H5 : Hid (SpAt w T wn l (.slice ad l.length c) g go cgo k (.slice a5 k c5) WB ∧ Below WB.heap.size WB WB) := Lib.hid ⟨hH.out, Below.refl _ _⟩
      clear hH
      go_loopw [7] (fun i wi => ∃ j : Nat, i = .int .i64 j ∧ j ≤ q ∧ Hid (SpAt w T wn l (.slice ad l.length c) g go cgo k (.slice a5 k c5) wi ∧ Below WB.heap.size WB wi)) (fun i _ => q - (intOf i).toNat)
      case atStart => exact ⟨0, rfl, Nat.zero_le _, H5⟩
      case round =>
        clear H5
        obtain ⟨j, rfl, hj, hE⟩ := hrel
        by_cases hjk : j < k
        · have b2 : (j : Int) < (k : Int) := by omega
          obtain ⟨b5, off5, ea, hlt5, hc5⟩ := cells_of_reads (HR5.out.1.old hE.out.2) (by rw [HTL.out]; omega)
          have c1 := hc5 j (by rw [HTL.out]; exact hjk)
          obtain ⟨y, hy, hyT⟩ := HYN.out j hjk
          have HPJ := HPA2.out j hjk
          rw [hy] at c1 HPJ
          have hcall := HA.out g go cgo _ wr hE.out.1.2.1 hE.out.1.2.2.1 k y (by omega) hyT
          have HJ := Lib.hid HPJ; clear HPJ hc5 hlt5 hy hyT
          have HEA := Lib.hid ea
          by_cases hjq : j < q
          · rw [show decide ((ordL wn l).ahead k y) = false from by simp [HJ.out.1 hjq]] at hcall
            have HC := Lib.hid hcall; clear hcall
            cases ea
            go_wp2_with fail
            refine HC.out.mono ?_; rintro e w4 ⟨rfl, b4⟩
            have H4 : Hid (SpAt w T wn l (.slice ad l.length c) g go cgo k (.slice (some ⟨b5, off5, none⟩) k c5) w4 ∧ Below WB.heap.size WB w4) := Lib.hid ⟨hE.out.1.keep b4, hE.out.2.trans (b4.mono hE.out.2.size)⟩
            clear b4 hE HC c1
            go_wp2_with fail
            go_roundw
            case rel => exact ⟨j + 1, by go_num, by omega, H4⟩
            case measure => simp [intOf]; omega
          · obtain rfl : j = q := by omega
            rw [show decide ((ordL wn l).ahead k y) = true from by simp [HJ.out.2 rfl]] at hcall
            have HC := Lib.hid hcall; clear hcall
            cases ea
            go_wp2_with fail
            refine HC.out.mono ?_; rintro e wi ⟨rfl, b4⟩
            have hE : SpAt w T wn l (.slice ad l.length c) g go cgo k (.slice (some ⟨b5, off5, none⟩) k c5) wi ∧ Below WB.heap.size WB wi := ⟨hE.out.1.keep b4, hE.out.2.trans (b4.mono hE.out.2.size)⟩
            clear b4 HC c1
            have HE := Lib.hid hE; clear hE
            go_wp2_with fail
            refine (HO.out _ HE.out.2).mono ?_; rintro e w6 ⟨v6, rfl, own6, b6⟩
            have H6 := Lib.hid (And.intro own6 b6); clear own6 b6
            go_wp2_with (at_builtin; refine wpList_append_own_at _ rfl _ _ 25 rfl wi.heap.size 3 i0 (.int .i64 0) 1 8 Try.underlying25 HI.out.1 HI.out.2.1 HI.out.2.2.1 HI.out.2.2.2 rfl (by decide) _ _ _ rfl (H6.out.1.alloc _) ⟨w6.heap.size, 0, none⟩ 1 1 [.int .i64 (k : Int)] rfl rfl (cell_one_newT w6 _ _) ?_ ?_ ?_ ?_ ?_)
            · first | rfl | (intro u hu; simp at hu; subst hu; rfl)
            · have := HPQ.out; unfold maxLen; omega
            · have := HPQ.out; omega
            · have := H6.out.2.size; first | omega | (simp; omega)
            intro v7 w7 hown7 hgrow _ _
            have hb7 : Below wi.heap.size wi w7 := (H6.out.2.alloc H6.out.2.size _).grown hgrow (by have := H6.out.2.size; simp; omega) (fun g hg => (owns_ge H6.out.1 hg).1)
            have hown7' : w7.ownsRow wi.heap.size 3 1 v7 (tk ++ [(k : Int)]).length (ints (tk ++ [(k : Int)])) := by
              rw [List.length_append, ints_app, HTK.out.1]; exact hown7
            have H7 := Lib.hid (And.intro hown7' hb7); clear hown7 hown7' hgrow hb7 H6
            go_wp2_with (at_builtin; refine append_reads (w0 := wi) (B := wi.heap.size) (L := tk ++ [(k : Int)]) (M := dk) rfl _ _ rfl v7 (cutI (some ⟨b5, off5, none⟩) j c5) (c5 - j) rfl (by rw [HDK.out.1]; rfl) H7.out.1 (by simp) (HDK.out.2 _ (HE.out.2.trans (H7.out.2.mono HE.out.2.size))) H7.out.2.size H7.out.2 (by rw [List.length_append, HTK.out.1, HDK.out.1]; have := HPQ.out; simp; omega) ?_)
            intro v9 w9 hown9 hb9
            have H9 : Hid (SpAt w T wn l (.slice ad l.length c) g go cgo (k + 1) v9 w9) := Lib.hid (by
              have h := HE.out.1.keep hb9
              refine ⟨h.1, h.2.1, h.2.2.1, ?_⟩
              have h9 := owns_base hown9 HE.out.1.1.2.size
              have e1 : tk.length + (dk.length + 1) = k + 1 := by rw [HTK.out.1, HDK.out.1]; have := HPQ.out; omega
              have e2 : tk ++ [(k : Int)] ++ dk = tk ++ (k : Int) :: dk := by simp
              rw [e1] at h9
              rw [HSU.out, e2]; exact h9)
            clear hown9 hb9 H7 HE
            go_wp2_with fail
            go_roundw
            case rel => exact ⟨k + 1, by go_num, by omega, H9⟩
            case measure => simp [intOf]; omega
        · have hqe : q = j := by omega
          have hke : k = j := by omega
          have b2 : ¬ (j : Int) < (k : Int) := by omega
          obtain ⟨wi, hwi⟩ : ∃ wi, wi = wr := ⟨wr, rfl⟩
          subst hwi
          have hE := hE.out
          clear hke
          obtain rfl : q = j := hqe
          clear hjk hj
          have HE := Lib.hid hE; clear hE
          go_wp2_with fail
          refine (HO.out _ HE.out.2).mono ?_; rintro e w6 ⟨v6, rfl, own6, b6⟩
          have H6 := Lib.hid (And.intro own6 b6); clear own6 b6
          go_wp2_with (at_builtin; refine wpList_append_own_at _ rfl _ _ 25 rfl wi.heap.size 3 i0 (.int .i64 0) 1 8 Try.underlying25 HI.out.1 HI.out.2.1 HI.out.2.2.1 HI.out.2.2.2 rfl (by decide) _ _ _ rfl (H6.out.1.alloc _) ⟨w6.heap.size, 0, none⟩ 1 1 [.int .i64 (k : Int)] rfl rfl (cell_one_newT w6 _ _) ?_ ?_ ?_ ?_ ?_)
          · first | rfl | (intro u hu; simp at hu; subst hu; rfl)
          · have := HPQ.out; unfold maxLen; omega
          · have := HPQ.out; omega
          · have := H6.out.2.size; first | omega | (simp; omega)
          intro v7 w7 hown7 hgrow _ _
          have hb7 : Below wi.heap.size wi w7 := (H6.out.2.alloc H6.out.2.size _).grown hgrow (by have := H6.out.2.size; simp; omega) (fun g hg => (owns_ge H6.out.1 hg).1)
          have hown7' : w7.ownsRow wi.heap.size 3 1 v7 (tk ++ [(k : Int)]).length (ints (tk ++ [(k : Int)])) := by
            rw [List.length_append, ints_app, HTK.out.1]; exact hown7
          have H7 := Lib.hid (And.intro hown7' hb7); clear hown7 hown7' hgrow hb7 H6
          go_wp2_with (at_builtin; refine append_reads (w0 := wi) (B := wi.heap.size) (L := tk ++ [(k : Int)]) (M := dk) rfl _ _ rfl v7 (cutI a5 q c5) (c5 - q) rfl (by rw [HDK.out.1]; rfl) H7.out.1 (by simp) (HDK.out.2 _ (HE.out.2.trans (H7.out.2.mono HE.out.2.size))) H7.out.2.size H7.out.2 (by rw [List.length_append, HTK.out.1, HDK.out.1]; have := HPQ.out; simp; omega) ?_)
          intro v9 w9 hown9 hb9
          have H9 : Hid (SpAt w T wn l (.slice ad l.length c) g go cgo (k + 1) v9 w9) := Lib.hid (by
            have h := HE.out.1.keep hb9
            refine ⟨h.1, h.2.1, h.2.2.1, ?_⟩
            have h9 := owns_base hown9 HE.out.1.1.2.size
            have e1 : tk.length + (dk.length + 1) = k + 1 := by rw [HTK.out.1, HDK.out.1]; have := HPQ.out; omega
            have e2 : tk ++ [(k : Int)] ++ dk = tk ++ (k : Int) :: dk := by simp
            rw [e1] at h9
            rw [HSU.out, e2]; exact h9)
          clear hown9 hb9 H7 HE
          go_wp2_with fail
          go_roundw
          case rel => exact ⟨k + 1, by go_num, by omega, H9⟩
          case measure => simp [intOf]; omega
    · obtain rfl : T = k := by omega
      go_wp2_with fail
      refine bodyPost_ret (v := u5) (by simp [results, Try.results48, go_sem]) rfl ⟨_, rfl, hH.out.2.2.2, hH.out.1.2⟩
end Go.Proofs.Ythbkclgdoopbpaa
