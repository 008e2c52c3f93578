/-
  Darts: CountFinishes: the program's.
-/
import Derived.Test.YtaplkciomagmiaaDnWay
namespace Go.Proofs.Ytaplkciomagmiaa
open Go.RowKit Go.Maps
set_option linter.unusedVariables false
set_option linter.unusedSimpArgs false

def finP (m j : Nat) (n : Int) : Int := sumD ((allD.take j).filter dblD) fun d => ways m (n - scD d)
theorem finP_step (m : Nat) {j : Nat} (hj : j < allD.length) (n : Int) : finP m (j + 1) n = finP m j n + if dblD (allD.getD j (0, 0)) = true then ways m (n - scD (allD.getD j (0, 0))) else 0 := by
  unfold finP
  rw [List.take_succ_eq_append_getElem hj, List.filter_append, sumD_app]
  have e : allD.getD j (0, 0) = allD[j] := by simp [hj]
  rw [e]
  congr 1
  rw [List.filter_cons]
  split
  · rw [List.filter_nil, sumD_cons, sumD_nil]; omega
  · rw [List.filter_nil, sumD_nil]
theorem finP_bd (m : Nat) (hm : m ≤ 2) (j : Nat) (n : Int) : 0 ≤ finP m j n ∧ finP m j n ≤ 1000000 := by
  have hp := pow62 m hm
  have h1 := sumD_bd 3844 (fun d => ways m (n - scD d)) ((allD.take j).filter dblD) (fun d _ => by
    have := ways_bd m (n - scD d)
    exact ⟨this.1, by omega⟩)
  have h3 : ((allD.take j).filter dblD).length ≤ 62 := Nat.le_trans (List.length_filter_le _ _) (by rw [List.length_take, allD_len]; omega)
  unfold finP
  constructor
  · omega
  · have : (((allD.take j).filter dblD).length : Int) * 3844 ≤ 62 * 3844 := by omega
    omega
theorem finP_all (m : Nat) (n : Int) : finP m allD.length n = finW (m + 1) n := by
  unfold finP finW
  rw [List.take_length]; rfl

set_option maxRecDepth 4000 in
set_option maxHeartbeats 6400000 in
theorem implCountFinishes_any (a b : Int) (w : World) :
    Calls Try.prog 34 #[.int .i64 a, .int .i64 b] w fun e w' => e = .returned (.tuple #[.int .i64 (finV a b), .bool (askB a b)]) ∧ Below w.heap.size w w' := by
  cases h1 : inR a 0 1001
  · have e1 : finV a b = 0 := by simp [finV, askB, h1]
    have e2 : askB a b = false := by simp [askB, h1]
    rw [e1, e2]
    have H1 := Lib.hid h1; clear h1 e1 e2
    go_enter Try.func34, Try.ntmps34
    go_wp2_with fail
    refine (isLeft_any _ _).mono ?_; rintro e w1 ⟨rfl, rfl⟩
    rw [H1.out]
    go_wp2_with fail
    go_ret2
    exact ⟨rfl, Below.refl _ _⟩
  · cases h2 : inR b 1 3
    · have e1 : finV a b = 0 := by simp [finV, askB, h2]
      have e2 : askB a b = false := by simp [askB, h2]
      rw [e1, e2]
      have H1 := Lib.hid h1; clear h1 e1 e2
      have H2 := Lib.hid h2; clear h2
      go_enter Try.func34, Try.ntmps34
      go_wp2_with fail
      refine (isLeft_any _ _).mono ?_; rintro e w1 ⟨rfl, rfl⟩
      rw [H1.out]
      go_wp2_with fail
      refine (isDartCount_any _ _).mono ?_; rintro e w1 ⟨rfl, rfl⟩
      rw [H2.out]
      go_wp2_with fail
      go_ret2
      exact ⟨rfl, Below.refl _ _⟩
    · have e2 : askB a b = true := by simp [askB, h1, h2]
      obtain ⟨n, d, rfl, rfl, hn, hd1, hd3⟩ := askB_nat e2
      have e1 : finV n d = finW d n := by simp [finV, e2]
      rw [e1, e2]
      have H1 := Lib.hid h1; clear h1 e2
      have H2 := Lib.hid h2; clear h2
      obtain ⟨m, rfl⟩ : ∃ m, d = m + 1 := ⟨d - 1, by omega⟩
      have hm2 : m ≤ 2 := by omega
      obtain ⟨v, hv⟩ : ∃ v, v = finW (m + 1) (n : Int) := ⟨_, rfl⟩
      rw [← hv]
      have HV := Lib.hid hv; clear hv
      have HI := Lib.hid info181
      have HZ : Hid (Try.zeroCells60.size = (tallyA m).size ∧ (Try.prog.info? 60).map (·.size) = some (tallyA m).size ∧ (tallyA m).all (·.oneCell') = true) := Lib.hid ⟨by rw [tallyA_size]; exact Try.zeroCells60_size, by rw [tallyA_size]; exact info181, by rw [tallyA_is]; exact ints_flat _⟩
      rw [show ((m + 1 : Nat) : Int) = (m : Int) + 1 from rfl] at *
      go_enter Try.func34, Try.ntmps34
      go_wp2_with fail
      refine (isLeft_any _ _).mono ?_; rintro e w1 ⟨rfl, rfl⟩
      rw [H1.out]
      go_wp2_with fail
      refine (isDartCount_any _ _).mono ?_; rintro e w1 ⟨rfl, rfl⟩
      rw [H2.out]
      go_wp2_with fail
      refine (tallies_any _).mono ?_; rintro e w1 ⟨b, rfl, hb, hm, b1⟩
      have HLook := Lib.hid (lookup_tally (n := m) hm (by omega) (by omega))
      clear hm
      go_wp2_with (first | (at_lookup; refine wpList_lookup_run _ rfl _ _ 61 rfl b rfl _ (m : Int) rfl (by omega) _ HLook.out ?_) | (refine wpList_store_row rfl 60 _ _ rfl _ (tallyA m) rfl rfl _ _ (heap_alloc_last _ _) HZ.out.2.1 HZ.out.1 HZ.out.2.2 ?_; rw [World.setRow_alloc_new]))
      have HR6 : Hid (RowAt (w1.alloc (.cells (tallyA m) 60)) w1.heap.size 60 (tallyL m) ∧ Below w.heap.size w (w1.alloc (.cells (tallyA m) 60))) := Lib.hid ⟨by unfold RowAt; rw [← tallyA_is]; exact heap_alloc_last _ _, b1.trans ((below_new w1 _).mono b1.size)⟩
      clear HLook b1
      generalize w1.alloc (.cells (tallyA m) 60) = W1 at *
      generalize w1.heap.size = g6 at *
      refine (allDarts_any _).mono ?_; rintro e w2 ⟨v0, rfl, hown, b1⟩
      obtain ⟨gd, cap, rfl, hgd, hdc⟩ := dcells_of_own hown (by rw [allD_len]; omega)
      obtain ⟨l, hl⟩ : ∃ l, l = allD := ⟨_, rfl⟩
      rw [← hl] at hdc ⊢
      have hl62 : l.length ≤ 62 := by rw [hl, allD_len]; omega
      have HL := Lib.hid hl; clear hl
      have HS : Hid (DcAt w2 gd l ∧ RowAt w2 g6 60 (tallyL m) ∧ Below w.heap.size w w2) := Lib.hid ⟨hdc, HR6.out.1.keep b1, HR6.out.2.trans (b1.mono HR6.out.2.size)⟩
      clear hown hdc HR6 b1 hgd
      go_wp2_with fail
      go_loopw [7, 25] (fun v i wr => ∃ (j : Nat) (u : Int), i = .int .i64 j ∧ v = .int .i64 u ∧ j ≤ l.length ∧ Hid (u = finP m j (n : Int)) ∧ Hid (DcAt wr gd l ∧ RowAt wr g6 60 (tallyL m) ∧ Below w.heap.size w wr)) (fun _ i _ => l.length - (intOf i).toNat)
      case atStart => exact ⟨0, 0, rfl, rfl, Nat.zero_le _, Lib.hid rfl, HS⟩
      case round =>
        clear HS
        obtain ⟨j, u, rfl, rfl, hj, hu, hW⟩ := hrel
        by_cases hjl : j < l.length
        · have b3 : (j : Int) < (l.length : Int) := by omega
          obtain ⟨c0, c1⟩ := hW.out.1.2 j hjl
          have hbd := allD_bd (l.getD j (0, 0)) (by rw [← HL.out]; simp [hjl])
          have hst : finP m (j + 1) (n : Int) = finP m j n + if dblD (l.getD j (0, 0)) = true then ways m (n - scD (l.getD j (0, 0))) else 0 := by
            have := finP_step m (j := j) (by rw [← HL.out]; exact hjl) (n : Int)
            rw [← HL.out] at this; exact this
          have hub := finP_bd m hm2 j (n : Int)
          have hub2 := finP_bd m hm2 (j + 1) (n : Int)
          rw [← hu.out] at hst hub
          generalize l.getD j (0, 0) = y at *
          obtain ⟨x1, x2⟩ := y
          simp only [scD] at hbd
          simp only at c0 c1
          obtain ⟨g5, g6', -, -, -, -⟩ := hbd
          have HST := Lib.hid hst; clear hst hu
          go_wp2_with fail
          refine (dartScore_any x1 x2 _ g5 g6').mono ?_; rintro e w2 ⟨rfl, bd2⟩
          have HW2 : Hid (DcAt w2 gd l ∧ RowAt w2 g6 60 (tallyL m) ∧ Below w.heap.size w w2) := Lib.hid ⟨(hW.out.1.keep (below_new _ _)).keep bd2, (hW.out.2.1.keep (below_new _ _)).keep bd2, (hW.out.2.2.trans ((below_new wr _).mono hW.out.2.2.size)).trans (bd2.mono (by have := hW.out.2.2.size; simp; omega))⟩
          have k0 : w2.cell? ⟨wr.heap.size, 0, none⟩ = some (.int .i64 x1) := by rw [bd2.cell (p := ⟨wr.heap.size, 0, none⟩) (by simp), World.cell?_alloc_at _ _ _ _ rfl]; rfl
          have k1 : w2.cell? ⟨wr.heap.size, 1, none⟩ = some (.int .i64 x2) := by rw [bd2.cell (p := ⟨wr.heap.size, 1, none⟩) (by simp), World.cell?_alloc_at _ _ _ _ rfl]; rfl
          clear hW bd2 c0 c1
          generalize wr.heap.size = bk at *
          by_cases q4 : x2 = 2
          · have e4 : (x2 == 2) = true := by simp [q4]
            have hd : dblD (x1, x2) = true := e4
            have hst2 := HST.out
            rw [if_pos hd] at hst2
            have HST := Lib.hid hst2; clear hst2 hd
            have E4 := Lib.hid e4; clear e4 q4
            by_cases q1 : 0 ≤ (n : Int) - x1 * x2
            · obtain ⟨r, hr⟩ : ∃ r : Nat, (n : Int) - x1 * x2 = (r : Int) := ⟨((n : Int) - x1 * x2).toNat, by omega⟩
              by_cases q2 : (n : Int) - x1 * x2 ≤ 180
              · have cr := HW2.out.2.1.cell (j := r) (by rw [tallyL_len]; omega)
                rw [tallyL_get (by omega) (by omega)] at cr
                have hnew : finP m (j + 1) (n : Int) = u + ways m (r : Int) := by rw [HST.out]; congr 2
                rw [hnew] at hub2
                have HN := Lib.hid hnew.symm; clear hnew HST
                generalize ways m (r : Int) = y at *
                have b4 : (r : Int) < 181 := by omega
                go_wp2_with fail
                refine (isDouble_any x1 x2 _).mono ?_; rintro e w3 ⟨rfl, bd3⟩
                rw [E4.out]
                have HW3 : Hid (DcAt w3 gd l ∧ RowAt w3 g6 60 (tallyL m) ∧ Below w.heap.size w w3) := Lib.hid ⟨HW2.out.1.keep bd3, HW2.out.2.1.keep bd3, HW2.out.2.2.trans (bd3.mono HW2.out.2.2.size)⟩
                rw [← bd3.cell (p := ⟨g6, r, none⟩) HW2.out.2.1.lt] at cr
                clear bd3 k0 k1 HW2
                go_wp2_with fail
                go_roundw
                case rel => exact ⟨j + 1, u + y, by go_num, by go_num, by omega, HN, HW3⟩
                case measure => simp [intOf]; omega
              · have hnew : finP m (j + 1) (n : Int) = u := by rw [HST.out, ways_top m _ (show 60 * (m : Int) < (n : Int) - scD (x1, x2) by show _ < (n : Int) - x1 * x2; omega)]; omega
                have HN := Lib.hid hnew.symm; clear hnew HST hr
                go_wp2_with fail
                refine (isDouble_any x1 x2 _).mono ?_; rintro e w3 ⟨rfl, bd3⟩
                rw [E4.out]
                have HW3 : Hid (DcAt w3 gd l ∧ RowAt w3 g6 60 (tallyL m) ∧ Below w.heap.size w w3) := Lib.hid ⟨HW2.out.1.keep bd3, HW2.out.2.1.keep bd3, HW2.out.2.2.trans (bd3.mono HW2.out.2.2.size)⟩
                clear bd3 k0 k1 HW2
                go_wp2_with fail
                go_roundw
                case rel => exact ⟨j + 1, u, by go_num, rfl, by omega, HN, HW3⟩
                case measure => simp [intOf]; omega
            · have hnew : finP m (j + 1) (n : Int) = u := by rw [HST.out, ways_neg m _ (show (n : Int) - scD (x1, x2) < 0 by show (n : Int) - x1 * x2 < 0; omega)]; omega
              have HN := Lib.hid hnew.symm; clear hnew HST
              go_wp2_with fail
              refine (isDouble_any x1 x2 _).mono ?_; rintro e w3 ⟨rfl, bd3⟩
              rw [E4.out]
              have HW3 : Hid (DcAt w3 gd l ∧ RowAt w3 g6 60 (tallyL m) ∧ Below w.heap.size w w3) := Lib.hid ⟨HW2.out.1.keep bd3, HW2.out.2.1.keep bd3, HW2.out.2.2.trans (bd3.mono HW2.out.2.2.size)⟩
              clear bd3 k0 k1 HW2
              go_wp2_with fail
              go_roundw
              case rel => exact ⟨j + 1, u, by go_num, rfl, by omega, HN, HW3⟩
              case measure => simp [intOf]; omega
          · have e4 : (x2 == 2) = false := by simp [q4]
            have hd : dblD (x1, x2) = false := e4
            have hnew : finP m (j + 1) (n : Int) = u := by rw [HST.out, if_neg (by rw [hd]; simp)]; omega
            have HN := Lib.hid hnew.symm; clear hnew HST hd
            have E4 := Lib.hid e4; clear e4 q4
            go_wp2_with fail
            refine (isDouble_any x1 x2 _).mono ?_; rintro e w3 ⟨rfl, bd3⟩
            rw [E4.out]
            have HW3 : Hid (DcAt w3 gd l ∧ RowAt w3 g6 60 (tallyL m) ∧ Below w.heap.size w w3) := Lib.hid ⟨HW2.out.1.keep bd3, HW2.out.2.1.keep bd3, HW2.out.2.2.trans (bd3.mono HW2.out.2.2.size)⟩
            clear bd3 k0 k1 HW2
            go_wp2_with fail
            go_roundw
            case rel => exact ⟨j + 1, u, by go_num, rfl, by omega, HN, HW3⟩
            case measure => simp [intOf]; omega
        · obtain rfl : j = l.length := by omega
          have hend : u = v := by rw [hu.out, HV.out, HL.out]; exact finP_all m _
          subst hend
          have b3 : ¬ (l.length : Int) < (l.length : Int) := by omega
          go_wp2_with fail
          go_ret2
          exact ⟨rfl, hW.out.2.2⟩
end Go.Proofs.Ytaplkciomagmiaa
