/-
  Darts: the first finish: the model's.
-/
import Derived.Test.YtaplkciomagmiaaDnFirst
import Derived.Deep.AppendSrc
import Derived.Deep.DeepAppendWide
namespace Go.Proofs.Ytaplkciomagmiaa
open Go.RowKit
set_option linter.unusedVariables false
set_option linter.unusedSimpArgs false

set_option maxHeartbeats 6400000 in
set_option maxRecDepth 100000 in
theorem daFirst_any : ∀ (m : Nat), m ≤ 2 → ∀ (N : Nat), N ≤ 1001 → finB (m + 1) (N : Int) = true → ∀ (w : World),
    Calls Try.prog 51 #[.int .i64 N, .int .i64 ((m : Int) + 1)] w fun e w' => ∃ v, e = .returned v ∧ w'.ownsRow w.heap.size 55 2 v (firstD (m + 1) (N : Int)).length (darts (firstD (m + 1) (N : Int))) ∧ Below w.heap.size w w' := by
  intro m
  induction m with
  | zero =>
    intro _ N hN hf w
    obtain ⟨d0, hfd, _, _⟩ := find_some hf
    have HFD := Lib.hid (firstD_some hfd)
    have HFS := Lib.hid hfd; clear hfd hf
    rw [HFD.out, show firstD 0 ((N : Int) - scD d0) = [] from rfl]
    go_enter Try.func51, Try.ntmps51
    go_wp2_with fail
    refine (daAll_any _).mono ?_; rintro e w1 ⟨v, rfl, hown, b1⟩
    obtain ⟨gd, cap, rfl, hgd, hdc⟩ := dcells_of_own hown (by rw [allD_len]; omega)
    obtain ⟨l, hl⟩ : ∃ l, l = allD := ⟨_, rfl⟩
    rw [← hl] at hdc ⊢
    have HFS2 := HFS.out
    rw [← hl] at HFS2
    have HFS := Lib.hid HFS2; clear HFS2
    have hl62 : l.length ≤ 62 := by rw [hl, allD_len]; omega
    have HL := Lib.hid hl; clear hl
    have HS := Lib.hid (And.intro hdc b1); clear hdc b1 hown hgd
    go_wp2_with fail
    go_loopw [10] (fun i wr => ∃ j : Nat, i = .int .i64 j ∧ j ≤ l.length ∧ Hid ((l.drop j).find? (pickB 0 (N : Int)) = some d0) ∧ Hid (DcAt wr gd l ∧ Below w.heap.size w wr)) (fun i _ => l.length - (intOf i).toNat)
    case atStart => exact ⟨0, rfl, Nat.zero_le _, HFS, HS⟩
    case round =>
      clear HS HFS
      obtain ⟨j, rfl, hj, hF, hW⟩ := hrel
      by_cases hlt : j < l.length
      · have b2 : (j : Int) < (l.length : Int) := by omega
        obtain ⟨c0, c1⟩ := hW.out.1.2 j hlt
        have hfd := find_drop (p := pickB 0 (N : Int)) hlt
        rw [hF.out] at hfd
        have hbd := allD_bd (l.getD j (0, 0)) (by rw [← HL.out]; simp [hlt])
        generalize l.getD j (0, 0) = x at *
        obtain ⟨x1, x2⟩ := x
        simp only [scD] at hbd
        simp only at c0 c1
        obtain ⟨g5, g6, -, -, -, -⟩ := hbd
        have hbel : Below w.heap.size w (wr.alloc (.cells #[.int .i64 x1, .int .i64 x2] 55)) := hW.out.2.alloc hW.out.2.size _
        have HW2 : Hid (DcAt (wr.alloc (.cells #[.int .i64 x1, .int .i64 x2] 55)) gd l ∧ Below w.heap.size w (wr.alloc (.cells #[.int .i64 x1, .int .i64 x2] 55))) := Lib.hid ⟨hW.out.1.keep (below_new _ _), hbel⟩
        have hpk : pickB 0 (N : Int) (x1, x2) = (decide ((N : Int) - x1 * x2 = 0) && (x2 == 2)) := rfl
        clear hF
        by_cases q0 : (N : Int) - x1 * x2 = 0
        · have e3 : ((N : Int) - x1 * x2 == 0) = true := by simp [q0]
          by_cases q4 : x2 = 2
          · subst q4
            rw [hpk, decide_eq_true q0] at hfd
            have hd0 : d0 = (x1, 2) := by simpa using hfd
            have HD0 := Lib.hid hd0; clear hfd hpk hd0
            have O2 : Hid (((wr.alloc (.cells #[.int .i64 x1, .int .i64 2] 55)).alloc (.cells #[.int .i64 x1, .int .i64 2] 55)).ownsRow w.heap.size 55 2 (.slice (some ⟨(wr.alloc (.cells #[.int .i64 x1, .int .i64 2] 55)).heap.size, 0, none⟩) 1 1) 1 (darts [(x1, 2)]) ∧ Below w.heap.size w ((wr.alloc (.cells #[.int .i64 x1, .int .i64 2] 55)).alloc (.cells #[.int .i64 x1, .int .i64 2] 55))) :=
              Lib.hid ⟨owns_base (owns_dart _ _ _) hbel.size, hbel.alloc hbel.size _⟩
            rw [World.size_alloc] at O2
            clear hbel hW HW2
            go_wp2_with fail
            go_ret
            exact ⟨_, rfl, by rw [HD0.out]; exact O2.out.1, O2.out.2⟩
          · have e4 : (x2 == 2) = false := by simp [q4]
            rw [hpk, decide_eq_true q0, e4] at hfd
            have HF2 : Hid ((l.drop (j + 1)).find? (pickB 0 (N : Int)) = some d0) := Lib.hid (by simpa using hfd.symm)
            clear hfd hpk hbel hW
            go_wp2_with fail
            go_roundw
            case rel => exact ⟨j + 1, by go_num, by omega, HF2, HW2⟩
            case measure => simp [intOf]; omega
        · have e3 : ((N : Int) - x1 * x2 == 0) = false := by simp [q0]
          rw [hpk, decide_eq_false q0] at hfd
          have HF2 : Hid ((l.drop (j + 1)).find? (pickB 0 (N : Int)) = some d0) := Lib.hid (by simpa using hfd.symm)
          clear hfd hpk hbel hW
          go_wp2_with fail
          go_roundw
          case rel => exact ⟨j + 1, by go_num, by omega, HF2, HW2⟩
          case measure => simp [intOf]; omega
      · obtain rfl : j = l.length := by omega
        have := hF.out
        rw [List.drop_length] at this
        cases this
  | succ q ih =>
    intro hm N hN hf w
    obtain ⟨d0, hfd, _, _⟩ := find_some hf
    have HFD0 := Lib.hid (firstD_some hfd)
    have HFS := Lib.hid hfd; clear hfd hf
    have HIHall := Lib.hid (ih (by omega)); clear ih
    have HLen := Lib.hid (firstD_len (q + 1))
    go_enter Try.func51, Try.ntmps51
    go_wp2_with fail
    refine (daAll_any _).mono ?_; rintro e w1 ⟨v, rfl, hown, b1⟩
    obtain ⟨gd, cap, rfl, hgd, hdc⟩ := dcells_of_own hown (by rw [allD_len]; omega)
    obtain ⟨l, hl⟩ : ∃ l, l = allD := ⟨_, rfl⟩
    rw [← hl] at hdc ⊢
    have HFS2 := HFS.out
    rw [← hl] at HFS2
    have HFS := Lib.hid HFS2; clear HFS2
    have hl62 : l.length ≤ 62 := by rw [hl, allD_len]; omega
    have HLl := Lib.hid hl; clear hl
    have HS := Lib.hid (And.intro hdc b1); clear hdc b1 hown hgd
    go_wp2_with fail
    have hmt : ((((q + 1 : Nat) : Int) + 1) == 1) = false := by rw [beq_eq_false_iff_ne]; omega
    have hmq : (((q + 1 : Nat) : Int) + 1) = (q : Int) + 1 + 1 := by omega
    rw [hmq] at hmt
    go_loopw [10] (fun i wr => ∃ j : Nat, i = .int .i64 j ∧ j ≤ l.length ∧ Hid ((l.drop j).find? (pickB (q + 1) (N : Int)) = some d0) ∧ Hid (DcAt wr gd l ∧ Below w.heap.size w wr)) (fun i _ => l.length - (intOf i).toNat)
    case atStart => exact ⟨0, rfl, Nat.zero_le _, HFS, HS⟩
    case round =>
      clear HS HFS
      obtain ⟨j, rfl, hj, hF, hW⟩ := hrel
      by_cases hlt : j < l.length
      · have b2 : (j : Int) < (l.length : Int) := by omega
        obtain ⟨c0, c1⟩ := hW.out.1.2 j hlt
        have hfd := find_drop (p := pickB (q + 1) (N : Int)) hlt
        rw [hF.out] at hfd
        have hbd := allD_bd (l.getD j (0, 0)) (by rw [← HLl.out]; simp [hlt])
        generalize l.getD j (0, 0) = x at *
        obtain ⟨x1, x2⟩ := x
        simp only [scD] at hbd
        simp only at c0 c1
        obtain ⟨g5, g6, -, -, -, -⟩ := hbd
        have hbel : Below w.heap.size w (wr.alloc (.cells #[.int .i64 x1, .int .i64 x2] 55)) := hW.out.2.alloc hW.out.2.size _
        have HW2 : Hid (DcAt (wr.alloc (.cells #[.int .i64 x1, .int .i64 x2] 55)) gd l ∧ Below w.heap.size w (wr.alloc (.cells #[.int .i64 x1, .int .i64 x2] 55)) ∧ wr.heap.size < (wr.alloc (.cells #[.int .i64 x1, .int .i64 x2] 55)).heap.size ∧ (wr.alloc (.cells #[.int .i64 x1, .int .i64 x2] 55)).cell? ⟨wr.heap.size, 0, none⟩ = some (.int .i64 x1) ∧ (wr.alloc (.cells #[.int .i64 x1, .int .i64 x2] 55)).cell? ⟨wr.heap.size, 1, none⟩ = some (.int .i64 x2)) := Lib.hid ⟨hW.out.1.keep (below_new _ _), hbel, by simp, cell_of_row _ _ 0 _ _ _ (heap_alloc_last _ _), cell_of_row _ _ 1 _ _ _ (heap_alloc_last _ _)⟩
        have hpk : pickB (q + 1) (N : Int) (x1, x2) = finB (q + 1) ((N : Int) - x1 * x2) := by
          unfold pickB
          rw [if_neg (by omega)]; rfl
        clear hF hbel hW
        by_cases q0 : 0 < (N : Int) - x1 * x2
        · obtain ⟨r, hr⟩ : ∃ r : Nat, (N : Int) - x1 * x2 = (r : Int) := ⟨((N : Int) - x1 * x2).toNat, by omega⟩
          rw [hpk, hr] at hfd
          have HQ := Lib.hid (daFinishes_any r (q + 1) (by omega) (by omega) (by omega))
          rw [wrap64_fin (by omega), show ((q + 1 : Nat) : Int) = (q : Int) + 1 from rfl] at HQ
          have hfin := finW_fin q (r : Int)
          rw [hr] at q0
          by_cases q1 : 0 < finW (q + 1) (r : Int)
          · have hfb := hfin.1 q1
            rw [hfb] at hfd
            have hd0 : d0 = (x1, x2) := by simpa using hfd
            have HFD : Hid (firstD (q + 1 + 1) (N : Int) = (x1, x2) :: firstD (q + 1) (r : Int)) := Lib.hid (by
              rw [HFD0.out, hd0]; congr 2)
            have HIH := Lib.hid (HIHall.out r (by omega) hfb)
            have HL := Lib.hid (HLen.out (r : Int) (.inr hfb))
            clear hfd hpk hd0 hfin hfb HFD0 HIHall HLen
            generalize finW (q + 1) (r : Int) = y at *
            go_wp2_with fail
            refine (HQ.out _).mono ?_; rintro e w3 ⟨rfl, b3⟩
            have hbk3 : wr.heap.size < w3.heap.size := by have := b3.size; have := HW2.out.2.2.1; omega
            have k0 := (b3.cell (p := ⟨wr.heap.size, 0, none⟩) HW2.out.2.2.1).trans HW2.out.2.2.2.1
            have k1 := (b3.cell (p := ⟨wr.heap.size, 1, none⟩) HW2.out.2.2.1).trans HW2.out.2.2.2.2
            have hb3 := HW2.out.2.1.trans (b3.mono HW2.out.2.1.size)
            clear b3 HW2 c0 c1
            generalize wr.heap.size = bk at *
            go_wp2_with fail
            have hwq : IntKind.i64.wrap ((q : Int) + 1) = (q : Int) + 1 := IntWalk.i64_in _ (by omega)
            have HBK : Hid (bk < w3.heap.size ∧ w3.cell? ⟨bk, 0, none⟩ = some (.int .i64 x1) ∧ w3.cell? ⟨bk, 1, none⟩ = some (.int .i64 x2)) := Lib.hid ⟨hbk3, k0, k1⟩
            have HB3 : Hid (Below w.heap.size w w3) := Lib.hid hb3
            clear hbk3 k0 k1 hb3
            refine wp_region_held_drew (S := fun w' => w'.cell? ⟨bk, 0, none⟩ = some (.int .i64 x1) ∧ w'.cell? ⟨bk, 1, none⟩ = some (.int .i64 x2)) (by kernel_rfl) ⟨HBK.out.2.1, HBK.out.2.2⟩ (fun hHeld => ?_)
            (refine wpAnyH_take (i := 0) (v := ?_) rfl (by kernel_rfl) (by kernel_rfl) (by kernel_rfl) (fun _ _ _ h => h) (Or.inl ⟨by kernel_rfl, ?_⟩) (by assumption) ?_; rotate_left; focus (intro w hSw; (try dsimp only at hSw); go_simp; try with_reducible rfl); (try simp only [List.getElem_toArray, List.getElem_cons_succ, List.getElem_cons_zero, Act.put, List.setIfInBounds_toArray, List.set_cons_zero, List.set_cons_succ])); (refine wpAnyH_take (i := 2) (v := ?_) rfl (by kernel_rfl) (by kernel_rfl) (by kernel_rfl) (fun _ _ _ h => h) (Or.inl ⟨by kernel_rfl, ?_⟩) (by assumption) ?_; rotate_left; focus (intro w hSw; (try dsimp only at hSw); go_simp; try with_reducible rfl); (try simp only [List.getElem_toArray, List.getElem_cons_succ, List.getElem_cons_zero, Act.put, List.setIfInBounds_toArray, List.set_cons_zero, List.set_cons_succ])); (refine wpAnyH_take (i := 3) (v := ?_) rfl (by kernel_rfl) (by kernel_rfl) (by kernel_rfl) (fun _ _ _ h => h) (Or.inl ⟨by kernel_rfl, ?_⟩) (by assumption) ?_; rotate_left; focus (intro w hSw; (try dsimp only at hSw); go_simp; try with_reducible rfl); (try simp only [List.getElem_toArray, List.getElem_cons_succ, List.getElem_cons_zero, Act.put, List.setIfInBounds_toArray, List.set_cons_zero, List.set_cons_succ])); (refine wpAnyH_take (i := 4) (v := ?_) rfl (by kernel_rfl) (by kernel_rfl) (by kernel_rfl) (fun _ _ _ h => h) (Or.inl ⟨by kernel_rfl, ?_⟩) (by assumption) ?_; rotate_left; focus (intro w hSw; (try dsimp only at hSw); go_simp; try with_reducible rfl); (try simp only [List.getElem_toArray, List.getElem_cons_succ, List.getElem_cons_zero, Act.put, List.setIfInBounds_toArray, List.set_cons_zero, List.set_cons_succ]))
            refine wpAnyH_ready (rs := [1, 5]) (by kernel_rfl) (by simp) (AllReadyH.cons rfl (fun K hK => ?_) (AllReadyH.cons rfl (fun K hK => ?_) AllReadyH.nil))
            · clear hHeld
              go_simp
              have bA := Lib.hid (below_new w3.drew (.cells #[.int .i64 x1, .int .i64 x2] 55))
              have sA := Lib.hid (And.intro ((bA.out.cell (p := ⟨bk, 0, none⟩) HBK.out.1).trans HBK.out.2.1) ((bA.out.cell (p := ⟨bk, 1, none⟩) HBK.out.1).trans HBK.out.2.2))
              have oA := Lib.hid (owns_dart w3.drew x1 x2)
              first
                | refine hK.out _ _ sA.out (fun hHeld => ?_)
                | refine hK _ _ sA.out (fun hHeld => ?_)
              clear hK K hHeld
              (try simp only [List.getElem_toArray, List.getElem_cons_succ, List.getElem_cons_zero, Act.put, List.setIfInBounds_toArray, List.set_cons_zero, List.set_cons_succ])
              refine wpAnyH_ready (rs := [5]) (by kernel_rfl) (by simp) ?_; refine AllReadyH.cons rfl (fun K hK => ?_) AllReadyH.nil
              go_simp
              go_at_call 51
              refine (HIH.out _).mono ?_; rintro e w5 ⟨v, rfl, o5, b5⟩
              obtain ⟨ad, c0, rfl, hr5, -, -, -⟩ := Reads.own o5
              have H5 : Hid (w5.ownsRow w3.heap.size 55 2 (.slice (some ⟨w3.heap.size, 0, none⟩) 1 1) 1 (darts [(x1, x2)]) ∧ Reads w5 ad (darts (firstD (q + 1) (r : Int))) ∧ Below w3.heap.size w3 w5 ∧ True) := Lib.hid ⟨owns_below oA.out b5, hr5, ((Below.refl _ _).drew.alloc (Nat.le_refl _) _).trans (b5.mono (by simp)), trivial⟩
              have HNE : Hid (ad ≠ none) := Lib.hid (by
                rintro rfl
                rcases hr5 with h | ⟨_, _, h, _⟩
                · have := congrArg List.length h; rw [darts_len, HL.out] at this; simp at this
                · cases h)
              have s5 := Lib.hid (And.intro ((H5.out.2.2.1.cell (p := ⟨bk, 0, none⟩) HBK.out.1).trans HBK.out.2.1) ((H5.out.2.2.1.cell (p := ⟨bk, 1, none⟩) HBK.out.1).trans HBK.out.2.2))
              clear hr5 o5 b5 oA sA bA
              rw [HL.out]
              go_wp2_with fail
              first
                | refine hK.out _ _ s5.out (fun hHeld => ?_)
                | refine hK _ _ s5.out (fun hHeld => ?_)
              clear hK K hHeld
              (try simp only [List.getElem_toArray, List.getElem_cons_succ, List.getElem_cons_zero, Act.put, List.setIfInBounds_toArray, List.set_cons_zero, List.set_cons_succ])
              refine wpAnyH_ready (rs := [6]) (by kernel_rfl) (by simp) ?_; refine AllReadyH.cons rfl (fun K hK => ?_) AllReadyH.nil
              refine wp_append_da _ _ rfl w3.heap.size w3 _ 1 [(x1, x2)] (firstD (q + 1) (r : Int)) ad (q + 1) c0 rfl rfl HL.out.symm H5.out.1 H5.out.2.1 H5.out.2.2.1 H5.out.2.2.1.size (by rw [HL.out]; omega) HNE.out ?_
              intro v' w6 o6 b6
              have hln : 1 + (firstD (q + 1) (r : Int)).length = (firstD (q + 1 + 1) (N : Int)).length := by rw [HFD.out, List.length_cons]; omega
              rw [hln, show [(x1, x2)] ++ firstD (q + 1) (r : Int) = firstD (q + 1 + 1) (N : Int) by rw [HFD.out]; rfl] at o6
              have H6 := Lib.hid (And.intro (owns_base o6 HB3.out.size) (HB3.out.trans (b6.mono HB3.out.size)))
              obtain ⟨a6, c6, rfl, -, -, -, -⟩ := Reads.own o6
              have s6 := Lib.hid (And.intro ((b6.cell (p := ⟨bk, 0, none⟩) HBK.out.1).trans HBK.out.2.1) ((b6.cell (p := ⟨bk, 1, none⟩) HBK.out.1).trans HBK.out.2.2))
              clear o6 b6 hln H5
              first
                | refine hK.out _ _ s6.out (fun hHeld => ?_)
                | refine hK _ _ s6.out (fun hHeld => ?_)
              clear hK K
              (try simp only [List.getElem_toArray, List.getElem_cons_succ, List.getElem_cons_zero, Act.put, List.setIfInBounds_toArray, List.set_cons_zero, List.set_cons_succ])
              (refine wpAnyH_take (i := 7) (v := ?_) rfl (by kernel_rfl) (by kernel_rfl) (by kernel_rfl) (fun _ _ _ h => h) (Or.inl ⟨by kernel_rfl, ?_⟩) (by assumption) ?_; rotate_left; focus (intro w hSw; (try dsimp only at hSw); go_simp; try with_reducible rfl); (try simp only [List.getElem_toArray, List.getElem_cons_succ, List.getElem_cons_zero, Act.put, List.setIfInBounds_toArray, List.set_cons_zero, List.set_cons_succ]))
              (try simp only [List.getElem_toArray, List.getElem_cons_succ, List.getElem_cons_zero, Act.put, List.setIfInBounds_toArray, List.set_cons_zero, List.set_cons_succ])
              refine wpAnyH_done (by kernel_rfl) ?_ _
              clear hHeld
              go_wp2_with fail
              go_ret
              exact ⟨_, rfl, H6.out.1, H6.out.2⟩
            · clear hHeld
              go_simp
              go_at_call 51
              refine (HIH.out _).mono ?_; rintro e w4 ⟨v, rfl, o5, b5⟩
              obtain ⟨ad, c0, rfl, hr5, -, -, -⟩ := Reads.own o5
              have HNE : Hid (ad ≠ none) := Lib.hid (by
                rintro rfl
                rcases hr5 with h | ⟨_, _, h, _⟩
                · have := congrArg List.length h; rw [darts_len, HL.out] at this; simp at this
                · cases h)
              have b4 : Below w3.heap.size w3 w4 := (Below.refl _ _).drew.trans (b5.mono (by simp))
              have s5 := Lib.hid (And.intro ((b4.cell (p := ⟨bk, 0, none⟩) HBK.out.1).trans HBK.out.2.1) ((b4.cell (p := ⟨bk, 1, none⟩) HBK.out.1).trans HBK.out.2.2))
              rw [HL.out]
              have H4 := Lib.hid (And.intro hr5 b4)
              clear hr5 o5 b5 b4
              go_wp2_with fail
              first
                | refine hK.out _ _ s5.out (fun hHeld => ?_)
                | refine hK _ _ s5.out (fun hHeld => ?_)
              clear hK K hHeld
              (try simp only [List.getElem_toArray, List.getElem_cons_succ, List.getElem_cons_zero, Act.put, List.setIfInBounds_toArray, List.set_cons_zero, List.set_cons_succ])
              refine wpAnyH_ready (rs := [1]) (by kernel_rfl) (by simp) ?_; refine AllReadyH.cons rfl (fun K hK => ?_) AllReadyH.nil
              go_simp
              have bA := Lib.hid (below_new w4 (.cells #[.int .i64 x1, .int .i64 x2] 55))
              have bB : Hid (Below w3.heap.size w3 (w4.alloc (.cells #[.int .i64 x1, .int .i64 x2] 55))) := Lib.hid (H4.out.2.alloc H4.out.2.size _)
              have sA := Lib.hid (And.intro ((bB.out.cell (p := ⟨bk, 0, none⟩) HBK.out.1).trans HBK.out.2.1) ((bB.out.cell (p := ⟨bk, 1, none⟩) HBK.out.1).trans HBK.out.2.2))
              have H5 : Hid ((w4.alloc (.cells #[.int .i64 x1, .int .i64 x2] 55)).ownsRow w3.heap.size 55 2 (.slice (some ⟨w4.heap.size, 0, none⟩) 1 1) 1 (darts [(x1, x2)]) ∧ Reads (w4.alloc (.cells #[.int .i64 x1, .int .i64 x2] 55)) ad (darts (firstD (q + 1) (r : Int))) ∧ Below w3.heap.size w3 (w4.alloc (.cells #[.int .i64 x1, .int .i64 x2] 55)) ∧ True) := Lib.hid ⟨owns_base (owns_dart w4 x1 x2) H4.out.2.size, H4.out.1.old bA.out, bB.out, trivial⟩
              first
                | refine hK.out _ _ sA.out (fun hHeld => ?_)
                | refine hK _ _ sA.out (fun hHeld => ?_)
              clear hK K hHeld
              (try simp only [List.getElem_toArray, List.getElem_cons_succ, List.getElem_cons_zero, Act.put, List.setIfInBounds_toArray, List.set_cons_zero, List.set_cons_succ])
              refine wpAnyH_ready (rs := [6]) (by kernel_rfl) (by simp) ?_; refine AllReadyH.cons rfl (fun K hK => ?_) AllReadyH.nil
              refine wp_append_da _ _ rfl w3.heap.size w3 _ 1 [(x1, x2)] (firstD (q + 1) (r : Int)) ad (q + 1) c0 rfl rfl HL.out.symm H5.out.1 H5.out.2.1 H5.out.2.2.1 H5.out.2.2.1.size (by rw [HL.out]; omega) HNE.out ?_
              intro v' w6 o6 b6
              have hln : 1 + (firstD (q + 1) (r : Int)).length = (firstD (q + 1 + 1) (N : Int)).length := by rw [HFD.out, List.length_cons]; omega
              rw [hln, show [(x1, x2)] ++ firstD (q + 1) (r : Int) = firstD (q + 1 + 1) (N : Int) by rw [HFD.out]; rfl] at o6
              have H6 := Lib.hid (And.intro (owns_base o6 HB3.out.size) (HB3.out.trans (b6.mono HB3.out.size)))
              obtain ⟨a6, c6, rfl, -, -, -, -⟩ := Reads.own o6
              have s6 := Lib.hid (And.intro ((b6.cell (p := ⟨bk, 0, none⟩) HBK.out.1).trans HBK.out.2.1) ((b6.cell (p := ⟨bk, 1, none⟩) HBK.out.1).trans HBK.out.2.2))
              clear o6 b6 hln H5
              first
                | refine hK.out _ _ s6.out (fun hHeld => ?_)
                | refine hK _ _ s6.out (fun hHeld => ?_)
              clear hK K
              (try simp only [List.getElem_toArray, List.getElem_cons_succ, List.getElem_cons_zero, Act.put, List.setIfInBounds_toArray, List.set_cons_zero, List.set_cons_succ])
              (refine wpAnyH_take (i := 7) (v := ?_) rfl (by kernel_rfl) (by kernel_rfl) (by kernel_rfl) (fun _ _ _ h => h) (Or.inl ⟨by kernel_rfl, ?_⟩) (by assumption) ?_; rotate_left; focus (intro w hSw; (try dsimp only at hSw); go_simp; try with_reducible rfl); (try simp only [List.getElem_toArray, List.getElem_cons_succ, List.getElem_cons_zero, Act.put, List.setIfInBounds_toArray, List.set_cons_zero, List.set_cons_succ]))
              (try simp only [List.getElem_toArray, List.getElem_cons_succ, List.getElem_cons_zero, Act.put, List.setIfInBounds_toArray, List.set_cons_zero, List.set_cons_succ])
              refine wpAnyH_done (by kernel_rfl) ?_ _
              clear hHeld
              go_wp2_with fail
              go_ret
              exact ⟨_, rfl, H6.out.1, H6.out.2⟩
          · have hfb : finB (q + 1) (r : Int) = false := by
              cases h : finB (q + 1) (r : Int)
              · rfl
              · exact absurd (hfin.2 h) q1
            rw [hfb] at hfd
            have HF2 : Hid ((l.drop (j + 1)).find? (pickB (q + 1) (N : Int)) = some d0) := Lib.hid (by simpa using hfd.symm)
            clear hfd hpk hfin hfb
            generalize finW (q + 1) (r : Int) = y at *
            go_wp2_with fail
            refine (HQ.out _).mono ?_; rintro e w3 ⟨rfl, b3⟩
            have HW3 := Lib.hid (And.intro (HW2.out.1.keep b3) (HW2.out.2.1.trans (b3.mono HW2.out.2.1.size))); clear b3 HW2
            go_wp2_with fail
            go_roundw
            case rel => exact ⟨j + 1, by go_num, by omega, HF2, HW3⟩
            case measure => simp [intOf]; omega
        · have hfb : finB (q + 1) ((N : Int) - x1 * x2) = false := by
            cases h : finB (q + 1) ((N : Int) - x1 * x2)
            · rfl
            · have := finB_pos _ _ h; omega
          rw [hpk, hfb] at hfd
          have HF2 : Hid ((l.drop (j + 1)).find? (pickB (q + 1) (N : Int)) = some d0) := Lib.hid (by simpa using hfd.symm)
          have HW3 := Lib.hid (And.intro HW2.out.1 HW2.out.2.1)
          clear hfd hpk hfb HW2
          go_wp2_with fail
          go_roundw
          case rel => exact ⟨j + 1, by go_num, by omega, HF2, HW3⟩
          case measure => simp [intOf]; omega
      · obtain rfl : j = l.length := by omega
        have := hF.out
        rw [List.drop_length] at this
        cases this
end Go.Proofs.Ytaplkciomagmiaa
