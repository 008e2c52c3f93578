/-
  Darts: FirstFinish: both sides.
-/
import Derived.Test.YtaplkciomagmiaaDnFirstS
import Derived.BigQuiet
import Derived.Scope
namespace Go.Proofs.Ytaplkciomagmiaa
open Go.RowKit
set_option linter.unusedVariables false
set_option linter.unusedSimpArgs false

theorem few_eq {n k : Nat} (h0 : canB n k = false) (h1 : finB (k + 1) n = true) : fewN n = ((k + 1 : Nat) : Int) := by
  have hle := fewN_le n (k + 1) h1
  rw [canB_few, Bool.and_eq_false_iff, decide_eq_false_iff_not, decide_eq_false_iff_not] at h0
  have hp : 0 < fewN n := by
    rcases fewN_is n with ⟨_, hn⟩ | ⟨h, _⟩
    · exact absurd ⟨k + 1, rfl, h1⟩ (hn _ (by omega))
    · exact h
  rcases h0 with h0 | h0
  · exact absurd hp h0
  · omega

set_option maxHeartbeats 3200000 in
theorem specFirstFinish_any (a b : Int) (w : World) :
    Calls Try.prog 22 #[.int .i64 a, .int .i64 b] w fun e w' => RowD (fsL a b) (fsO a b) w e w' := by
  cases h1 : inR a 0 1001
  · have e2 : canV a b = false := by simp [canV, askB, h1]
    have e1 : fsL a b = [] := by simp [fsL, e2]
    rw [e1, show fsO a b = false from e2]
    have H1 := Lib.hid h1; clear h1 e1 e2
    go_enter Try.func22, Try.ntmps22
    go_wp2_with fail
    refine (daLeft_any _ _).mono ?_; rintro e w1 ⟨rfl, rfl⟩
    rw [H1.out]
    go_wp2_with fail
    go_ret2
    exact ⟨_, rfl, owns_nilD _ _ _, Below.refl _ _⟩
  · cases h2 : inR b 1 3
    · have e2 : canV a b = false := by simp [canV, askB, h2]
      have e1 : fsL a b = [] := by simp [fsL, e2]
      rw [e1, show fsO a b = false from e2]
      have H1 := Lib.hid h1; clear h1 e1 e2
      have H2 := Lib.hid h2; clear h2
      go_enter Try.func22, Try.ntmps22
      go_wp2_with fail
      refine (daLeft_any _ _).mono ?_; rintro e w1 ⟨rfl, rfl⟩
      rw [H1.out]
      go_wp2_with fail
      refine (daDarts_any _ _).mono ?_; rintro e w1 ⟨rfl, rfl⟩
      rw [H2.out]
      go_wp2_with fail
      go_ret2
      exact ⟨_, rfl, owns_nilD _ _ _, Below.refl _ _⟩
    · have e2 : askB a b = true := by simp [askB, h1, h2]
      obtain ⟨n, d, rfl, rfl, hn, hd1, hd3⟩ := askB_nat e2
      obtain ⟨L, hL⟩ : ∃ L, L = fsL n d := ⟨_, rfl⟩
      obtain ⟨o, ho⟩ : ∃ o, o = fsO n d := ⟨_, rfl⟩
      have hov : canB n d = o := by rw [ho]; simp [fsO, canV, e2]
      have hLv : o = true → L = firstD (fewN n).toNat n := fun h => by rw [hL]; unfold fsL; rw [if_pos (show canV n d = true by rw [← h, ho]; rfl)]; rfl
      have hLn : o = false → L = [] := fun h => by rw [hL]; unfold fsL; rw [if_neg (by rw [show canV n d = o by rw [ho]; rfl, h]; simp)]
      rw [← hL, ← ho]
      have H1 := Lib.hid h1; clear h1 e2
      have H2 := Lib.hid h2; clear h2
      have HO := Lib.hid (And.intro hov (And.intro hLv hLn)); clear hov hLv hLn hL ho
      go_enter Try.func22, Try.ntmps22
      go_wp2_with fail
      refine (daLeft_any _ _).mono ?_; rintro e w1 ⟨rfl, rfl⟩
      rw [H1.out]
      go_wp2_with fail
      refine (daDarts_any _ _).mono ?_; rintro e w1 ⟨rfl, rfl⟩
      rw [H2.out]
      go_wp2_with fail
      go_loopw [6] (fun i wr => ∃ k : Nat, i = .int .i64 ((k : Int) + 1) ∧ k ≤ d ∧ Hid (canB n k = false) ∧ Below w.heap.size w wr) (fun i _ => d + 1 - (intOf i).toNat)
      case atStart => exact ⟨0, rfl, Nat.zero_le _, Lib.hid rfl, Below.refl _ _⟩
      case round =>
        obtain ⟨k, rfl, hk, hc, hbel⟩ := hrel
        by_cases hlt : k < d
        · have b1 : (k : Int) + 1 ≤ (d : Int) := by omega
          have hstep : canB n (k + 1) = finB (k + 1) n := by unfold canB; rw [hc.out, Bool.false_or]
          have hw : wrap64 (finW (k + 1) n) = finW (k + 1) n := wrap64_fin (by omega) _
          have hpos := finW_fin k n
          have HQ := Lib.hid (daFinishes_any n (k + 1) hn (by omega) (by omega))
          rw [show ((k + 1 : Nat) : Int) = (k : Int) + 1 from rfl, hw] at HQ
          by_cases q : 0 < finW (k + 1) n
          · have hf := hpos.1 q
            have hcan : canB n d = true := (canB_iff _ _).2 ⟨k + 1, by omega, hf⟩
            have ho : o = true := by rw [← HO.out.1]; exact hcan
            have hLe : L = firstD (k + 1) n := by rw [HO.out.2.1 ho, few_eq hc.out hf, Int.toNat_natCast]
            have HF := Lib.hid (daFirst_any k (by omega) n hn hf)
            have HX := Lib.hid (And.intro ho hLe)
            clear hcan hf hpos hstep hw hc ho hLe HO
            generalize finW (k + 1) n = v at *
            go_wp2_with fail
            refine (HQ.out _).mono ?_; rintro e w1 ⟨rfl, b2⟩
            have hb2 := hbel.trans (b2.mono hbel.size)
            go_wp2_with fail
            refine (HF.out _).mono ?_; rintro e w3 ⟨v3, rfl, o3, b3⟩
            go_wp2_with fail
            go_ret2
            exact ⟨_, by rw [HX.out.1]; rfl, by rw [HX.out.2]; exact owns_base o3 hb2.size, hb2.trans (b3.mono hb2.size)⟩
          · have hf : finB (k + 1) n = false := by
              cases h : finB (k + 1) n
              · rfl
              · exact absurd (hpos.2 h) q
            have HS := Lib.hid (hstep.trans hf)
            clear hf hpos hstep hw hc
            generalize finW (k + 1) n = v at *
            go_wp2_with fail
            refine (HQ.out _).mono ?_; rintro e w1 ⟨rfl, b2⟩
            have hb2 := hbel.trans (b2.mono hbel.size)
            go_wp2_with fail
            go_roundw
            case rel => exact ⟨k + 1, by go_num, by omega, HS, hb2⟩
            case measure => simp [intOf]; omega
        · obtain rfl : d = k := by omega
          have b1 : ¬ (d : Int) + 1 ≤ (d : Int) := by omega
          have ho : o = false := by rw [← HO.out.1]; exact hc.out
          have HX := Lib.hid (And.intro ho (HO.out.2.2 ho)); clear ho hc
          go_wp2_with fail
          go_ret2
          exact ⟨_, by rw [HX.out.1]; rfl, by rw [HX.out.2]; exact owns_nilD _ _ _, hbel⟩

/-- The least numbers, all darts, and the finish so far. -/
def FfW (w W1 : World) (g8 gd : Nat) (l : List (Int × Int)) (wr : World) : Prop :=
  RowAt wr g8 47 fewLs ∧ DcAt wr gd l ∧ Below w.heap.size w wr ∧ g8 < W1.heap.size ∧ gd < W1.heap.size ∧ Below W1.heap.size W1 wr
theorem FfW.keep {w W1 wr w' : World} {g8 gd : Nat} {l : List (Int × Int)} (h : FfW w W1 g8 gd l wr) (hb : Below wr.heap.size wr w') : FfW w W1 g8 gd l w' :=
  ⟨h.1.keep hb, h.2.1.keep hb, h.2.2.1.trans (hb.mono h.2.2.1.size), h.2.2.2.1, h.2.2.2.2.1, h.2.2.2.2.2.trans (hb.mono h.2.2.2.2.2.size)⟩
theorem FfW.drewN {w W1 wr : World} {g8 gd : Nat} {l : List (Int × Int)} (h : FfW w W1 g8 gd l wr) (n : Nat) : FfW w W1 g8 gd l (wr.drewN n) :=
  ⟨h.1, h.2.1, below_drewN h.2.2.1 n, h.2.2.2.1, h.2.2.2.2.1, below_drewN h.2.2.2.2.2 n⟩
theorem DcAt.old {w w' : World} {g B : Nat} {l : List (Int × Int)} (h : DcAt w g l) (hb : Below B w w') (hg : g < B) : DcAt w' g l :=
  ⟨Nat.lt_of_lt_of_le h.1 hb.size, fun j hj => by rw [hb.cell (p := ⟨g, j * 2, none⟩) hg, hb.cell (p := ⟨g, j * 2 + 1, none⟩) hg]; exact h.2 j hj⟩
theorem FfW.grow {w W1 W0 w' : World} {g8 gd : Nat} {l : List (Int × Int)} (h : FfW w W1 g8 gd l W1) (hb : Below W1.heap.size W1 w') : FfW w W1 g8 gd l w' :=
  ⟨h.1.old2 hb h.2.2.2.1, h.2.1.old hb h.2.2.2.2.1, h.2.2.1.trans (hb.mono h.2.2.1.size), h.2.2.2.1, h.2.2.2.2.1, hb⟩
/-- The finish so far, in its own row. -/
def OwD (W1 : World) (L0 : List (Int × Int)) (v : Value) (wr : World) : Prop := wr.ownsRow W1.heap.size 55 2 v L0.length (darts L0) ∧ Below W1.heap.size W1 wr

set_option maxRecDepth 10000 in
set_option maxHeartbeats 12800000 in
theorem implFirstFinish_any (a b : Int) (w : World) :
    Calls Try.prog 23 #[.int .i64 a, .int .i64 b] w fun e w' => RowD (fsL a b) (fsO a b) w e w' := by
  cases hcv : canV a b
  · have e1 : fsL a b = [] := by simp [fsL, hcv]
    rw [e1, show fsO a b = false from hcv]
    have HQ := Lib.hid (implCanFinish_any a b)
    rw [hcv] at HQ
    cases hak : askB a b
    all_goals
      rw [hak] at HQ
      have HQ2 := Lib.hid HQ.out
      clear HQ e1 hcv hak
      go_enter Try.func23, Try.ntmps23
      go_wp2_with fail
      refine wp_scope_straight ?_
      go_wp2_with fail
      refine (HQ2.out _).mono ?_; rintro e w1 ⟨rfl, b1⟩
      go_wp2_with fail
      go_ret2
      exact ⟨_, rfl, owns_nilD _ _ _, b1⟩
  · have hak : askB a b = true := by unfold canV at hcv; rw [Bool.and_eq_true] at hcv; exact hcv.1
    obtain ⟨n, d, rfl, rfl, hn, hd1, hd3⟩ := askB_nat hak
    obtain ⟨R, hR⟩ : ∃ R, R = fsL n d := ⟨_, rfl⟩
    have hRv : R = firstD (fewN n).toNat n := by rw [hR]; unfold fsL; rw [if_pos hcv]; rfl
    rw [← hR, show fsO n d = true from hcv]
    have hcb : canB n d = true := by unfold canV at hcv; rw [Bool.and_eq_true] at hcv; simpa using hcv.2
    rw [canB_few, Bool.and_eq_true, decide_eq_true_eq, decide_eq_true_eq] at hcb
    obtain ⟨hf0, hf1⟩ := hcb
    obtain ⟨M, hM⟩ : ∃ M : Nat, fewN n = M := ⟨(fewN n).toNat, by omega⟩
    rw [hM] at hf0 hf1 hRv
    rw [Int.toNat_natCast] at hRv
    have HQ := Lib.hid (implCanFinish_any n d)
    rw [hcv, hak] at HQ
    have HRv := Lib.hid (And.intro hRv hM); clear hR hRv hcv hak hM
    have HZ : Hid (Try.zeroCells47.size = fewA.size ∧ (Try.prog.info? 47).map (·.size) = some fewA.size ∧ fewA.all (·.oneCell') = true) := Lib.hid ⟨by rw [fewA_size]; exact Try.zeroCells47_size, by rw [fewA_size]; exact info1002, by rw [fewA_is]; exact ints_flat _⟩
    have hfew := Lib.hid fewest_all
    obtain ⟨i0, hi, hz0, hz1, hz2⟩ := info_parts infoD
    have HI := Lib.hid (And.intro hi (And.intro hz0 (And.intro hz1 hz2))); clear hi hz0 hz1 hz2
    go_enter Try.func23, Try.ntmps23
    go_wp2_with fail
    refine wp_scope_straight ?_
    go_wp2_with fail
    refine (HQ.out _).mono ?_; rintro e w1 ⟨rfl, b1⟩
    have B1 := Lib.hid b1; clear b1 HQ
    go_wp2_with fail
    refine (hfew.out _).mono ?_; rintro e w2 ⟨rfl, b2⟩
    have B2 := Lib.hid (B1.out.trans (b2.mono B1.out.size)); clear b2 B1
    go_upto_region 5 with (refine wpList_store_row rfl 47 _ _ rfl _ fewA rfl rfl _ _ (heap_alloc_last _ _) HZ.out.2.1 HZ.out.1 HZ.out.2.2 ?_; rw [World.setRow_alloc_new])
    have H3 : Hid (RowAt (w2.alloc (.cells fewA 47)) w2.heap.size 47 fewLs ∧ Below w.heap.size w (w2.alloc (.cells fewA 47))) := Lib.hid ⟨by unfold RowAt; rw [← fewA_list]; exact heap_alloc_last _ _, B2.out.trans ((below_new w2 _).mono B2.out.size)⟩
    clear B2
    generalize w2.alloc (.cells fewA 47) = w3 at *
    generalize w2.heap.size = g8 at *
    go_wp2_with fail
    refine (allDarts_any _).mono ?_; rintro e W1 ⟨v0, rfl, hown, b1⟩
    obtain ⟨gd, cap, rfl, hgd, hdc⟩ := dcells_of_own hown (by rw [allD_len]; omega)
    obtain ⟨l, hl⟩ : ∃ l, l = allD := ⟨_, rfl⟩
    rw [← hl] at hdc ⊢
    have hl62 : l.length ≤ 62 := by rw [hl, allD_len]; omega
    have HL := Lib.hid hl; clear hl
    have HS : Hid (FfW w W1 g8 gd l W1) := Lib.hid ⟨H3.out.1.keep b1, hdc, H3.out.2.trans (b1.mono H3.out.2.size), (H3.out.1.keep b1).lt, hdc.1, Below.refl _ _⟩
    clear hown hdc H3 b1 hgd
    go_wp2_with fail
    apply wp_label
    go_wp2_with fail
    go_loopw [0, 10, 29] (fun x v i wr => ∃ (i0 x0 M0 : Nat) (L0 : List (Int × Int)) (t : Value), i = .int .i64 i0 ∧ x = .int .i64 x0 ∧ t = v ∧ x0 ≤ 1001 ∧ 0 < M0 ∧ M0 + i0 = M ∧ L0.length = i0 ∧ Hid (fewN x0 = M0) ∧ Hid (L0 ++ firstD M0 x0 = R) ∧ Hid (FfW w W1 g8 gd l wr) ∧ Hid (OwD W1 L0 t wr)) (fun _ _ i _ => d + 1 - (intOf i).toNat)
    case atStart => exact ⟨0, n, M, [], _, rfl, rfl, rfl, hn, by omega, by omega, rfl, Lib.hid HRv.out.2, Lib.hid (by rw [HRv.out.1]; rfl), HS, Lib.hid ⟨owns_nilD _ _ _, Below.refl _ _⟩⟩
    case round =>
      have HS0 := HS
      clear HS HRv
      obtain ⟨i, x, M0, L0, t, rfl, rfl, rfl, hx, hM0, hMi, rfl, hfx, hR, hW, hO⟩ := hrel
      have b1 : (L0.length : Int) < (d : Int) := by omega
      obtain ⟨m, rfl⟩ : ∃ m, M0 = m + 1 := ⟨M0 - 1, by omega⟩
      obtain ⟨d0, hfd, -, -⟩ := find_some (m := m) (n := (x : Int)) (by have := fewN_fin x (by rw [hfx.out]; omega); rw [hfx.out, Int.toNat_natCast] at this; exact this)
      rw [← HL.out] at hfd
      have hR2 : L0 ++ d0 :: firstD m ((x : Int) - scD d0) = R := by rw [← firstD_some (by rw [← HL.out]; exact hfd)]; exact hR.out
      have HR2 := Lib.hid hR2
      have HFS := Lib.hid hfd; clear hfd hR2 hR
      go_wp2_with fail
      go_loopw [0, 10, 33] (fun x' v' i wr => ∃ j : Nat, i = .int .i64 j ∧ x' = .int .i64 (x : Int) ∧ t = v' ∧ j ≤ l.length ∧ Hid ((l.drop j).find? (pickB m (x : Int)) = some d0) ∧ Hid (FfW w W1 g8 gd l wr) ∧ Hid (OwD W1 L0 t wr)) (fun _ _ i _ => l.length - (intOf i).toNat)
      case atStart => exact ⟨0, rfl, rfl, rfl, Nat.zero_le _, HFS, hW, hO⟩
      case round =>
        clear HFS hW hO
        obtain ⟨j, rfl, rfl, rfl, hj, hF, hW, hO⟩ := hrel
        by_cases hlt : j < l.length
        · have b2 : (j : Int) < (l.length : Int) := by omega
          obtain ⟨c0, c1⟩ := hW.out.2.1.2 j hlt
          have hfd := find_drop (p := pickB m (x : Int)) hlt
          rw [hF.out] at hfd
          have hmem : l.getD j (0, 0) ∈ allD := by rw [← HL.out]; simp [hlt]
          have hbd := allD_bd (l.getD j (0, 0)) hmem
          generalize l.getD j (0, 0) = y at *
          obtain ⟨x1, x2⟩ := y
          simp only [scD] at hbd
          simp only at c0 c1
          obtain ⟨g5, g6, -, -, -, -⟩ := hbd
          have HMem := Lib.hid hmem; clear hmem hF
          go_wp2_with fail
          refine (dartScore_any x1 x2 _ g5 g6).mono ?_; rintro e w2 ⟨rfl, bd2⟩
          have hWa := (hW.out.keep (below_new wr (.cells #[.int .i64 x1, .int .i64 x2] 55)))
          have HW2 : Hid (FfW w W1 g8 gd l w2) := Lib.hid (hWa.keep bd2)
          have HO2 : Hid (OwD W1 L0 t w2) := Lib.hid ⟨owns_below (hO.out.1.alloc _) bd2, HW2.out.2.2.2.2.2⟩
          have k0 : w2.cell? ⟨wr.heap.size, 0, none⟩ = some (.int .i64 x1) := by rw [bd2.cell (p := ⟨wr.heap.size, 0, none⟩) (by simp), World.cell?_alloc_at _ _ _ _ rfl]; rfl
          have k1 : w2.cell? ⟨wr.heap.size, 1, none⟩ = some (.int .i64 x2) := by rw [bd2.cell (p := ⟨wr.heap.size, 1, none⟩) (by simp), World.cell?_alloc_at _ _ _ _ rfl]; rfl
          have hbk : wr.heap.size < w2.heap.size := by have := bd2.size; simp at this; omega
          clear hW hO bd2 c0 c1 hWa
          generalize wr.heap.size = bk at *
          by_cases q0 : (x : Int) - x1 * x2 = 0
          · have e3 : ((x : Int) - x1 * x2 == 0) = true := by simp [q0]
            have q0' : ¬ (0 < (x : Int) - x1 * x2) := by omega
            by_cases q4 : x2 = 2
            · have e4 : (x2 == 2) = true := by simp [q4]
              have hm0 : m = 0 := by
                have h1 : finB 1 (x : Int) = true := by
                  simp only [finB, List.any_eq_true]
                  exact ⟨(x1, x2), HMem.out, by simp [scD, dblD, q4]; rw [q4] at q0; omega⟩
                have := fewN_le x 1 h1
                rw [hfx.out] at this; omega
              have hp : pickB m (x : Int) (x1, x2) = true := by
                rw [hm0]; unfold pickB; rw [if_pos rfl]
                have : decide ((x : Int) - scD (x1, x2) = 0) = true := decide_eq_true q0
                rw [this, Bool.true_and]; exact e4
              rw [if_pos hp] at hfd
              have hd0 : d0 = (x1, x2) := by simpa using hfd
              have hRr : L0 ++ [(x1, x2)] = R := by rw [← HR2.out, hd0, hm0]; rfl
              have HRr := Lib.hid hRr
              have HBk := Lib.hid (And.intro hbk (And.intro k0 k1))
              have E4 := Lib.hid e4; clear e4 q4 hfd hd0 hRr hp q0
              go_wp2_with fail
              refine (isDouble_any x1 x2 _).mono ?_; rintro r w5 ⟨rfl, bd3⟩
              rw [E4.out]
              have k0 := (bd3.cell (p := ⟨bk, 0, none⟩) HBk.out.1).trans HBk.out.2.1
              have k1 := (bd3.cell (p := ⟨bk, 1, none⟩) HBk.out.1).trans HBk.out.2.2
              have HW3 : Hid (FfW w W1 g8 gd l w5) := Lib.hid (HW2.out.keep bd3)
              have HOw : Hid (w5.ownsRow W1.heap.size 55 2 t L0.length (darts L0) ∧ Below W1.heap.size W1 w5 ∧ L0.length ≤ 3) := Lib.hid ⟨owns_below HO2.out.1 bd3, HW3.out.2.2.2.2.2, by omega⟩
              have HNw := Lib.hid (cell_two_new w5 (.int .i64 x1) (.int .i64 x2) 55)
              have hs5 := HW3.out.2.2.2.2.2.size
              clear bd3 HW2 HO2 HBk
              go_wp2_with (at_builtin; refine wpList_append_own_at _ rfl _ _ 33 rfl W1.heap.size 55 i0 (.agg #[.int .i64 0, .int .i64 0]) 2 16 Try.underlying33 HI.out.1 HI.out.2.1 HI.out.2.2.1 HI.out.2.2.2 rfl (by decide) _ _ _ rfl (HOw.out.1.alloc _) ⟨w5.heap.size, 0, none⟩ 1 1 [.int .i64 x1, .int .i64 x2] rfl rfl HNw.out ?_ ?_ ?_ ?_ ?_)
              · first | (intro u hu; simp at hu; rcases hu with rfl | rfl <;> rfl) | simp [Value.oneCell']
              · have := HOw.out.2.2; unfold maxLen; omega
              · have := HOw.out.2.2; omega
              · first | omega | (simp; omega)
              intro v' w6 hown6 hgrow6 _ _
              have hb6 : Below W1.heap.size W1 w6 := (HOw.out.2.1.alloc HOw.out.2.1.size _).grown hgrow6 (by have := HOw.out.2.1.size; simp; omega) (fun g hg => by
                obtain ⟨_, h | ⟨g', cap', cur, hv, hb', _⟩⟩ := HOw.out.1
                · rw [h.1] at hg; cases hg
                · rw [hv] at hg; simp [Value.ownBlock] at hg; omega)
              rw [show darts L0 ++ [.int .i64 x1, .int .i64 x2] = darts (L0 ++ [(x1, x2)]) by rw [darts_append]; rfl, show L0.length + 1 = (L0 ++ [(x1, x2)]).length by simp] at hown6
              have H6 := Lib.hid (And.intro hown6 hb6); clear hown6 hgrow6 hb6 HNw
              have HX := Lib.hid (And.intro H6.out.1 (HS0.out.grow (W0 := w) H6.out.2).2.2.1)
              clear HW3 HOw H6
              go_wp2_with fail
              go_ret2
              exact ⟨_, rfl, by rw [← HRr.out]; exact owns_base HX.out.1 HS0.out.2.2.1.size, HX.out.2⟩
            · have e4 : (x2 == 2) = false := by simp [q4]
              have hp : pickB m (x : Int) (x1, x2) = false := by
                unfold pickB
                by_cases qm : m = 0
                · rw [if_pos qm, show dblD (x1, x2) = false from e4, Bool.and_false]
                · rw [if_neg qm]
                  cases h : finB m ((x : Int) - scD (x1, x2))
                  · rfl
                  · have := finB_pos _ _ h
                    have hz : (x : Int) - scD (x1, x2) = 0 := q0
                    omega
              rw [if_neg (by rw [hp]; simp)] at hfd
              have HF2 := Lib.hid hfd.symm
              have E4 := Lib.hid e4; clear e4 q4 hfd hp q0
              go_wp2_with fail
              refine (isDouble_any x1 x2 _).mono ?_; rintro r w5 ⟨rfl, bd3⟩
              rw [E4.out]
              have HW3 : Hid (FfW w W1 g8 gd l w5) := Lib.hid (HW2.out.keep bd3)
              have HO3 : Hid (OwD W1 L0 t w5) := Lib.hid ⟨owns_below HO2.out.1 bd3, HW3.out.2.2.2.2.2⟩
              clear bd3 HW2 HO2 k0 k1
              have hdec : decide (x1 * x2 < (x : Int)) = false := decide_eq_false (by omega)
              go_wp2_with fail
              go_quiet (fail)
              go_wp2_with fail
              go_roundw
              case rel => exact ⟨j + 1, by go_num, rfl, rfl, by omega, HF2, Lib.hid (HW3.out.drewN _), Lib.hid ⟨HO3.out.1, below_drewN HO3.out.2 _⟩⟩
              case measure => simp [intOf]; omega
          · by_cases q1 : 0 < (x : Int) - x1 * x2
            · obtain ⟨r, hr⟩ : ∃ r : Nat, (x : Int) - x1 * x2 = (r : Int) := ⟨((x : Int) - x1 * x2).toNat, by omega⟩
              have hrx : r < x := by omega
              have hr0 : 0 < r := by omega
              have e3 : ((r : Int) == 0) = false := by simp; omega
              have q1' : (0 : Int) < (r : Int) := by omega
              have b3 : (r : Int) < 1002 := by omega
              have b4 : (x : Int) < 1002 := by omega
              have cr := HW2.out.1.cell (j := r) (by rw [fewLs_len]; omega)
              have cx := HW2.out.1.cell (j := x) (by rw [fewLs_len]; omega)
              rw [fewLs_get (by omega)] at cr cx
              rw [hfx.out, show ((m + 1 : Nat) : Int) = (m : Int) + 1 from rfl] at cx
              have hfr := fewN_nn r
              have hstep := fun hp => few_step (n := x) HMem.out (r := r) hr hp
              rw [hfx.out] at hstep
              have hpk : pickB m (x : Int) (x1, x2) = (if m = 0 then false else finB m (r : Int)) := by
                unfold pickB
                have hz : (x : Int) - scD (x1, x2) = (r : Int) := hr
                rw [hz, decide_eq_false (show ¬ (r : Int) = 0 by omega), Bool.false_and]
              have hfin : 0 < fewN r → fewN r = m → finB m (r : Int) = true := fun h0 h1 => by
                have := fewN_fin r h0
                rw [h1, Int.toNat_natCast] at this; exact this
              have hle : finB m (r : Int) = true → fewN r ≤ m := fewN_le r m
              have hps : finB m (r : Int) = true → 0 < fewN r := fun h => by
                rcases fewN_is r with ⟨_, hn⟩ | ⟨h', _⟩
                · refine absurd ⟨m, rfl, h⟩ (hn _ ?_)
                  cases m with
                  | zero => simp [finB] at h
                  | succ m => omega
                · exact h'
              have hdec1 : decide (x1 * x2 < (x : Int)) = true := decide_eq_true (by omega)
              clear q0 q1
              by_cases hT : fewN r = m ∧ 0 < m
              · obtain ⟨hT1, hT2⟩ := hT
                have hp : pickB m (x : Int) (x1, x2) = true := by rw [hpk, if_neg (by omega)]; exact hfin (by omega) hT1
                rw [if_pos hp] at hfd
                have hd0 : d0 = (x1, x2) := by simpa using hfd
                have hRr : (L0 ++ [(x1, x2)]) ++ firstD m (r : Int) = R := by
                  rw [← HR2.out, hd0, List.append_assoc]
                  have hz : (x : Int) - scD (x1, x2) = (r : Int) := hr
                  rw [hz]; rfl
                have HRr := Lib.hid (And.intro hRr hT1)
                rw [hT1] at cr
                have hm0 : decide (0 < m) = true := decide_eq_true hT2
                have hm1 : (0 : Int) < (m : Int) := by omega
                clear hfin hle hps hpk hstep hfr hp hfd hd0 hRr hT1
                go_wp2_with fail
                go_quiet (fail)
                have HBk : Hid (bk < (w2.drewN nq).heap.size ∧ (w2.drewN nq).cell? ⟨bk, 0, none⟩ = some (.int .i64 x1) ∧ (w2.drewN nq).cell? ⟨bk, 1, none⟩ = some (.int .i64 x2)) := Lib.hid ⟨hbk, k0, k1⟩
                have HW3 : Hid (FfW w W1 g8 gd l (w2.drewN nq)) := Lib.hid (HW2.out.drewN nq)
                have HOw : Hid ((w2.drewN nq).ownsRow W1.heap.size 55 2 t L0.length (darts L0) ∧ Below W1.heap.size W1 (w2.drewN nq) ∧ L0.length ≤ 3) := Lib.hid ⟨HO2.out.1, below_drewN HO2.out.2 _, by omega⟩
                clear HW2 HO2 cr cx k0 k1 hbk
                generalize w2.drewN nq = w5 at *
                have k0 := HBk.out.2.1
                have k1 := HBk.out.2.2
                have HNw := Lib.hid (cell_two_new w5 (.int .i64 x1) (.int .i64 x2) 55)
                have hs5 := HW3.out.2.2.2.2.2.size
                go_wp2_with (at_builtin; refine wpList_append_own_at _ rfl _ _ 33 rfl W1.heap.size 55 i0 (.agg #[.int .i64 0, .int .i64 0]) 2 16 Try.underlying33 HI.out.1 HI.out.2.1 HI.out.2.2.1 HI.out.2.2.2 rfl (by decide) _ _ _ rfl (HOw.out.1.alloc _) ⟨w5.heap.size, 0, none⟩ 1 1 [.int .i64 x1, .int .i64 x2] rfl rfl HNw.out ?_ ?_ ?_ ?_ ?_)
                · first | (intro u hu; simp at hu; rcases hu with rfl | rfl <;> rfl) | simp [Value.oneCell']
                · have := HOw.out.2.2; unfold maxLen; omega
                · have := HOw.out.2.2; omega
                · first | omega | (simp; omega)
                intro v' w6 hown6 hgrow6 _ _
                have hb6 : Below W1.heap.size W1 w6 := (HOw.out.2.1.alloc HOw.out.2.1.size _).grown hgrow6 (by have := HOw.out.2.1.size; simp; omega) (fun g hg => by
                  obtain ⟨_, h | ⟨g', cap', cur, hv, hb', _⟩⟩ := HOw.out.1
                  · rw [h.1] at hg; cases hg
                  · rw [hv] at hg; simp [Value.ownBlock] at hg; omega)
                rw [show darts L0 ++ [.int .i64 x1, .int .i64 x2] = darts (L0 ++ [(x1, x2)]) by rw [darts_append]; rfl, show L0.length + 1 = (L0 ++ [(x1, x2)]).length by simp] at hown6
                have H6 := Lib.hid (And.intro hown6 hb6); clear hown6 hgrow6 hb6 HNw
                have HX : Hid (FfW w W1 g8 gd l w6 ∧ OwD W1 (L0 ++ [(x1, x2)]) v' w6) := Lib.hid ⟨HS0.out.grow (W0 := w) H6.out.2, H6.out⟩
                clear HW3 HOw H6
                go_wp2_with fail
                go_roundw
                case rel => exact ⟨L0.length + 1, r, m, L0 ++ [(x1, x2)], _, by go_num, rfl, rfl, by omega, by omega, by omega, by simp, Lib.hid HRr.out.2, Lib.hid HRr.out.1, Lib.hid HX.out.1, Lib.hid HX.out.2⟩
                case measure => simp [intOf]; omega
              · have hp : pickB m (x : Int) (x1, x2) = false := by
                  rw [hpk]
                  by_cases qm : m = 0
                  · rw [if_pos qm]
                  · rw [if_neg qm]
                    cases h : finB m (r : Int)
                    · rfl
                    · have h1 := hle h
                      have h2 := hstep (hps h)
                      exact absurd ⟨by omega, by omega⟩ hT
                rw [if_neg (by rw [hp]; simp)] at hfd
                have HF2 := Lib.hid hfd.symm
                have hT' : fewN r = 0 ∨ (0 < fewN r ∧ fewN r ≠ m) := by
                  by_cases z : 0 < fewN r
                  · exact .inr ⟨z, fun e => hT ⟨e, by omega⟩⟩
                  · exact .inl (by omega)
                clear hfin hle hps hpk hstep hp hfd hT
                generalize fewN r = y at *
                rcases hT' with rfl | ⟨h1, h2⟩
                · go_wp2_with fail
                  go_quiet (fail)
                  go_wp2_with fail
                  go_roundw
                  case rel => exact ⟨j + 1, by go_num, rfl, rfl, by omega, HF2, Lib.hid (HW2.out.drewN _), Lib.hid ⟨HO2.out.1, below_drewN HO2.out.2 _⟩⟩
                  case measure => simp [intOf]; omega
                · have e5 : (y == (m : Int)) = false := by rw [beq_eq_false_iff_ne]; exact h2
                  have hdy : decide (0 < y) = true := decide_eq_true h1
                  go_wp2_with fail
                  go_quiet (fail)
                  go_wp2_with fail
                  go_roundw
                  case rel => exact ⟨j + 1, by go_num, rfl, rfl, by omega, HF2, Lib.hid (HW2.out.drewN _), Lib.hid ⟨HO2.out.1, below_drewN HO2.out.2 _⟩⟩
                  case measure => simp [intOf]; omega
            · have e3 : ((x : Int) - x1 * x2 == 0) = false := by simp [q0]
              have hp : pickB m (x : Int) (x1, x2) = false := by
                unfold pickB
                have hz : (x : Int) - scD (x1, x2) < 0 := by show (x : Int) - x1 * x2 < 0; omega
                by_cases qm : m = 0
                · rw [if_pos qm, decide_eq_false (by omega), Bool.false_and]
                · rw [if_neg qm]
                  cases h : finB m ((x : Int) - scD (x1, x2))
                  · rfl
                  · have := finB_pos _ _ h; omega
              rw [if_neg (by rw [hp]; simp)] at hfd
              have HF2 := Lib.hid hfd.symm
              clear hfd hp
              have hdec : decide (x1 * x2 < (x : Int)) = false := decide_eq_false (by omega)
              go_wp2_with fail
              go_quiet (fail)
              go_wp2_with fail
              go_roundw
              case rel => exact ⟨j + 1, by go_num, rfl, rfl, by omega, HF2, Lib.hid (HW2.out.drewN _), Lib.hid ⟨HO2.out.1, below_drewN HO2.out.2 _⟩⟩
              case measure => simp [intOf]; omega
        · obtain rfl : j = l.length := by omega
          have := hF.out
          rw [List.drop_length] at this
          cases this
end Go.Proofs.Ytaplkciomagmiaa
