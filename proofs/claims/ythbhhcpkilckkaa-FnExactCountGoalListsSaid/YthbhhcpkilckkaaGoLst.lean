/-
  Goals: CountGoalLists: the model's.
-/
import Derived.Test.YthbhhcpkilckkaaGoLstM
import Derived.Test.YthbhhcpkilckkaaGoFew
import Derived.StillTailTactics
namespace Go.Proofs.Ythbhhcpkilckkaa
open Go.RowKit
set_option linter.unusedVariables false
set_option linter.unusedSimpArgs false

set_option maxHeartbeats 3200000 in
theorem specLst_any (ks : List Int) (s : Int) (a : Option Addr) (c : Nat) (w : World) (hl : (ks.length : Int) ≤ 1000000000000) (h : Reads w a (ints ks)) :
    Calls Try.prog 32 #[.slice a ks.length c, .int .i64 s] w fun e w' => e = .returned (.tuple #[.int .i64 (lstV ks s), .bool (askedG ks s)]) ∧ Below w.heap.size w w' := by
  have HQ := Lib.hid (goAsked_any ks s a c w hl h)
  cases hg : askedG ks s
  · have e : lstV ks s = 0 := by simp [lstV, hg]
    have HE := Lib.hid e
    have HG := Lib.hid hg; clear hg e h
    go_enter Try.func32, Try.ntmps32
    go_wp2_with fail
    refine HQ.out.mono ?_; rintro e w1 ⟨rfl, b1⟩
    rw [HG.out]
    go_wp2_with fail
    go_ret2
    exact ⟨by rw [HE.out]; rfl, b1⟩
  · obtain ⟨m, rfl, hm, hk⟩ := asked_nat hg
    have e : lstV ks (m : Int) = lstN ks m := by simp [lstV, hg]
    rw [e]; clear e
    have HG := Lib.hid hg; clear hg
    have HK := Lib.hid hk; clear hk
    have HR := Lib.hid h; clear h
    obtain ⟨i0, hi, hz0, hz1, hz2⟩ := info_parts infoInt
    go_enter Try.func32, Try.ntmps32
    go_wp2_with fail
    refine HQ.out.mono ?_; rintro e w1 ⟨rfl, b1⟩
    rw [HG.out]
    have B1 := Lib.hid b1; clear b1
    go_wp2_with (at_make; refine wpList_make_full _ rfl _ _ _ rfl w1.heap.size _ i0 _ 1 Try.underlying22 hi hz0 hz1 .i64 .i64 _ _ (m + 1) rfl rfl rfl rfl ?_ ?_ (Nat.le_refl _) ?_)
    · rw [hz2]; omega
    · unfold maxLen; omega
    intro w2 hown hgrow
    have hr := (RowAt.made (e := 3) hown).1
    have hbel : Below w1.heap.size w1 w2 := (Below.refl _ _).grown hgrow (Nat.le_refl _) (fun k hk => by cases hk)
    have hr2 := hr.put (j := 0) (by simp) 1
    rw [List.replicate_succ, List.set_cons_zero] at hr2
    have c0 := hr.cell (j := 0) (by simp)
    have f0 := hr.free 0
    have H2 : Hid (RowAt (w2.setCell ⟨w1.heap.size, 0, none⟩ (.int .i64 1)) w1.heap.size 3 (1 :: List.replicate m 0) ∧ Below w.heap.size w (w2.setCell ⟨w1.heap.size, 0, none⟩ (.int .i64 1))) :=
      ⟨hr2, (B1.out.trans (hbel.mono B1.out.size)).setCell (p := ⟨w1.heap.size, 0, none⟩) B1.out.size _⟩
    have HZ := Lib.hid B1.out.size
    clear hr hbel hr2 hown hgrow hi hz0 hz1 hz2
    have b0 : (0 : Int) < (m : Int) + 1 := by omega
    go_wp2_with fail
    clear c0 f0
    generalize w2.setCell ⟨w1.heap.size, 0, none⟩ (.int .i64 1) = W0 at *
    generalize w1.heap.size = g at *
    go_loopw [21] (fun i wr => ∃ (k : Nat) (L : List Int), i = .int .i64 k ∧ k ≤ ks.length ∧ L.length = m + 1 ∧ Hid (waysL m (ks.drop k) L = waysL m ks (1 :: List.replicate m 0)) ∧ Hid (RowAt wr g 3 L ∧ Below w.heap.size w wr)) (fun i _ => ks.length - (intOf i).toNat)
    case atStart => exact ⟨0, _, rfl, Nat.zero_le _, by simp, Lib.hid rfl, H2⟩
    case round =>
      clear H2
      obtain ⟨k, L, rfl, hk, hL, hW, hR⟩ := hrel
      by_cases hlt : k < ks.length
      · have b1 : (k : Int) < (ks.length : Int) := by omega
        obtain ⟨b, off, rfl, _, hc⟩ := cells_of_reads (HR.out.old hR.out.2) (by omega)
        have c0 := hc k hlt
        obtain ⟨x1, x2⟩ := HK.out (ks.getD k 0) (by simp [hlt])
        have hw2 := hW.out
        unfold waysL at hw2
        rw [foldl_drop _ hlt] at hw2
        obtain ⟨p, hp⟩ : ∃ p : Nat, ks.getD k 0 = (p : Int) := ⟨(ks.getD k 0).toNat, by omega⟩
        rw [hp] at c0 x1 x2 hw2
        have HW2 := Lib.hid hw2
        clear hw2 hW hc hp
        go_wp2_with fail
        go_loopw [9] (fun i wr2 => ∃ (n : Nat) (M : List Int), i = .int .i64 n ∧ p ≤ n ∧ (n ≤ m + 1 ∨ n = p) ∧ M.length = m + 1 ∧ Hid (runL p (m + 1 - n) n M = kindL m L (p : Int)) ∧ Hid (RowAt wr2 g 3 M ∧ Below w.heap.size w wr2)) (fun i _ => m + 1 - (intOf i).toNat)
        case atStart => exact ⟨p, L, rfl, Nat.le_refl _, .inr rfl, hL, Lib.hid (by simp [kindL]), hR⟩
        case round =>
          obtain ⟨n, M, rfl, hpn, hnm, hM, hRu, hR2⟩ := hrel
          by_cases hn : n ≤ m
          · have b2 : (n : Int) ≤ (m : Int) := by omega
            obtain ⟨q, hq⟩ : ∃ q : Nat, (n : Int) - (p : Int) = (q : Int) := ⟨n - p, by omega⟩
            have hqn : q = n - p := by omega
            have hwq : IntKind.i64.wrap (q : Int) = (q : Int) := IntWalk.i64_in _ (by omega)
            have c1 := hR2.out.1.cell (j := n) (by omega)
            have c2 := hR2.out.1.cell (j := q) (by omega)
            have f1 := hR2.out.1.free n
            have b3 : (n : Int) < (m : Int) + 1 := by omega
            have b4 : (q : Int) < (m : Int) + 1 := by omega
            have hpu := hR2.out.1.put (j := n) (by omega) (wrap64 (M.getD n 0 + M.getD q 0))
            have hst : M.set n (wrap64 (M.getD n 0 + M.getD q 0)) = stepL p M n := by unfold stepL; rw [hqn]
            rw [hst] at hpu
            have HRU := Lib.hid (runL_step hRu.out hn)
            have HPU : Hid (RowAt (wr.setCell ⟨g, n, none⟩ (.int .i64 (wrap64 (M.getD n 0 + M.getD q 0)))).drew g 3 (stepL p M n)) := hpu
            clear hst hpu hRu hqn
            generalize M.getD n 0 = y1 at *
            generalize M.getD q 0 = y2 at *
            go_wp2_with fail
            go_still_tail 12, (by kernel_rfl)
            go_wp2_with fail
            go_roundw
            case rel => exact ⟨n + 1, stepL p M n, by go_num, by omega, by omega, by rw [stepL_len]; exact hM, HRU, Lib.hid ⟨HPU.out, (hR2.out.2.setCell (p := ⟨g, n, none⟩) HZ.out _).drew⟩⟩
            case measure => simp [intOf]; omega
          · have HME := Lib.hid (runL_end hRu.out hn)
            have b2 : ¬ (n : Int) ≤ (m : Int) := by omega
            go_wp2_with fail
            go_roundw
            case rel => exact ⟨k + 1, M, by go_num, by omega, hM, Lib.hid (by rw [HME.out]; exact HW2.out), hR2⟩
            case measure => simp [intOf]; omega
      · obtain rfl : k = ks.length := by omega
        have hend : L.getD m 0 = lstN ks m := by
          have := hW.out
          rw [List.drop_length] at this
          unfold lstN; rw [← this]; rfl
        have c0 := hR.out.1.cell (j := m) (by omega)
        rw [hend] at c0
        have HB := Lib.hid hR.out.2
        clear hend
        have b2 : (m : Int) < (m : Int) + 1 := by omega
        go_wp2_with fail
        go_ret2
        exact ⟨rfl, HB.out⟩
end Go.Proofs.Ythbhhcpkilckkaa
