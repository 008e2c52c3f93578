/-
  Darts: CanFinish, HighestFinish: both sides.
-/
import Derived.Test.YtaplkciomagmiaaDnCnt
import Derived.Test.YtaplkciomagmiaaDnFewB
namespace Go.Proofs.Ytaplkciomagmiaa
open Go.RowKit
set_option linter.unusedVariables false
set_option linter.unusedSimpArgs false

set_option maxHeartbeats 400000 in
theorem isLeft_any (n : Int) (w : World) :
    Calls Try.prog 46 #[.int .i64 n] w fun e w' => e = .returned (.bool (inR n 0 1001)) ∧ w = w' := by
  by_cases h1 : 0 ≤ n <;> by_cases h2 : n ≤ 1001
  all_goals
    go_enter Try.func46, Try.ntmps46
    go_wp2
    go_ret
    exact ⟨ret_bool (by simp [inR, *]), rfl⟩
set_option maxHeartbeats 400000 in
theorem isDartCount_any (n : Int) (w : World) :
    Calls Try.prog 47 #[.int .i64 n] w fun e w' => e = .returned (.bool (inR n 1 3)) ∧ w = w' := by
  by_cases h1 : 1 ≤ n <;> by_cases h2 : n ≤ 3
  all_goals
    go_enter Try.func47, Try.ntmps47
    go_wp2
    go_ret
    exact ⟨ret_bool (by simp [inR, *]), rfl⟩
set_option maxHeartbeats 400000 in
theorem daLeft_any (n : Int) (w : World) :
    Calls Try.prog 43 #[.int .i64 n] w fun e w' => e = .returned (.bool (inR n 0 1001)) ∧ w = w' := by
  go_enter Try.func43, Try.ntmps43
  go_wp2_with fail
  refine (l1In_any _ _ _ _).mono ?_; rintro e w1 ⟨rfl, rfl⟩
  go_wp2_with fail
  go_ret
  exact ⟨rfl, rfl⟩
set_option maxHeartbeats 400000 in
theorem daDarts_any (n : Int) (w : World) :
    Calls Try.prog 44 #[.int .i64 n] w fun e w' => e = .returned (.bool (inR n 1 3)) ∧ w = w' := by
  go_enter Try.func44, Try.ntmps44
  go_wp2_with fail
  refine (l1In_any _ _ _ _).mono ?_; rintro e w1 ⟨rfl, rfl⟩
  go_wp2_with fail
  go_ret
  exact ⟨rfl, rfl⟩

theorem finW_bd (k : Nat) (n : Int) : 0 ≤ finW (k + 1) n ∧ finW (k + 1) n ≤ 62 ^ (k + 1) := by
  have h := sumD_bd (62 ^ k) (fun d => ways k (n - scD d)) (allD.filter dblD) (fun d _ => ways_bd k _)
  have hl : (((allD.filter dblD).length : Nat) : Int) ≤ 62 := by have := List.length_filter_le dblD allD; rw [allD_len] at this; omega
  refine ⟨h.1, Int.le_trans h.2 ?_⟩
  rw [Int.pow_succ, Int.mul_comm]
  exact Int.mul_le_mul_of_nonneg_left hl (Int.le_of_lt (Int.pow_pos (by omega)))
theorem wrap64_fin {k : Nat} (hk : k ≤ 2) (n : Int) : wrap64 (finW (k + 1) n) = finW (k + 1) n := by
  have h := finW_bd k n
  refine wrap64_in h.1 (Int.le_trans h.2 ?_)
  have : k = 0 ∨ k = 1 ∨ k = 2 := by omega
  rcases this with rfl | rfl | rfl <;> decide

set_option maxHeartbeats 800000 in
theorem daFinishes_any (N k : Nat) (hN : N ≤ 1001) (hk0 : 0 < k) (hk : k ≤ 100) (w : World) :
    Calls Try.prog 50 #[.int .i64 N, .int .i64 k] w fun e w' => e = .returned (.int .i64 (wrap64 (finW k N))) ∧ Below w.heap.size w w' := by
  have hcv : cntV true k k (N : Int) = finW k N := by unfold cntV; rw [if_pos ⟨rfl, hk0, rfl⟩]
  obtain ⟨v, hv⟩ : ∃ v, v = wrap64 (finW k N) := ⟨_, rfl⟩
  rw [← hv]
  have HC := Lib.hid (And.intro hcv hv); clear hcv hv
  go_enter Try.func50, Try.ntmps50
  go_wp2_with fail
  refine (daCount_any k N hk hN true _).mono ?_; rintro e w1 ⟨g, rfl, hg, hr, b1⟩
  have c0 := hr.cell (j := N) (by rw [rowW_len]; omega)
  rw [rowW_get _ (by omega), HC.out.1, ← HC.out.2] at c0
  have b2 : (N : Int) < (N : Int) + 1 := by omega
  clear hr
  go_wp2_with fail
  go_ret
  exact ⟨rfl, b1⟩

set_option maxHeartbeats 800000 in
theorem daCan_any (N D : Nat) (hN : N ≤ 1001) (hD : D ≤ 3) (w : World) :
    Calls Try.prog 45 #[.int .i64 N, .int .i64 D] w fun e w' => e = .returned (.bool (canB N D)) ∧ Below w.heap.size w w' := by
  go_enter Try.func45, Try.ntmps45
  go_wp2_with fail
  go_loopw [5] (fun i wr => ∃ k : Nat, i = .int .i64 ((k : Int) + 1) ∧ k ≤ D ∧ Hid (canB N k = false) ∧ Below w.heap.size w wr) (fun i _ => D + 1 - (intOf i).toNat)
  case atStart => exact ⟨0, rfl, Nat.zero_le _, Lib.hid rfl, Below.refl _ _⟩
  case round =>
    obtain ⟨k, rfl, hk, hc, hbel⟩ := hrel
    by_cases hlt : k < D
    · have b1 : (k : Int) + 1 ≤ (D : Int) := by omega
      have hstep : canB N (k + 1) = finB (k + 1) N := by unfold canB; rw [hc.out, Bool.false_or]
      have hw : wrap64 (finW (k + 1) N) = finW (k + 1) N := wrap64_fin (by omega) _
      have hpos := finW_fin k N
      have HQ := Lib.hid (daFinishes_any N (k + 1) hN (by omega) (by omega))
      rw [show ((k + 1 : Nat) : Int) = (k : Int) + 1 from rfl] at HQ
      go_wp2_with fail
      refine (HQ.out _).mono ?_; rintro e w1 ⟨rfl, b2⟩
      rw [hw]
      have hb2 := hbel.trans (b2.mono hbel.size)
      by_cases q : 0 < finW (k + 1) N
      · have hf := hpos.1 q
        have hcan : canB N D = true := (canB_iff _ _).2 ⟨k + 1, by omega, hf⟩
        have HCN := Lib.hid hcan
        clear hcan hf hpos hstep hw hc
        generalize finW (k + 1) N = v at *
        go_wp2_with fail
        go_ret
        exact ⟨ret_bool HCN.out.symm, hb2⟩
      · have hf : finB (k + 1) N = false := by
          cases h : finB (k + 1) N
          · rfl
          · exact absurd (hpos.2 h) q
        have HS := Lib.hid (hstep.trans hf)
        clear hf hpos hstep hw hc
        generalize finW (k + 1) N = v at *
        go_wp2_with fail
        go_roundw
        case rel => exact ⟨k + 1, by go_num, by omega, HS, hb2⟩
        case measure => simp [intOf]; omega
    · obtain rfl : k = D := by omega
      have b1 : ¬ (k : Int) + 1 ≤ (k : Int) := by omega
      go_wp2_with fail
      go_ret
      exact ⟨ret_bool hc.out.symm, hbel⟩

/-- What CanFinish hands back. -/
def askB (a b : Int) : Bool := inR a 0 1001 && inR b 1 3
def canV (a b : Int) : Bool := askB a b && canB a b.toNat
theorem askB_nat {a b : Int} (h : askB a b = true) : ∃ n d : Nat, a = n ∧ b = d ∧ n ≤ 1001 ∧ 1 ≤ d ∧ d ≤ 3 := by
  simp [askB, inR] at h
  exact ⟨a.toNat, b.toNat, by omega, by omega, by omega, by omega, by omega⟩

set_option maxHeartbeats 800000 in
theorem specCanFinish_any (a b : Int) (w : World) :
    Calls Try.prog 13 #[.int .i64 a, .int .i64 b] w fun e w' => e = .returned (.tuple #[.bool (canV a b), .bool (askB a b)]) ∧ Below w.heap.size w w' := by
  cases h1 : inR a 0 1001
  · have e1 : canV a b = false := by simp [canV, askB, h1]
    have e2 : askB a b = false := by simp [askB, h1]
    rw [e1, e2]
    have H1 := Lib.hid h1; clear h1 e1 e2
    go_enter Try.func13, Try.ntmps13
    go_wp2_with fail
    refine (daLeft_any _ _).mono ?_; rintro e w1 ⟨rfl, rfl⟩
    rw [H1.out]
    go_wp2_with fail
    go_ret2
    exact ⟨rfl, Below.refl _ _⟩
  · cases h2 : inR b 1 3
    · have e1 : canV a b = false := by simp [canV, askB, h2]
      have e2 : askB a b = false := by simp [askB, h2]
      rw [e1, e2]
      have H1 := Lib.hid h1; clear h1 e1 e2
      have H2 := Lib.hid h2; clear h2
      go_enter Try.func13, Try.ntmps13
      go_wp2_with fail
      refine (daLeft_any _ _).mono ?_; rintro e w1 ⟨rfl, rfl⟩
      rw [H1.out]
      go_wp2_with fail
      refine (daDarts_any _ _).mono ?_; rintro e w1 ⟨rfl, rfl⟩
      rw [H2.out]
      go_wp2_with fail
      go_ret2
      exact ⟨rfl, Below.refl _ _⟩
    · have e2 : askB a b = true := by simp [askB, h1, h2]
      obtain ⟨n, d, rfl, rfl, hn, hd1, hd3⟩ := askB_nat e2
      have e1 : canV n d = canB n d := by simp [canV, e2]
      rw [e1, e2]
      have H1 := Lib.hid h1; clear h1 e1 e2
      have H2 := Lib.hid h2; clear h2
      go_enter Try.func13, Try.ntmps13
      go_wp2_with fail
      refine (daLeft_any _ _).mono ?_; rintro e w1 ⟨rfl, rfl⟩
      rw [H1.out]
      go_wp2_with fail
      refine (daDarts_any _ _).mono ?_; rintro e w1 ⟨rfl, rfl⟩
      rw [H2.out]
      go_wp2_with fail
      refine (daCan_any n d hn hd3 _).mono ?_; rintro e w1 ⟨rfl, b1⟩
      go_wp2_with fail
      go_ret2
      exact ⟨rfl, b1⟩

set_option maxRecDepth 4000 in
set_option maxHeartbeats 1600000 in
theorem implCanFinish_any (a b : Int) (w : World) :
    Calls Try.prog 14 #[.int .i64 a, .int .i64 b] w fun e w' => e = .returned (.tuple #[.bool (canV a b), .bool (askB a b)]) ∧ Below w.heap.size w w' := by
  cases h1 : inR a 0 1001
  · have e1 : canV a b = false := by simp [canV, askB, h1]
    have e2 : askB a b = false := by simp [askB, h1]
    rw [e1, e2]
    have H1 := Lib.hid h1; clear h1 e1 e2
    go_enter Try.func14, Try.ntmps14
    go_wp2_with fail
    refine (isLeft_any _ _).mono ?_; rintro e w1 ⟨rfl, rfl⟩
    rw [H1.out]
    go_wp2_with fail
    go_ret2
    exact ⟨rfl, Below.refl _ _⟩
  · cases h2 : inR b 1 3
    · have e1 : canV a b = false := by simp [canV, askB, h2]
      have e2 : askB a b = false := by simp [askB, h2]
      rw [e1, e2]
      have H1 := Lib.hid h1; clear h1 e1 e2
      have H2 := Lib.hid h2; clear h2
      go_enter Try.func14, Try.ntmps14
      go_wp2_with fail
      refine (isLeft_any _ _).mono ?_; rintro e w1 ⟨rfl, rfl⟩
      rw [H1.out]
      go_wp2_with fail
      refine (isDartCount_any _ _).mono ?_; rintro e w1 ⟨rfl, rfl⟩
      rw [H2.out]
      go_wp2_with fail
      go_ret2
      exact ⟨rfl, Below.refl _ _⟩
    · have e2 : askB a b = true := by simp [askB, h1, h2]
      obtain ⟨n, d, rfl, rfl, hn, hd1, hd3⟩ := askB_nat e2
      have e1 : canV n d = (decide (0 < fewN n) && decide (fewN n ≤ d)) := by simp [canV, e2, canB_few]
      rw [e1, e2]
      have H1 := Lib.hid h1; clear h1 e1 e2
      have H2 := Lib.hid h2; clear h2
      have hfew := Lib.hid fewest_all
      have hix : ∀ w, (Instr.index 47 (.agg fewA) (.int .i64 (n : Int))).run Try.prog w = .ok (.int .i64 (fewN n)) w := fun w => index_few n hn w
      have Hix := Lib.hid hix; clear hix
      generalize fewN n = v at *
      by_cases q1 : 0 < v <;> by_cases q2 : v ≤ (d : Int)
      all_goals
        go_enter Try.func14, Try.ntmps14
        go_wp2_with fail
        refine (isLeft_any _ _).mono ?_; rintro e w1 ⟨rfl, rfl⟩
        rw [H1.out]
        go_wp2_with fail
        refine (isDartCount_any _ _).mono ?_; rintro e w1 ⟨rfl, rfl⟩
        rw [H2.out]
        go_wp2_with fail
        refine (hfew.out _).mono ?_; rintro e w1 ⟨rfl, b1⟩
        have hix := Hix.out
        go_wp2_with fail
        all_goals
          go_ret2
          refine ⟨by simp [q1, q2], b1⟩

end Go.Proofs.Ytaplkciomagmiaa
