/-
  Darts: HighestFinish: both sides.
-/
import Derived.Test.YtaplkciomagmiaaDnCan
namespace Go.Proofs.Ytaplkciomagmiaa
open Go.RowKit
set_option linter.unusedVariables false
set_option linter.unusedSimpArgs false

def hiF (d : Nat) : Nat → Nat
  | 0 => 0
  | n + 1 => if canB ((n + 1 : Nat) : Int) d = true then n + 1 else hiF d n
theorem hiF_le (d : Nat) : ∀ n, hiF d n ≤ n
  | 0 => Nat.le_refl _
  | n + 1 => by unfold hiF; have := hiF_le d n; split <;> omega
theorem hiF_top (d : Nat) (hd : d ≤ 3) : ∀ k, hiF d (180 + k) = hiF d 180
  | 0 => rfl
  | k + 1 => by
    show hiF d ((180 + k) + 1) = _
    unfold hiF
    rw [if_neg (by rw [canB_top _ d hd (by omega)]; simp), hiF_top d hd k]
    rfl
theorem canB_zero (d : Nat) : canB 0 d = false := by
  cases h : canB 0 d
  · rfl
  · obtain ⟨j, _, hj⟩ := (canB_iff _ _).1 h
    have := finB_pos _ _ hj; omega
theorem canB_two (d : Nat) (h : 1 ≤ d) : canB 2 d = true :=
  (canB_iff _ _).2 ⟨1, h, by simp only [finB, List.any_eq_true]; exact ⟨_, allD_12, by decide⟩⟩
def hiV (b : Int) : Int := if inR b 1 3 = true then (hiF b.toNat 180 : Nat) else 0

set_option maxHeartbeats 800000 in
theorem specHighestFinish_any (b : Int) (w : World) :
    Calls Try.prog 15 #[.int .i64 b] w fun e w' => e = .returned (.tuple #[.int .i64 (hiV b), .bool (inR b 1 3)]) ∧ Below w.heap.size w w' := by
  cases h2 : inR b 1 3
  · have e1 : hiV b = 0 := by simp [hiV, h2]
    rw [e1]
    have H2 := Lib.hid h2; clear h2 e1
    go_enter Try.func15, Try.ntmps15
    go_wp2_with fail
    refine (daDarts_any _ _).mono ?_; rintro e w1 ⟨rfl, rfl⟩
    rw [H2.out]
    go_wp2_with fail
    go_ret2
    exact ⟨rfl, Below.refl _ _⟩
  · obtain ⟨d, rfl, hd1, hd3⟩ : ∃ d : Nat, b = d ∧ 1 ≤ d ∧ d ≤ 3 := by simp [inR] at h2; exact ⟨b.toNat, by omega, by omega, by omega⟩
    obtain ⟨H, hH⟩ : ∃ H : Nat, H = hiF d 180 := ⟨_, rfl⟩
    have e1 : hiV d = (H : Int) := by rw [hH]; simp [hiV, h2]
    rw [e1]
    have H2 := Lib.hid h2; clear h2 e1
    have HH := Lib.hid hH.symm; clear hH
    go_enter Try.func15, Try.ntmps15
    go_wp2_with fail
    refine (daDarts_any _ _).mono ?_; rintro e w1 ⟨rfl, rfl⟩
    rw [H2.out]
    go_wp2_with fail
    go_loopw [4] (fun i wr => ∃ k : Nat, i = .int .i64 k ∧ 2 ≤ k ∧ k ≤ 180 ∧ Hid (hiF d k = H) ∧ Below w.heap.size w wr) (fun i _ => (intOf i).toNat)
    case atStart => exact ⟨180, rfl, by omega, by omega, HH, Below.refl _ _⟩
    case round =>
      obtain ⟨k, rfl, hk2, hk, hF, hbel⟩ := hrel
      obtain ⟨m, rfl⟩ : ∃ m, k = m + 1 := ⟨k - 1, by omega⟩
      have hstep : hiF d (m + 1) = if canB ((m + 1 : Nat) : Int) d = true then m + 1 else hiF d m := rfl
      have htwo := canB_two d hd1
      have HQ := Lib.hid (daCan_any (m + 1) d (by omega) hd3)
      rw [show ((m + 1 : Nat) : Int) = (m : Int) + 1 from rfl] at HQ hstep ⊢
      cases hc : canB ((m : Int) + 1) d
      · have hm : 2 ≤ m := by
          refine Decidable.byContradiction fun q => ?_
          have e : (m : Int) + 1 = 2 := by omega
          rw [e, htwo] at hc; cases hc
        rw [hc, if_neg (by simp)] at hstep
        have hF2 := Lib.hid (hstep.symm.trans hF.out)
        have HC := Lib.hid hc; clear hc hstep hF htwo
        go_wp2_with fail
        refine (HQ.out _).mono ?_; rintro e w1 ⟨rfl, b2⟩
        rw [HC.out]
        have hb2 := hbel.trans (b2.mono hbel.size)
        go_wp2_with fail
        go_roundw
        case rel => exact ⟨m, by go_num, by omega, by omega, hF2, hb2⟩
        case measure => simp [intOf]
      · rw [hc, if_pos rfl] at hstep
        have hF2 := Lib.hid (hF.out.symm.trans hstep)
        have HC := Lib.hid hc; clear hc hstep hF htwo
        go_wp2_with fail
        refine (HQ.out _).mono ?_; rintro e w1 ⟨rfl, b2⟩
        rw [HC.out]
        have hb2 := hbel.trans (b2.mono hbel.size)
        go_wp2_with fail
        go_ret2
        exact ⟨by rw [hF2.out]; rfl, hb2⟩

set_option maxRecDepth 4000 in
set_option maxHeartbeats 1600000 in
theorem implHighestFinish_any (b : Int) (w : World) :
    Calls Try.prog 16 #[.int .i64 b] w fun e w' => e = .returned (.tuple #[.int .i64 (hiV b), .bool (inR b 1 3)]) ∧ Below w.heap.size w w' := by
  cases h2 : inR b 1 3
  · have e1 : hiV b = 0 := by simp [hiV, h2]
    rw [e1]
    have H2 := Lib.hid h2; clear h2 e1
    go_enter Try.func16, Try.ntmps16
    go_wp2_with fail
    refine (isDartCount_any _ _).mono ?_; rintro e w1 ⟨rfl, rfl⟩
    rw [H2.out]
    go_wp2_with fail
    go_ret2
    exact ⟨rfl, Below.refl _ _⟩
  · obtain ⟨d, rfl, hd1, hd3⟩ : ∃ d : Nat, b = d ∧ 1 ≤ d ∧ d ≤ 3 := by simp [inR] at h2; exact ⟨b.toNat, by omega, by omega, by omega⟩
    obtain ⟨H, hH⟩ : ∃ H : Nat, H = hiF d 180 := ⟨_, rfl⟩
    have e1 : hiV d = (H : Int) := by rw [hH]; simp [hiV, h2]
    rw [e1]
    have H2 := Lib.hid h2; clear h2 e1
    have HH := Lib.hid ((hiF_top d hd3 821).trans hH.symm); clear hH
    have hfew := Lib.hid fewest_all
    go_enter Try.func16, Try.ntmps16
    go_wp2_with fail
    refine (isDartCount_any _ _).mono ?_; rintro e w1 ⟨rfl, rfl⟩
    rw [H2.out]
    go_wp2_with fail
    refine (hfew.out _).mono ?_; rintro e w1 ⟨rfl, b1⟩
    go_wp2_with fail
    go_loop [4, 11] (fun v i => ∃ k h : Nat, i = .int .i64 k ∧ v = .int .i64 h ∧ k ≤ 1002 ∧ Hid (h = hiF d (k - 1))) (fun _ i => 1002 - (intOf i).toNat)
    case atStart => exact ⟨0, 0, rfl, rfl, by omega, Lib.hid rfl⟩
    case round =>
      obtain ⟨k, h, rfl, rfl, hk, hF⟩ := hrel
      by_cases hlt : k < 1002
      · have b2 : (k : Int) < 1002 := by omega
        have hix : ∀ w, (Instr.index 47 (.agg fewA) (.int .i64 (k : Int))).run Try.prog w = .ok (.int .i64 (fewN k)) w := fun w => index_few k (by omega) w
        have hcan : canB k d = (decide (0 < fewN k) && decide (fewN k ≤ d)) := canB_few k d
        have hstep : hiF d k = if canB k d = true then k else hiF d (k - 1) := by
          cases k with
          | zero => simp [hiF]
          | succ k => rfl
        rw [hcan] at hstep
        clear hcan
        generalize fewN k = v at *
        by_cases q1 : 0 < v
        · by_cases q2 : v ≤ (d : Int)
          · have hs : hiF d k = k := by rw [hstep, if_pos (by simp [q1, q2])]
            have HS := Lib.hid hs; clear hs hstep hF
            go_wp2_with fail
            go_round
            case rel => exact ⟨k + 1, k, by go_num, rfl, by omega, Lib.hid (by rw [Nat.add_sub_cancel, HS.out])⟩
            case measure => simp [intOf]; omega
          · have hs : hiF d k = hiF d (k - 1) := by rw [hstep, if_neg (by simp [q2])]
            have HS := Lib.hid (hF.out.trans hs.symm); clear hs hstep hF
            go_wp2_with fail
            go_round
            case rel => exact ⟨k + 1, h, by go_num, rfl, by omega, Lib.hid (by rw [Nat.add_sub_cancel, HS.out])⟩
            case measure => simp [intOf]; omega
        · have hs : hiF d k = hiF d (k - 1) := by rw [hstep, if_neg (by simp [q1])]
          have HS := Lib.hid (hF.out.trans hs.symm); clear hs hstep hF
          go_wp2_with fail
          go_round
          case rel => exact ⟨k + 1, h, by go_num, rfl, by omega, Lib.hid (by rw [Nat.add_sub_cancel, HS.out])⟩
          case measure => simp [intOf]; omega
      · obtain rfl : k = 1002 := by omega
        have hH : h = H := hF.out.trans HH.out
        subst hH
        have b2 : ¬ ((1002 : Nat) : Int) < 1002 := by omega
        go_wp2_with fail
        go_ret2
        exact ⟨rfl, b1⟩
end Go.Proofs.Ytaplkciomagmiaa
