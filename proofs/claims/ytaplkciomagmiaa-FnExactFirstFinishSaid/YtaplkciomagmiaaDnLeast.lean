/-
  Darts: FewestDarts: both sides. How many finishes there are at most (the model's counts are held in 64 bits).
-/
import Derived.Test.YtaplkciomagmiaaDnCan
namespace Go.Proofs.Ytaplkciomagmiaa
open Go.RowKit
set_option linter.unusedVariables false
set_option linter.unusedSimpArgs false

theorem sumD_le {f g : Int × Int → Int} {l : List (Int × Int)} (h : ∀ d ∈ l, f d ≤ g d) : sumD l f ≤ sumD l g := by
  induction l with
  | nil => exact Int.le_refl _
  | cons d l ih =>
    rw [sumD_cons, sumD_cons]
    have := h d (by simp)
    have := ih (fun e he => h e (by simp [he]))
    omega
theorem sumD_mul (c : Int) (f : Int × Int → Int) (l : List (Int × Int)) : sumD l (fun d => f d * c) = sumD l f * c := by
  induction l with
  | nil => simp [sumD_nil]
  | cons d l ih => rw [sumD_cons, sumD_cons, ih, Int.add_mul]
def wgt (d : Int × Int) : Int := 6 ^ (scD d).toNat * 5 ^ (60 - scD d).toNat
theorem wgt_sum : sumD allD wgt * 10 ≤ 27 * 6 ^ 60 := by decide +kernel
theorem pow_pos6 (n : Nat) : (0 : Int) < 6 ^ n := Int.pow_pos (by omega)
theorem ways_small : ∀ (k δ : Nat), ways k (60 * (k : Int) - δ) * 10 ^ k * 5 ^ δ ≤ 27 ^ k * 6 ^ δ
  | 0, δ => by
    simp only [ways, Int.pow_zero, Int.mul_one]
    by_cases q : δ = 0
    · subst q; decide
    · rw [if_neg (by omega), Int.zero_mul, Int.one_mul]
      exact Int.le_of_lt (pow_pos6 δ)
  | k + 1, δ => by
    have key : ∀ d ∈ allD, ways k (60 * ((k + 1 : Nat) : Int) - δ - scD d) * (10 ^ k * 5 ^ δ * 6 ^ 60) ≤ wgt d * (27 ^ k * 6 ^ δ) := by
      intro d hd
      have hb := allD_bd d hd
      by_cases q : (60 - scD d).toNat ≤ δ
      · obtain ⟨t, ht⟩ : ∃ t, δ = t + (60 - scD d).toNat := ⟨δ - (60 - scD d).toNat, by omega⟩
        have ih := ways_small k t
        have e1 : 60 * ((k + 1 : Nat) : Int) - δ - scD d = 60 * (k : Int) - t := by omega
        rw [e1]
        unfold wgt
        obtain ⟨s, hs⟩ : ∃ s : Nat, scD d = s := ⟨(scD d).toNat, by omega⟩
        rw [hs] at ht ⊢
        have e2 : (60 - (s : Int)).toNat = 60 - s := by omega
        rw [e2] at ht ⊢
        rw [Int.toNat_natCast, ht, Int.pow_add, Int.pow_add, show (6 : Int) ^ 60 = 6 ^ s * 6 ^ (60 - s) by rw [← Int.pow_add]; congr 1; omega]
        have hc : (0 : Int) ≤ 5 ^ (60 - s) * (6 ^ s * 6 ^ (60 - s)) := Int.mul_nonneg (Int.le_of_lt (Int.pow_pos (by omega))) (Int.mul_nonneg (Int.le_of_lt (pow_pos6 _)) (Int.le_of_lt (pow_pos6 _)))
        have := Int.mul_le_mul_of_nonneg_right ih hc
        generalize ways k (60 * (k : Int) - t) = W at *
        generalize (10 : Int) ^ k = A at *
        generalize (5 : Int) ^ t = B at *
        generalize (5 : Int) ^ (60 - s) = C at *
        generalize (6 : Int) ^ s = D at *
        generalize (6 : Int) ^ (60 - s) = E at *
        generalize (27 : Int) ^ k = F at *
        generalize (6 : Int) ^ t = G at *
        have l1 : W * (A * (B * C) * (D * E)) = W * A * B * (C * (D * E)) := by simp only [Int.mul_assoc]
        have l2 : D * C * (F * (G * E)) = F * G * (C * (D * E)) := by simp only [Int.mul_assoc, Int.mul_comm, Int.mul_left_comm]
        rw [l1, l2]
        exact this
      · have hz : ways k (60 * ((k + 1 : Nat) : Int) - δ - scD d) = 0 := by
          have : ∀ (k : Nat) (n : Int), 60 * (k : Int) < n → ways k n = 0 := fun k n h => waysTop k n h
          exact this k _ (by omega)
        rw [hz, Int.zero_mul]
        refine Int.mul_nonneg ?_ (Int.mul_nonneg (Int.le_of_lt (Int.pow_pos (by omega))) (Int.le_of_lt (pow_pos6 _)))
        unfold wgt
        exact Int.mul_nonneg (Int.le_of_lt (pow_pos6 _)) (Int.le_of_lt (Int.pow_pos (by omega)))
    have hs := sumD_le key
    rw [sumD_mul, sumD_mul] at hs
    have hw : ways (k + 1) (60 * ((k + 1 : Nat) : Int) - δ) = sumD allD fun d => ways k (60 * ((k + 1 : Nat) : Int) - δ - scD d) := rfl
    rw [← hw] at hs
    have hsum := wgt_sum
    have hpos : (0 : Int) ≤ 27 ^ k * 6 ^ δ := Int.mul_nonneg (Int.le_of_lt (Int.pow_pos (by omega))) (Int.le_of_lt (pow_pos6 _))
    have h2 := Int.mul_le_mul_of_nonneg_right hsum hpos
    have h3 := Int.mul_le_mul_of_nonneg_right hs (show (0 : Int) ≤ 10 by omega)
    refine Int.le_of_mul_le_mul_right ?_ (pow_pos6 60)
    rw [Int.pow_succ (10 : Int) k, Int.pow_succ (27 : Int) k]
    generalize ways (k + 1) (60 * ((k + 1 : Nat) : Int) - δ) = W at *
    generalize sumD allD wgt = S at *
    generalize (10 : Int) ^ k = A at *
    generalize (5 : Int) ^ δ = B at *
    generalize (6 : Int) ^ 60 = E at *
    generalize (27 : Int) ^ k = F at *
    generalize (6 : Int) ^ δ = G at *
    have l1 : W * (A * 10) * B * E = W * (A * B * E) * 10 := by simp only [Int.mul_assoc, Int.mul_comm, Int.mul_left_comm]
    have l2 : F * 27 * G * E = 27 * E * (F * G) := by simp only [Int.mul_assoc, Int.mul_comm, Int.mul_left_comm]
    have l3 : S * (F * G) * 10 = S * 10 * (F * G) := by simp only [Int.mul_assoc, Int.mul_comm, Int.mul_left_comm]
    rw [l1, l2]
    rw [l3] at h3
    exact Int.le_trans h3 h2
where
  waysTop : ∀ (k : Nat) (n : Int), 60 * (k : Int) < n → ways k n = 0
  | 0, n, h => by simp only [ways]; rw [if_neg (by omega)]
  | k + 1, n, h => by
    simp only [ways]
    have hb := sumD_bd 0 (fun d => ways k (n - scD d)) allD (fun d hd => by
      have := allD_bd d hd
      have := waysTop k (n - scD d) (by push_cast at h; omega)
      omega)
    omega
theorem small_all : ∀ m, m < 19 → ∀ δ, δ < 120 → (27 : Int) ^ m * 6 ^ δ < 9223372036854775808 * 10 ^ m * 5 ^ δ := by decide +kernel
theorem ways_room {m δ : Nat} (hm : m < 19) (hd : δ < 120) : ways m (60 * (m : Int) - δ) < 9223372036854775808 := by
  refine Decidable.byContradiction fun q => ?_
  have h1 := ways_small m δ
  have h3 := small_all m hm δ hd
  have h4 : (9223372036854775808 : Int) ≤ ways m (60 * (m : Int) - δ) := by omega
  have hc : (0 : Int) ≤ 10 ^ m * 5 ^ δ := Int.mul_nonneg (Int.le_of_lt (Int.pow_pos (by omega))) (Int.le_of_lt (Int.pow_pos (by omega)))
  have h5 := Int.mul_le_mul_of_nonneg_right h4 hc
  rw [← Int.mul_assoc, ← Int.mul_assoc] at h5
  omega
theorem sumD_filter_le (f : Int × Int → Int) (p : Int × Int → Bool) : ∀ l : List (Int × Int), (∀ d ∈ l, 0 ≤ f d) → sumD (l.filter p) f ≤ sumD l f
  | [], _ => Int.le_refl _
  | d :: l, h => by
    have ih := sumD_filter_le f p l (fun e he => h e (by simp [he]))
    have := h d (by simp)
    rw [List.filter_cons]
    split
    · rw [sumD_cons, sumD_cons]; omega
    · rw [sumD_cons]; omega
theorem few_low : ∀ n, n < 62 → 2 ≤ n → (finB 1 (n : Nat) || finB 2 (n : Nat)) = true := by decide +kernel
theorem allD_60 : ((20, 3) : Int × Int) ∈ allD := by decide +kernel
theorem few60 (n : Nat) (h : 2 ≤ n) : 60 * fewN n ≤ n + 119 := by
  induction n using Nat.strongRecOn with
  | ind n ih =>
    by_cases q : n < 62
    · have := few_low n q h
      rw [Bool.or_eq_true] at this
      rcases this with h1 | h1
      · have := fewN_le n 1 h1; omega
      · have := fewN_le n 2 h1; omega
    · have h0 := ih (n - 60) (by omega) (by omega)
      have hp := fewN_pos (n - 60) (by omega)
      have hf := fewN_fin (n - 60) hp
      obtain ⟨k, hk⟩ : ∃ k : Nat, fewN (n - 60) = (k : Int) + 1 := ⟨(fewN (n - 60)).toNat - 1, by omega⟩
      rw [hk] at hf h0
      have hf2 : finB (k + 2) n = true := by
        simp only [finB, List.any_eq_true]
        refine ⟨_, allD_60, ?_⟩
        rw [show (n : Int) - scD (20, 3) = ((n - 60 : Nat) : Int) by unfold scD; simp; omega]
        have : ((k : Int) + 1).toNat = k + 1 := by omega
        rw [this] at hf; exact hf
      have := fewN_le n (k + 2) hf2
      omega
/-- The model's count of the shortest finishes is not 0 in 64 bits. -/
theorem fin_few (n m : Nat) (h2 : 2 ≤ n) (h1 : n ≤ 1001) (hm : fewN n = m) : 0 < wrap64 (finW m n) := by
  have hp := fewN_pos n h2
  have hf := fewN_fin n hp
  rw [hm] at hf hp
  obtain ⟨k, rfl⟩ : ∃ k, m = k + 1 := ⟨m - 1, by omega⟩
  rw [Int.toNat_natCast] at hf
  have hpos := (finW_fin k n).2 hf
  have h60 := few60 n h2
  rw [hm] at h60
  have hb := finB_pos _ _ hf
  have hle : finW (k + 1) (n : Int) ≤ ways (k + 1) n := sumD_filter_le _ _ _ (fun d _ => (ways_bd k _).1)
  have hr := ways_room (m := k + 1) (δ := 60 * (k + 1) - n) (by omega) (by omega)
  rw [show 60 * ((k + 1 : Nat) : Int) - ((60 * (k + 1) - n : Nat) : Int) = (n : Int) by omega] at hr
  unfold wrap64
  omega
theorem fin_less (n k : Nat) (h : ((k + 1 : Nat) : Int) < fewN n) : wrap64 (finW (k + 1) n) = 0 := by
  have hz : finW (k + 1) (n : Int) = 0 := by
    have hn := (finW_bd k n).1
    by_cases q : 0 < finW (k + 1) (n : Int)
    · have := fewN_le n (k + 1) ((finW_fin k n).1 q)
      omega
    · omega
  rw [hz]
  exact wrap64_in (by omega) (by omega)
def fewV (a : Int) : Int := if inR a 2 1001 = true then fewN a.toNat else 0

set_option maxHeartbeats 800000 in
theorem specFewestDarts_any (a : Int) (w : World) :
    Calls Try.prog 35 #[.int .i64 a] w fun e w' => e = .returned (.tuple #[.int .i64 (fewV a), .bool (inR a 2 1001)]) ∧ Below w.heap.size w w' := by
  cases h2 : inR a 2 1001
  · have e1 : fewV a = 0 := by simp [fewV, h2]
    rw [e1]
    have H2 := Lib.hid h2; clear h2 e1
    go_enter Try.func35, Try.ntmps35
    go_wp2_with fail
    refine (l1In_any _ _ _ _).mono ?_; rintro e w1 ⟨rfl, rfl⟩
    rw [H2.out]
    go_wp2_with fail
    go_ret2
    exact ⟨rfl, Below.refl _ _⟩
  · obtain ⟨n, rfl, hn2, hn⟩ : ∃ n : Nat, a = n ∧ 2 ≤ n ∧ n ≤ 1001 := by simp [inR] at h2; exact ⟨a.toNat, by omega, by omega, by omega⟩
    obtain ⟨H, hH⟩ : ∃ H : Nat, fewN n = H := ⟨(fewN n).toNat, by have := fewN_nn n; omega⟩
    have e1 : fewV n = (H : Int) := by rw [← hH]; simp [fewV, h2]
    rw [e1]
    have h60 := few60 n hn2
    have hlow : (n : Int) ≤ 60 * H := by
      have hp := fewN_pos n hn2
      have hf := fewN_fin n hp
      have := finB_pos _ _ hf
      omega
    rw [hH] at h60
    have HF := Lib.hid (fun m (hm : fewN n = (m : Nat)) => fin_few n m hn2 hn hm)
    have HLs := Lib.hid (fun k => fin_less n k)
    have H2 := Lib.hid h2; clear h2 e1
    have HH := Lib.hid hH; clear hH
    obtain ⟨q, hq⟩ : ∃ q : Nat, ((n : Int) + 59).tdiv 60 = (q : Int) + 1 := ⟨(n + 59) / 60 - 1, by rw [Int.tdiv_eq_ediv_of_nonneg (by omega)]; omega⟩
    have hqH : q + 1 ≤ H := by
      rw [Int.tdiv_eq_ediv_of_nonneg (by omega)] at hq; omega
    go_enter Try.func35, Try.ntmps35
    go_wp2_with fail
    refine (l1In_any _ _ _ _).mono ?_; rintro e w1 ⟨rfl, rfl⟩
    rw [H2.out]
    go_wp2_with fail
    go_loopw [4] (fun i wr => ∃ k : Nat, i = .int .i64 ((k : Int) + 1) ∧ k + 1 ≤ H ∧ Below w.heap.size w wr) (fun i _ => H + 1 - (intOf i).toNat)
    case atStart => exact ⟨q, by go_num, hqH, Below.refl _ _⟩
    case round =>
      obtain ⟨k, rfl, hk, hbel⟩ := hrel
      have HQ := Lib.hid (daFinishes_any n (k + 1) hn (by omega) (by omega))
      rw [show ((k + 1 : Nat) : Int) = (k : Int) + 1 from rfl] at HQ
      by_cases hlt : k + 1 < H
      · have hz := HLs.out k (by rw [HH.out]; omega)
        have HZ := Lib.hid hz; clear hz
        go_wp2_with fail
        refine (HQ.out _).mono ?_; rintro e w1 ⟨rfl, b2⟩
        rw [HZ.out]
        have hb2 := hbel.trans (b2.mono hbel.size)
        go_wp2_with fail
        go_roundw
        case rel => exact ⟨k + 1, by go_num, by omega, hb2⟩
        case measure => simp [intOf]; omega
      · obtain rfl : H = k + 1 := by omega
        have hz := HF.out (k + 1) HH.out
        have HZ := Lib.hid hz; clear hz
        go_wp2_with fail
        refine (HQ.out _).mono ?_; rintro e w1 ⟨rfl, b2⟩
        have hz := HZ.out
        have hb2 := hbel.trans (b2.mono hbel.size)
        generalize wrap64 (finW (k + 1) (n : Int)) = v at *
        have hz1 : (v == 0) = false := by rw [beq_eq_false_iff_ne]; omega
        clear hz
        go_wp2_with fail
        go_ret2
        exact ⟨rfl, hb2⟩

set_option maxRecDepth 10000 in
set_option maxHeartbeats 1600000 in
theorem implFewestDarts_any (a : Int) (w : World) :
    Calls Try.prog 36 #[.int .i64 a] w fun e w' => e = .returned (.tuple #[.int .i64 (fewV a), .bool (inR a 2 1001)]) ∧ Below w.heap.size w w' := by
  cases h1 : inR a 0 1001
  · have e2 : inR a 2 1001 = false := by
      cases h : inR a 2 1001
      · rfl
      · simp [inR] at h h1; omega
    have e1 : fewV a = 0 := by simp [fewV, e2]
    rw [e1, e2]
    have H1 := Lib.hid h1; clear h1 e1 e2
    go_enter Try.func36, Try.ntmps36
    go_wp2_with fail
    refine (isLeft_any _ _).mono ?_; rintro e w1 ⟨rfl, rfl⟩
    rw [H1.out]
    go_wp2_with fail
    go_ret2
    exact ⟨rfl, Below.refl _ _⟩
  · obtain ⟨n, rfl, hn⟩ : ∃ n : Nat, a = n ∧ n ≤ 1001 := by simp [inR] at h1; exact ⟨a.toNat, by omega, by omega⟩
    have e1 : fewV n = fewN n ∧ inR (n : Int) 2 1001 = decide (0 < fewN n) := by
      by_cases q : 2 ≤ n
      · have : inR (n : Int) 2 1001 = true := by simp [inR]; omega
        exact ⟨by simp [fewV, this], by rw [this, decide_eq_true (fewN_pos n q)]⟩
      · have : inR (n : Int) 2 1001 = false := by
          cases h : inR (n : Int) 2 1001
          · rfl
          · simp [inR] at h; omega
        have h0 : fewN n = 0 := by
          have : n = 0 ∨ n = 1 := by omega
          rcases this with rfl | rfl
          · exact fewN_zero
          · exact fewN_one
        exact ⟨by rw [h0]; simp [fewV, this], by rw [this, h0]; rfl⟩
    rw [e1.1, e1.2]
    have H1 := Lib.hid h1; clear h1 e1
    have hfew := Lib.hid fewest_all
    have hix : ∀ w, (Instr.index 47 (.agg fewA) (.int .i64 (n : Int))).run Try.prog w = .ok (.int .i64 (fewN n)) w := fun w => index_few n hn w
    have Hix := Lib.hid hix; clear hix
    generalize fewN n = v at *
    by_cases q1 : 0 < v
    all_goals
      go_enter Try.func36, Try.ntmps36
      go_wp2_with fail
      refine (isLeft_any _ _).mono ?_; rintro e w1 ⟨rfl, rfl⟩
      rw [H1.out]
      go_wp2_with fail
      refine (hfew.out _).mono ?_; rintro e w1 ⟨rfl, b1⟩
      have hix := Hix.out
      go_wp2_with fail
      go_ret2
      exact ⟨by simp [q1], b1⟩
end Go.Proofs.Ytaplkciomagmiaa
