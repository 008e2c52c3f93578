/-
  Darts: CountWaysTo, CanScore, CountScores, CountFinishes: both sides.
-/
import Derived.Test.YtaplkciomagmiaaDnTal
namespace Go.Proofs.Ytaplkciomagmiaa
open Go.RowKit Go.Maps
set_option linter.unusedVariables false
set_option linter.unusedSimpArgs false

def wayV (a b : Int) : Int := if askB a b = true then ways b.toNat a else 0
def scoV (a b : Int) : Bool := askB a b && decide (0 < wayV a b)
theorem cntV_all (d : Nat) (n : Int) : cntV false d d n = ways d n := by unfold cntV; rw [if_neg (fun z => by cases z.1)]

set_option maxRecDepth 4000 in
set_option maxHeartbeats 1600000 in
theorem specCountWaysTo_any (a b : Int) (w : World) :
    Calls Try.prog 27 #[.int .i64 a, .int .i64 b] w fun e w' => e = .returned (.tuple #[.int .i64 (wayV a b), .bool (askB a b)]) ∧ Below w.heap.size w w' := by
  cases h1 : inR a 0 1001
  · have e1 : wayV a b = 0 := by simp [wayV, askB, h1]
    have e2 : askB a b = false := by simp [askB, h1]
    rw [e1, e2]
    have H1 := Lib.hid h1; clear h1 e1 e2
    go_enter Try.func27, Try.ntmps27
    go_wp2_with fail
    refine (daLeft_any _ _).mono ?_; rintro e w1 ⟨rfl, rfl⟩
    rw [H1.out]
    go_wp2_with fail
    go_ret2
    exact ⟨rfl, Below.refl _ _⟩
  · cases h2 : inR b 1 3
    · have e1 : wayV a b = 0 := by simp [wayV, askB, h2]
      have e2 : askB a b = false := by simp [askB, h2]
      rw [e1, e2]
      have H1 := Lib.hid h1; clear h1 e1 e2
      have H2 := Lib.hid h2; clear h2
      go_enter Try.func27, Try.ntmps27
      go_wp2_with fail
      refine (daLeft_any _ _).mono ?_; rintro e w1 ⟨rfl, rfl⟩
      rw [H1.out]
      go_wp2_with fail
      refine (daDarts_any _ _).mono ?_; rintro e w1 ⟨rfl, rfl⟩
      rw [H2.out]
      go_wp2_with fail
      go_ret2
      exact ⟨rfl, Below.refl _ _⟩
    · have e2 : askB a b = true := by simp [askB, h1, h2]
      obtain ⟨n, d, rfl, rfl, hn, hd1, hd3⟩ := askB_nat e2
      have e1 : wayV n d = ways d n := by simp [wayV, e2]
      rw [e1, e2]
      have H1 := Lib.hid h1; clear h1 e2
      have H2 := Lib.hid h2; clear h2
      obtain ⟨v, hv⟩ : ∃ v, v = ways d (n : Int) := ⟨_, rfl⟩
      rw [← hv]
      have HV := Lib.hid hv; clear hv
      go_enter Try.func27, Try.ntmps27
      go_wp2_with fail
      refine (daLeft_any _ _).mono ?_; rintro e w1 ⟨rfl, rfl⟩
      rw [H1.out]
      go_wp2_with fail
      refine (daDarts_any _ _).mono ?_; rintro e w1 ⟨rfl, rfl⟩
      rw [H2.out]
      go_wp2_with fail
      refine (daCount_any d n (by omega) hn false _).mono ?_; rintro e w1 ⟨g, rfl, hg, hr, b1⟩
      have c0 := hr.cell (j := n) (by rw [rowW_len]; omega)
      rw [rowW_get _ (by omega), cntV_all, ways_in d hd3, ← HV.out] at c0
      have b2 : (n : Int) < (n : Int) + 1 := by omega
      clear hr
      go_wp2_with fail
      go_ret2
      exact ⟨rfl, b1⟩

set_option maxRecDepth 4000 in
set_option maxHeartbeats 1600000 in
theorem specCanScore_any (a b : Int) (w : World) :
    Calls Try.prog 29 #[.int .i64 a, .int .i64 b] w fun e w' => e = .returned (.tuple #[.bool (scoV a b), .bool (askB a b)]) ∧ Below w.heap.size w w' := by
  cases h1 : inR a 0 1001
  · have e1 : scoV a b = false := by simp [scoV, askB, h1]
    have e2 : askB a b = false := by simp [askB, h1]
    rw [e1, e2]
    have H1 := Lib.hid h1; clear h1 e1 e2
    go_enter Try.func29, Try.ntmps29
    go_wp2_with fail
    refine (daLeft_any _ _).mono ?_; rintro e w1 ⟨rfl, rfl⟩
    rw [H1.out]
    go_wp2_with fail
    go_ret2
    exact ⟨rfl, Below.refl _ _⟩
  · cases h2 : inR b 1 3
    · have e1 : scoV a b = false := by simp [scoV, askB, h2]
      have e2 : askB a b = false := by simp [askB, h2]
      rw [e1, e2]
      have H1 := Lib.hid h1; clear h1 e1 e2
      have H2 := Lib.hid h2; clear h2
      go_enter Try.func29, Try.ntmps29
      go_wp2_with fail
      refine (daLeft_any _ _).mono ?_; rintro e w1 ⟨rfl, rfl⟩
      rw [H1.out]
      go_wp2_with fail
      refine (daDarts_any _ _).mono ?_; rintro e w1 ⟨rfl, rfl⟩
      rw [H2.out]
      go_wp2_with fail
      go_ret2
      exact ⟨rfl, Below.refl _ _⟩
    · have e2 : askB a b = true := by simp [askB, h1, h2]
      obtain ⟨n, d, rfl, rfl, hn, hd1, hd3⟩ := askB_nat e2
      have e1 : scoV n d = decide (0 < ways d n) := by simp [scoV, wayV, e2]
      rw [e1, e2]
      have H1 := Lib.hid h1; clear h1 e2
      have H2 := Lib.hid h2; clear h2
      obtain ⟨v, hv⟩ : ∃ v, v = ways d (n : Int) := ⟨_, rfl⟩
      rw [← hv]
      have HV := Lib.hid hv; clear hv
      go_enter Try.func29, Try.ntmps29
      go_wp2_with fail
      refine (daLeft_any _ _).mono ?_; rintro e w1 ⟨rfl, rfl⟩
      rw [H1.out]
      go_wp2_with fail
      refine (daDarts_any _ _).mono ?_; rintro e w1 ⟨rfl, rfl⟩
      rw [H2.out]
      go_wp2_with fail
      refine (daCount_any d n (by omega) hn false _).mono ?_; rintro e w1 ⟨g, rfl, hg, hr, b1⟩
      have c0 := hr.cell (j := n) (by rw [rowW_len]; omega)
      rw [rowW_get _ (by omega), cntV_all, ways_in d hd3, ← HV.out] at c0
      have b2 : (n : Int) < (n : Int) + 1 := by omega
      clear hr
      by_cases q : 0 < v
      all_goals
        go_wp2_with fail
        go_ret2
        exact ⟨by simp [q], b1⟩

set_option maxRecDepth 4000 in
set_option maxHeartbeats 1600000 in
theorem implCountWaysTo_any (a b : Int) (w : World) :
    Calls Try.prog 28 #[.int .i64 a, .int .i64 b] w fun e w' => e = .returned (.tuple #[.int .i64 (wayV a b), .bool (askB a b)]) ∧ Below w.heap.size w w' := by
  cases h1 : inR a 0 1001
  · have e1 : wayV a b = 0 := by simp [wayV, askB, h1]
    have e2 : askB a b = false := by simp [askB, h1]
    rw [e1, e2]
    have H1 := Lib.hid h1; clear h1 e1 e2
    go_enter Try.func28, Try.ntmps28
    go_wp2_with fail
    refine (isLeft_any _ _).mono ?_; rintro e w1 ⟨rfl, rfl⟩
    rw [H1.out]
    go_wp2_with fail
    go_ret2
    exact ⟨rfl, Below.refl _ _⟩
  · cases h2 : inR b 1 3
    · have e1 : wayV a b = 0 := by simp [wayV, askB, h2]
      have e2 : askB a b = false := by simp [askB, h2]
      rw [e1, e2]
      have H1 := Lib.hid h1; clear h1 e1 e2
      have H2 := Lib.hid h2; clear h2
      go_enter Try.func28, Try.ntmps28
      go_wp2_with fail
      refine (isLeft_any _ _).mono ?_; rintro e w1 ⟨rfl, rfl⟩
      rw [H1.out]
      go_wp2_with fail
      refine (isDartCount_any _ _).mono ?_; rintro e w1 ⟨rfl, rfl⟩
      rw [H2.out]
      go_wp2_with fail
      go_ret2
      exact ⟨rfl, Below.refl _ _⟩
    · have e2 : askB a b = true := by simp [askB, h1, h2]
      obtain ⟨n, d, rfl, rfl, hn, hd1, hd3⟩ := askB_nat e2
      have e1 : wayV n d = ways d n := by simp [wayV, e2]
      rw [e1, e2]
      have H1 := Lib.hid h1; clear h1 e2
      have H2 := Lib.hid h2; clear h2
      have HTop := Lib.hid (ways_top d (n : Int))
      obtain ⟨v, hv⟩ : ∃ v, v = ways d (n : Int) := ⟨_, rfl⟩
      rw [← hv]
      have HV := Lib.hid hv; clear hv
      by_cases q : n ≤ 180
      · have b2 : ¬ (180 : Int) < (n : Int) := by omega
        have b3 : (n : Int) < 181 := by omega
        have hix : ∀ w, (Instr.index 60 (.agg (tallyA d)) (.int .i64 (n : Int))).run Try.prog w = .ok (.int .i64 v) w := fun w => by rw [HV.out]; exact index_tally d n hd3 q w
        have HIX := Lib.hid hix; clear hix
        go_enter Try.func28, Try.ntmps28
        go_wp2_with fail
        refine (isLeft_any _ _).mono ?_; rintro e w1 ⟨rfl, rfl⟩
        rw [H1.out]
        go_wp2_with fail
        refine (isDartCount_any _ _).mono ?_; rintro e w1 ⟨rfl, rfl⟩
        rw [H2.out]
        go_wp2_with fail
        refine (tallies_any _).mono ?_; rintro e w1 ⟨b, rfl, hb, hm, b1⟩
        have HLook := Lib.hid (lookup_tally (n := d) hm (by omega) hd3)
        have hix := HIX.out
        go_wp2_with (at_lookup; refine wpList_lookup_run _ rfl _ _ 61 rfl b rfl _ (d : Int) rfl (by omega) _ HLook.out ?_)
        go_ret2
        exact ⟨rfl, b1⟩
      · have b2 : (180 : Int) < (n : Int) := by omega
        have hv0 : v = 0 := by rw [HV.out]; exact HTop.out (by omega)
        rw [hv0]
        go_enter Try.func28, Try.ntmps28
        go_wp2_with fail
        refine (isLeft_any _ _).mono ?_; rintro e w1 ⟨rfl, rfl⟩
        rw [H1.out]
        go_wp2_with fail
        refine (isDartCount_any _ _).mono ?_; rintro e w1 ⟨rfl, rfl⟩
        rw [H2.out]
        go_wp2_with fail
        go_ret2
        exact ⟨rfl, Below.refl _ _⟩

theorem scoV_is (a b : Int) : scoV a b = decide (0 < wayV a b) := by
  unfold scoV wayV
  cases h : askB a b <;> simp
set_option maxHeartbeats 800000 in
theorem implCanScore_any (a b : Int) (w : World) :
    Calls Try.prog 30 #[.int .i64 a, .int .i64 b] w fun e w' => e = .returned (.tuple #[.bool (scoV a b), .bool (askB a b)]) ∧ Below w.heap.size w w' := by
  have HQ := Lib.hid (implCountWaysTo_any a b)
  rw [scoV_is]
  generalize wayV a b = v at *
  generalize askB a b = o at *
  by_cases q : 0 < v
  all_goals
    go_enter Try.func30, Try.ntmps30
    go_wp2_with fail
    refine (HQ.out _).mono ?_; rintro e w1 ⟨rfl, b1⟩
    go_wp2_with fail
    go_ret2
    exact ⟨by simp [q], b1⟩

/-- How many of the first scores can be had. -/
def manyW (d : Nat) : Nat → Nat
  | 0 => 0
  | i + 1 => manyW d i + if 0 < ways d (i : Int) then 1 else 0
theorem manyW_le (d : Nat) : ∀ i, manyW d i ≤ i
  | 0 => Nat.le_refl _
  | i + 1 => by unfold manyW; have := manyW_le d i; split <;> omega
def cosV (b : Int) : Int := if inR b 1 3 = true then (manyW b.toNat 181 : Nat) else 0

set_option maxRecDepth 4000 in
set_option maxHeartbeats 1600000 in
theorem specCountScores_any (b : Int) (w : World) :
    Calls Try.prog 31 #[.int .i64 b] w fun e w' => e = .returned (.tuple #[.int .i64 (cosV b), .bool (inR b 1 3)]) ∧ Below w.heap.size w w' := by
  cases h2 : inR b 1 3
  · have e1 : cosV b = 0 := by simp [cosV, h2]
    rw [e1]
    have H2 := Lib.hid h2; clear h2 e1
    go_enter Try.func31, Try.ntmps31
    go_wp2_with fail
    refine (daDarts_any _ _).mono ?_; rintro e w1 ⟨rfl, rfl⟩
    rw [H2.out]
    go_wp2_with fail
    go_ret2
    exact ⟨rfl, Below.refl _ _⟩
  · obtain ⟨d, rfl, hd1, hd3⟩ : ∃ d : Nat, b = d ∧ 1 ≤ d ∧ d ≤ 3 := by simp [inR] at h2; exact ⟨b.toNat, by omega, by omega, by omega⟩
    obtain ⟨H, hH⟩ : ∃ H : Nat, H = manyW d 181 := ⟨_, rfl⟩
    have e1 : cosV d = (H : Int) := by rw [hH]; simp [cosV, h2]
    rw [e1]
    have H2 := Lib.hid h2; clear h2 e1
    have HH := Lib.hid hH; clear hH
    go_enter Try.func31, Try.ntmps31
    go_wp2_with fail
    refine (daDarts_any _ _).mono ?_; rintro e w1 ⟨rfl, rfl⟩
    rw [H2.out]
    go_wp2_with fail
    refine (daCount_any d 180 (by omega) (by omega) false _).mono ?_; rintro e w1 ⟨g, rfl, hg, hr, b1⟩
    have HR := Lib.hid hr; clear hr
    go_wp2_with fail
    go_loop [4, 13] (fun v i => ∃ k h : Nat, i = .int .i64 k ∧ v = .int .i64 h ∧ k ≤ 181 ∧ h ≤ k ∧ Hid (h = manyW d k)) (fun _ i => 181 - (intOf i).toNat)
    case atStart => exact ⟨0, 0, rfl, rfl, by omega, by omega, Lib.hid rfl⟩
    case round =>
      obtain ⟨k, h, rfl, rfl, hk, hhk, hF⟩ := hrel
      by_cases hlt : k < 181
      · have b2 : (k : Int) < 181 := by omega
        have c0 := HR.out.cell (j := k) (by rw [rowW_len]; omega)
        rw [rowW_get _ (by omega), cntV_all, ways_in d hd3] at c0
        have hstep : manyW d (k + 1) = manyW d k + if 0 < ways d (k : Int) then 1 else 0 := rfl
        generalize ways d (k : Int) = v at *
        by_cases q1 : 0 < v
        · have hs : h + 1 = manyW d (k + 1) := by rw [hstep, if_pos q1, hF.out]
          have HS := Lib.hid hs; clear hs hstep hF
          go_wp2_with fail
          go_round
          case rel => exact ⟨k + 1, h + 1, by go_num, by go_num, by omega, by omega, HS⟩
          case measure => simp [intOf]; omega
        · have hs : h = manyW d (k + 1) := by rw [hstep, if_neg q1, hF.out]; rfl
          have HS := Lib.hid hs; clear hs hstep hF
          go_wp2_with fail
          go_round
          case rel => exact ⟨k + 1, h, by go_num, rfl, by omega, by omega, HS⟩
          case measure => simp [intOf]; omega
      · obtain rfl : k = 181 := by omega
        have hH : h = H := hF.out.trans HH.out.symm
        subst hH
        have b2 : ¬ ((181 : Nat) : Int) < 181 := by omega
        go_wp2_with fail
        go_ret2
        exact ⟨rfl, b1⟩

set_option maxRecDepth 4000 in
set_option maxHeartbeats 1600000 in
theorem implCountScores_any (b : Int) (w : World) :
    Calls Try.prog 32 #[.int .i64 b] w fun e w' => e = .returned (.tuple #[.int .i64 (cosV b), .bool (inR b 1 3)]) ∧ Below w.heap.size w w' := by
  cases h2 : inR b 1 3
  · have e1 : cosV b = 0 := by simp [cosV, h2]
    rw [e1]
    have H2 := Lib.hid h2; clear h2 e1
    go_enter Try.func32, Try.ntmps32
    go_wp2_with fail
    refine (isDartCount_any _ _).mono ?_; rintro e w1 ⟨rfl, rfl⟩
    rw [H2.out]
    go_wp2_with fail
    go_ret2
    exact ⟨rfl, Below.refl _ _⟩
  · obtain ⟨d, rfl, hd1, hd3⟩ : ∃ d : Nat, b = d ∧ 1 ≤ d ∧ d ≤ 3 := by simp [inR] at h2; exact ⟨b.toNat, by omega, by omega, by omega⟩
    obtain ⟨H, hH⟩ : ∃ H : Nat, H = manyW d 181 := ⟨_, rfl⟩
    have e1 : cosV d = (H : Int) := by rw [hH]; simp [cosV, h2]
    rw [e1]
    have H2 := Lib.hid h2; clear h2 e1
    have HH := Lib.hid hH; clear hH
    go_enter Try.func32, Try.ntmps32
    go_wp2_with fail
    refine (isDartCount_any _ _).mono ?_; rintro e w1 ⟨rfl, rfl⟩
    rw [H2.out]
    go_wp2_with fail
    refine (tallies_any _).mono ?_; rintro e w1 ⟨b, rfl, hb, hm, b1⟩
    have HLook := Lib.hid (lookup_tally (n := d) hm (by omega) hd3)
    go_wp2_with (at_lookup; refine wpList_lookup_run _ rfl _ _ 61 rfl b rfl _ (d : Int) rfl (by omega) _ HLook.out ?_)
    go_loop [4, 13] (fun v i => ∃ k h : Nat, i = .int .i64 k ∧ v = .int .i64 h ∧ k ≤ 181 ∧ h ≤ k ∧ Hid (h = manyW d k)) (fun _ i => 181 - (intOf i).toNat)
    case atStart => exact ⟨0, 0, rfl, rfl, by omega, by omega, Lib.hid rfl⟩
    case round =>
      obtain ⟨k, h, rfl, rfl, hk, hhk, hF⟩ := hrel
      by_cases hlt : k < 181
      · have b2 : (k : Int) < 181 := by omega
        have hix : ∀ w, (Instr.index 60 (.agg (tallyA d)) (.int .i64 (k : Int))).run Try.prog w = .ok (.int .i64 (ways d k)) w := fun w => index_tally d k hd3 (by omega) w
        have hstep : manyW d (k + 1) = manyW d k + if 0 < ways d (k : Int) then 1 else 0 := rfl
        generalize ways d (k : Int) = v at *
        by_cases q1 : 0 < v
        · have hs : h + 1 = manyW d (k + 1) := by rw [hstep, if_pos q1, hF.out]
          have HS := Lib.hid hs; clear hs hstep hF
          go_wp2_with fail
          go_round
          case rel => exact ⟨k + 1, h + 1, by go_num, by go_num, by omega, by omega, HS⟩
          case measure => simp [intOf]; omega
        · have hs : h = manyW d (k + 1) := by rw [hstep, if_neg q1, hF.out]; rfl
          have HS := Lib.hid hs; clear hs hstep hF
          go_wp2_with fail
          go_round
          case rel => exact ⟨k + 1, h, by go_num, rfl, by omega, by omega, HS⟩
          case measure => simp [intOf]; omega
      · obtain rfl : k = 181 := by omega
        have hH : h = H := hF.out.trans HH.out.symm
        subst hH
        have b2 : ¬ ((181 : Nat) : Int) < 181 := by omega
        go_wp2_with fail
        go_ret2
        exact ⟨rfl, b1⟩

def finV (a b : Int) : Int := if askB a b = true then finW b.toNat a else 0

set_option maxRecDepth 4000 in
set_option maxHeartbeats 1600000 in
theorem specCountFinishes_any (a b : Int) (w : World) :
    Calls Try.prog 33 #[.int .i64 a, .int .i64 b] w fun e w' => e = .returned (.tuple #[.int .i64 (finV a b), .bool (askB a b)]) ∧ Below w.heap.size w w' := by
  cases h1 : inR a 0 1001
  · have e1 : finV a b = 0 := by simp [finV, askB, h1]
    have e2 : askB a b = false := by simp [askB, h1]
    rw [e1, e2]
    have H1 := Lib.hid h1; clear h1 e1 e2
    go_enter Try.func33, Try.ntmps33
    go_wp2_with fail
    refine (daLeft_any _ _).mono ?_; rintro e w1 ⟨rfl, rfl⟩
    rw [H1.out]
    go_wp2_with fail
    go_ret2
    exact ⟨rfl, Below.refl _ _⟩
  · cases h2 : inR b 1 3
    · have e1 : finV a b = 0 := by simp [finV, askB, h2]
      have e2 : askB a b = false := by simp [askB, h2]
      rw [e1, e2]
      have H1 := Lib.hid h1; clear h1 e1 e2
      have H2 := Lib.hid h2; clear h2
      go_enter Try.func33, Try.ntmps33
      go_wp2_with fail
      refine (daLeft_any _ _).mono ?_; rintro e w1 ⟨rfl, rfl⟩
      rw [H1.out]
      go_wp2_with fail
      refine (daDarts_any _ _).mono ?_; rintro e w1 ⟨rfl, rfl⟩
      rw [H2.out]
      go_wp2_with fail
      go_ret2
      exact ⟨rfl, Below.refl _ _⟩
    · have e2 : askB a b = true := by simp [askB, h1, h2]
      obtain ⟨n, d, rfl, rfl, hn, hd1, hd3⟩ := askB_nat e2
      have e1 : finV n d = finW d n := by simp [finV, e2]
      rw [e1, e2]
      have H1 := Lib.hid h1; clear h1 e2
      have H2 := Lib.hid h2; clear h2
      obtain ⟨m, rfl⟩ : ∃ m, d = m + 1 := ⟨d - 1, by omega⟩
      have HQ := Lib.hid (daFinishes_any n (m + 1) hn (by omega) (by omega))
      rw [wrap64_fin (by omega)] at HQ
      rw [show ((m + 1 : Nat) : Int) = (m : Int) + 1 from rfl] at *
      generalize finW (m + 1) (n : Int) = v at *
      go_enter Try.func33, Try.ntmps33
      go_wp2_with fail
      refine (daLeft_any _ _).mono ?_; rintro e w1 ⟨rfl, rfl⟩
      rw [H1.out]
      go_wp2_with fail
      refine (daDarts_any _ _).mono ?_; rintro e w1 ⟨rfl, rfl⟩
      rw [H2.out]
      go_wp2_with fail
      refine (HQ.out _).mono ?_; rintro e w1 ⟨rfl, b1⟩
      go_wp2_with fail
      go_ret2
      exact ⟨rfl, b1⟩
end Go.Proofs.Ytaplkciomagmiaa
