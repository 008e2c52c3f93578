/- ScoreOf: the model and the program, and the law over them. -/
import Derived.Test.YtcoagklioofgfaaDartThrow
import Derived.Test.YtcoagklioofgfaaDartOpen
namespace Go.Proofs.Ytcoagklioofgfaa.ExScoreOf
open Go.RowKit

def sumD (l : List (Int × Int)) : Int := (l.map fun d => d.1 * d.2).sum
def scoreN (l : List (Int × Int)) : Int := if listB l 0 9 then sumD l else 0
def scoreV (l : List (Int × Int)) : Value := .tuple #[.int .i64 (scoreN l), .bool (listB l 0 9)]
theorem scoreV_eq (l : List (Int × Int)) : scoreV l = .tuple #[.int .i64 (scoreN l), .bool (listB l 0 9)] := rfl

theorem sumD_step {l : List (Int × Int)} {k : Nat} (hk : k < l.length) : sumD (l.take (k + 1)) = sumD (l.take k) + (l.getD k (0, 0)).1 * (l.getD k (0, 0)).2 := by
  rw [List.take_succ_eq_append_getElem hk]
  simp only [sumD, List.map_append, List.sum_append, List.map_cons, List.map_nil, List.sum_cons, List.sum_nil]
  simp [hk]
theorem sumD_bd {l : List (Int × Int)} (h : allGood l = true) : ∀ k, k ≤ l.length → 0 ≤ sumD (l.take k) ∧ sumD (l.take k) ≤ 60 * (k : Int)
  | 0, _ => by simp [sumD]
  | k + 1, hk => by
    have ih := sumD_bd h k (by omega)
    obtain ⟨-, -, -, -, g5, g6⟩ := good_bd (allGood_get h k (by omega))
    rw [sumD_step (by omega)]
    omega

set_option maxHeartbeats 1600000 in
theorem daScore_any (l : List (Int × Int)) (a : Option Addr) (c : Nat) (w : World) (hl : (l.length : Int) ≤ 9) (h : Reads w a (darts l)) (hg : allGood l = true) :
    Calls Try.prog 51 #[.slice a l.length c] w fun e w' => e = .returned (.int .i64 (sumD l)) ∧ Below w.heap.size w w' := by
  have HR := Lib.hid h; clear h
  have HG := Lib.hid hg; clear hg
  go_enter Try.func51, Try.ntmps51
  go_wp2_with fail
  go_loopw [3, 8] (fun q i wr => ∃ k : Nat, i = .int .i64 k ∧ q = .int .i64 (sumD (l.take k)) ∧ k ≤ l.length ∧ Below w.heap.size w wr) (fun _ i _ => l.length - (intOf i).toNat)
  case atStart => exact ⟨0, rfl, rfl, Nat.zero_le _, Below.refl _ _⟩
  case round =>
    obtain ⟨k, rfl, rfl, hk, hbel⟩ := hrel
    by_cases hlt : k < l.length
    · obtain ⟨b, off, ha, _, hc⟩ := dcells_of_reads (HR.out.old hbel) (by omega)
      subst ha
      obtain ⟨c0, c1⟩ := hc k hlt
      have b1 : (k : Int) < (l.length : Int) := by omega
      clear hc
      obtain ⟨-, -, g3, g4, g5, g6⟩ := good_bd (allGood_get HG.out k hlt)
      have sb := sumD_bd HG.out k hk
      have hs := sumD_step hlt
      have HS := Lib.hid hs; clear hs
      generalize l.getD k (0, 0) = x at *
      obtain ⟨x1, x2⟩ := x
      simp only at c0 c1 g3 g4 g5 g6
      have zb := hbel.size
      have hal := hbel.alloc zb (.cells #[.int .i64 x1, .int .i64 x2] 25)
      have HB := Lib.hid hal; clear hal hbel zb
      generalize sumD (l.take k) = sk at *
      go_wp2
      go_roundw
      case rel => exact ⟨k + 1, by go_num, by rw [HS.out], by omega, HB.out⟩
      case measure => simp [intOf]; omega
    · obtain rfl : k = l.length := by omega
      rw [List.take_length]
      go_wp2
      go_ret
      exact ⟨rfl, hbel⟩

set_option maxHeartbeats 1600000 in
theorem spec_any (l : List (Int × Int)) (a : Option Addr) (c : Nat) (w : World) (hl : (l.length : Int) ≤ 1000000000000) (h : Reads w a (darts l)) :
    Calls Try.prog 19 #[.slice a l.length c] w fun e w' => e = .returned (scoreV l) ∧ Below w.heap.size w w' := by
  have HR := Lib.hid h; clear h
  cases hq : listB l 0 9
  · have hv : scoreV l = .tuple #[.int .i64 0, .bool false] := by simp [scoreV, scoreN, hq]
    rw [hv]; clear hv
    have HQ := Lib.hid hq; clear hq
    go_enter Try.func19, Try.ntmps19
    go_wp2_with fail
    refine (daList_any l _ _ _ _ _ hl HR.out).mono ?_; rintro e w1 ⟨rfl, bd⟩
    rw [HQ.out]
    go_wp2_with fail
    go_ret2
    exact ⟨rfl, bd⟩
  · have hv : scoreV l = .tuple #[.int .i64 (sumD l), .bool true] := by simp [scoreV, scoreN, hq]
    rw [hv]; clear hv
    have ⟨h9, hg⟩ : (l.length : Int) ≤ 9 ∧ allGood l = true := by
      simp only [listB, inR, Bool.and_eq_true, decide_eq_true_eq] at hq
      exact ⟨hq.1.2, hq.2⟩
    have HQ := Lib.hid hq; clear hq
    have HG := Lib.hid hg; clear hg
    go_enter Try.func19, Try.ntmps19
    go_wp2_with fail
    refine (daList_any l _ _ _ _ _ hl HR.out).mono ?_; rintro e w1 ⟨rfl, bd⟩
    rw [HQ.out]
    go_wp2_with fail
    refine (daScore_any l _ _ _ h9 (HR.out.old bd) HG.out).mono ?_; rintro e w2 ⟨rfl, bd2⟩
    have HB := Lib.hid (bd.trans (bd2.mono bd.size)); clear bd bd2
    go_wp2_with fail
    go_ret2
    exact ⟨rfl, HB.out⟩

set_option maxHeartbeats 1600000 in
theorem impl_any (l : List (Int × Int)) (a : Option Addr) (c : Nat) (w : World) (hl : (l.length : Int) ≤ 1000000000000) (h : Reads w a (darts l)) :
    Calls Try.prog 21 #[.slice a l.length c] w fun e w' => e = .returned (scoreV l) ∧ Below w.heap.size w w' := by
  have HR := Lib.hid h; clear h
  by_cases h9 : 9 < (l.length : Int)
  · have hv : scoreV l = .tuple #[.int .i64 0, .bool false] := by
      have hq : listB l 0 9 = false := by
        rw [Bool.eq_false_iff]; intro e
        simp only [listB, inR, Bool.and_eq_true, decide_eq_true_eq] at e
        omega
      simp [scoreV, scoreN, hq]
    rw [hv]; clear hv
    go_enter Try.func21, Try.ntmps21
    go_wp2_with fail
    go_ret2
    exact ⟨rfl, Below.refl _ _⟩
  have h0 : (0 : Int) ≤ (l.length : Int) := by omega
  cases hg : allGood l
  · have hv : scoreV l = .tuple #[.int .i64 0, .bool false] := by simp [scoreV, scoreN, listB, hg]
    rw [hv]; clear hv
    have HG := Lib.hid hg; clear hg
    go_enter Try.func21, Try.ntmps21
    go_wp2_with fail
    refine (areDarts_any l _ _ _ (by omega) HR.out).mono ?_; rintro r w1 ⟨rfl, bd1⟩
    rw [HG.out]
    go_wp2_with fail
    go_ret2
    exact ⟨rfl, bd1⟩
  have hv : scoreV l = .tuple #[.int .i64 (sumD l), .bool true] := by
    have hq : listB l 0 9 = true := by
      simp only [listB, inR, Bool.and_eq_true, decide_eq_true_eq]
      exact ⟨⟨h0, by omega⟩, hg⟩
    simp [scoreV, scoreN, hq]
  rw [hv]; clear hv
  have HG := Lib.hid hg; clear hg
  go_enter Try.func21, Try.ntmps21
  go_wp2_with fail
  refine (areDarts_any l _ _ _ (by omega) HR.out).mono ?_; rintro r w1 ⟨rfl, bd1⟩
  rw [HG.out]
  go_wp2_with fail
  go_loopw [4, 17] (fun q i wr => ∃ k : Nat, i = .int .i64 k ∧ q = .int .i64 (sumD (l.take k)) ∧ k ≤ l.length ∧ Below w.heap.size w wr) (fun _ i _ => l.length - (intOf i).toNat)
  case atStart => exact ⟨0, rfl, rfl, Nat.zero_le _, bd1⟩
  case round =>
    clear bd1
    obtain ⟨k, rfl, rfl, hk, hbel⟩ := hrel
    by_cases hlt : k < l.length
    · obtain ⟨b, off, ha, _, hc⟩ := dcells_of_reads (HR.out.old hbel) (by omega)
      subst ha
      obtain ⟨c0, c1⟩ := hc k hlt
      have b1 : (k : Int) < (l.length : Int) := by omega
      clear hc
      obtain ⟨-, -, g3, g4, g5, g6⟩ := good_bd (allGood_get HG.out k hlt)
      have sb := sumD_bd HG.out k hk
      have hs := sumD_step hlt
      have HS := Lib.hid hs; clear hs
      generalize l.getD k (0, 0) = x at *
      obtain ⟨x1, x2⟩ := x
      simp only at c0 c1 g3 g4 g5 g6
      have zb := hbel.size
      generalize sumD (l.take k) = sk at *
      go_wp2_with fail
      refine (dartScore_any x1 x2 _ g5 g6).mono ?_; rintro r w2 ⟨rfl, bd2⟩
      have HB := Lib.hid ((hbel.alloc zb _).trans (bd2.mono (by simp; omega)))
      clear bd2 hbel c0 c1 zb
      go_wp2
      go_roundw
      case rel => exact ⟨k + 1, by go_num, by rw [HS.out], by omega, HB.out⟩
      case measure => simp [intOf]; omega
    · obtain rfl : k = l.length := by omega
      rw [List.take_length]
      go_wp2
      go_ret2
      exact ⟨rfl, hbel⟩

set_option maxHeartbeats 1600000 in
theorem walk (a : Option Addr) (n c : Nat) (l : List (Int × Int)) (w : World) (h : l.length = n ∧ (n : Int) ≤ 9223372036854775807 ∧ Reads w a (darts l)) :
    Calls Try.prog 4 #[.slice a n c] w fun e w' => e = .returned (.bool true) ∧ Below w.heap.size w w' := by
  obtain ⟨rfl, hmx, hr⟩ := h
  by_cases hsz : (1048576 : Int) < (l.length : Int)
  · have hz : szN 1048576 l.length = -1 := by unfold szN; omega
    have HZ := Lib.hid hz; clear hz hr
    go_enter Try.func4, Try.ntmps4
    go_wp2_with fail
    refine (szDartS_any _ _ _ _ _ hmx (by omega) (by omega)).mono ?_; rintro e w1 ⟨rfl, rfl⟩
    rw [HZ.out]
    go_wp2_with fail
    go_ret
    exact ⟨rfl, Below.refl _ _⟩
  · have hz : 0 ≤ szN 1048576 l.length := by unfold szN; omega
    have HR := Lib.hid hr; clear hr
    have hl : (l.length : Int) ≤ 1048576 := by omega
    have hl2 : (l.length : Int) ≤ 1000000000000 := by omega
    clear hsz
    go_enter Try.func4, Try.ntmps4
    go_wp2_with fail
    refine (szDartS_any _ _ _ _ _ hmx (by omega) (by omega)).mono ?_; rintro e w1 ⟨rfl, rfl⟩
    generalize szN 1048576 l.length = sz at *
    go_wp2_with fail
    refine (toDartS_any l _ _ _ hl HR.out).mono ?_; rintro e w1 ⟨g1, rfl, hg1, hf1, b1⟩
    go_wp2_with fail
    refine (spec_any l _ _ _ hl2 hf1.reads).mono ?_; rintro e w2 ⟨rfl, b2⟩
    have HB2 := Lib.hid (b1.trans (b2.mono b1.size)); clear b1 b2 hf1
    rw [scoreV_eq]
    go_wp2_with fail
    refine (toDartS_any l _ _ _ hl (HR.out.old HB2.out)).mono ?_; rintro e w3 ⟨g2, rfl, hg2, hf2, b3⟩
    have HB3 := Lib.hid (HB2.out.trans (b3.mono HB2.out.size)); clear b3 HB2
    go_wp2_with fail
    refine (impl_any l _ _ _ hl2 hf2.reads).mono ?_; rintro e w4 ⟨rfl, b4⟩
    have HB4 := Lib.hid (HB3.out.trans (b4.mono HB3.out.size)); clear HB3
    have hf4 := hf2.keep b4
    clear b4 hf2
    rw [scoreV_eq]
    have q1 : (scoreN l != scoreN l) = false := by simp
    have q2 : (listB l 0 9 != listB l 0 9) = false := by simp
    go_wp2_with fail
    refine (toDartS_any l _ _ _ hl (HR.out.old HB4.out)).mono ?_; rintro e w5 ⟨g3, rfl, hg3, hf5, b5⟩
    have HB5 := Lib.hid (HB4.out.trans (b5.mono HB4.out.size)); clear HB4
    have hf6 := hf4.keep b5
    clear b5 hf4
    go_wp2_with fail
    refine (eqDartS_any l l _ _ _ _ _ hl2 hl2 hf6.reads hf5.reads).mono ?_; rintro e w6 ⟨rfl, b6⟩
    have HB6 := Lib.hid (HB5.out.trans (b6.mono HB5.out.size)); clear HB5 b6
    rw [show SameD l l = true from by simp [SameD]]
    go_wp2_with fail
    go_ret
    exact ⟨rfl, HB6.out⟩

end Go.Proofs.Ytcoagklioofgfaa.ExScoreOf
