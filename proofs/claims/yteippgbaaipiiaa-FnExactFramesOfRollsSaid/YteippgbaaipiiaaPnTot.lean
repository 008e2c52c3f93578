/-
  Pins: MostTotal, LeastTotal.
-/
import Derived.Test.YteippgbaaipiiaaPnMost
namespace Go.Proofs.Yteippgbaaipiiaa
open Go.RowKit
set_option linter.unusedVariables false
set_option linter.unusedSimpArgs false

def endV (pick : Int → Bool → Int) : Option St → Nat → Int
  | none, _ => 0
  | some s, F => (scoresG (endG pick F s)).sum
theorem good_end {pick : Int → Bool → Int} {F : Nat} {rolls : List Int} {s : St} (hp : fairP pick) (hi : InvG F s) (hg : gameG F ([], []) rolls = some s) (h1 : 1 ≤ F) (h2 : F ≤ 10) :
    totV (goodR (F : Int) (rolls ++ fillG pick F s)) (F : Int).toNat = (scoresG (endG pick F s)).sum ∧ allV (goodR (F : Int) (rolls ++ fillG pick F s)) (F : Int).toNat = true := by
  obtain ⟨e1, e2⟩ := end_game hp hi hg
  have e : goodR (F : Int) (rolls ++ fillG pick F s) = some (endG pick F s) := by
    unfold goodR
    rw [if_pos ⟨by omega, by omega⟩, Int.toNat_natCast]; exact e1
  rw [e, Int.toNat_natCast]
  refine ⟨?_, e2⟩
  simp [totV, e2]

set_option maxHeartbeats 1600000 in
theorem implMostTotal_any (f : Int) (rolls : List Int) (a : Option Addr) (c : Nat) (hc : rolls.length ≤ c) (hn : a = none → rolls = []) (ha : ∀ x, a = some x → x.spot = none) (w : World) (hl : (rolls.length : Int) ≤ 1000000000) (h : Reads w a (ints rolls)) :
    Calls Try.prog 39 #[.int .i64 f, .slice a rolls.length c] w fun e w' => e = .returned (.tuple #[.int .i64 (endV pickAll (goodR f rolls) f.toNat), .bool (goodR f rolls).isSome]) ∧ Below w.heap.size w w' := by
  have h1 := onAll_any f rolls a c hc hn ha w (by omega) h
  clear h
  cases hg : goodR f rolls with
  | none =>
    rw [hg] at h1
    have H1 := Lib.hid h1; clear h1 hg hn ha
    go_enter Try.func39, Try.ntmps39
    go_wp2_with fail
    refine H1.out.mono ?_; rintro e w1 ⟨-, hn, b1⟩
    obtain ⟨a1, n1, c1, rfl⟩ := hn rfl
    have B1 := Lib.hid b1; clear hn b1
    go_wp2_with fail
    refine bodyPost_ret (v := .tuple #[.int .i64 0, .bool false]) (by simp [results, Try.results39, go_sem]) rfl ⟨rfl, B1.out⟩
  | some s =>
    obtain ⟨F, rfl, hF1, hF2, hgm, hi, -⟩ := goodR_some hg
    rw [hg] at h1
    obtain ⟨q1, q2⟩ := good_end fair_all hi hgm hF1 hF2
    have hfl : (rolls ++ fillG pickAll F s).length ≤ 30 := game_len hF1 hF2 (end_game fair_all hi hgm).1
    have ht := fun a1 c1 hc1 w' (hr : Reads w' a1 (ints (rolls ++ fillG pickAll F s))) => implTotalOf_any (F : Int) (rolls ++ fillG pickAll F s) a1 c1 hc1 w' (by omega) hr
    rw [q1, q2] at ht
    have hv : endV pickAll (some s) ((F : Nat) : Int).toNat = (scoresG (endG pickAll F s)).sum := by simp [endV]
    rw [hv]
    have H1 := Lib.hid h1; clear h1
    have HT := Lib.hid ht; clear ht hg hn ha hgm hi q1 q2 hv
    go_enter Try.func39, Try.ntmps39
    go_wp2_with fail
    refine H1.out.mono ?_; rintro e w1 ⟨hn, -, b1⟩
    obtain ⟨a1, c1, rfl, hc1, hr1⟩ := hn s rfl
    rw [show ((F : Nat) : Int).toNat = F from by simp] at hc1 hr1 ⊢
    have B1 := Lib.hid b1; clear hn b1
    generalize rolls ++ fillG pickAll F s = full at *
    have HC := Lib.hid (And.intro hc1 hr1); clear hc1 hr1
    go_wp2_with fail
    refine (HT.out _ _ HC.out.1 _ HC.out.2).mono ?_; rintro e w2 ⟨rfl, b2⟩
    have B2 := Lib.hid (B1.out.trans (b2.mono B1.out.size)); clear b2
    go_wp2_with fail
    go_ret2
    exact ⟨rfl, B2.out⟩

set_option maxHeartbeats 1600000 in
theorem specMostTotal_any (f : Int) (rolls : List Int) (a : Option Addr) (c : Nat) (w : World) (hl : (rolls.length : Int) ≤ 1000000000) (h : Reads w a (ints rolls)) :
    Calls Try.prog 38 #[.int .i64 f, .slice a rolls.length c] w fun e w' => e = .returned (.tuple #[.int .i64 (endV pickAll (goodR f rolls) f.toNat), .bool (goodR f rolls).isSome]) ∧ Below w.heap.size w w' := by
  have hg := boGood_any f rolls a c w (by omega) h
  cases hq : goodR f rolls with
  | none =>
    rw [hq] at hg
    have HG := Lib.hid hg; clear hg h hq
    go_enter Try.func38, Try.ntmps38
    go_wp2_with fail
    refine HG.out.mono ?_; rintro e w1 ⟨rfl, b1⟩
    go_wp2_with fail
    refine bodyPost_ret (v := .tuple #[.int .i64 0, .bool false]) (by simp [results, Try.results38, go_sem]) rfl ⟨rfl, b1⟩
  | some s =>
    rw [hq] at hg
    obtain ⟨F, rfl, h1, h2, hgm, hi, -⟩ := goodR_some hq
    have hp := fun w' (hr : Reads w' a (ints rolls)) => boMost_any F h1 h2 rolls s hgm a c w' hr
    have hv : endV pickAll (some s) ((F : Nat) : Int).toNat = (scoresG (endG pickAll F s)).sum := by simp [endV]
    rw [hv]
    have HP := Lib.hid hp; clear hp
    have HR := Lib.hid h; clear h
    have HG := Lib.hid hg; clear hg hq hgm hi hv
    go_enter Try.func38, Try.ntmps38
    go_wp2_with fail
    refine HG.out.mono ?_; rintro e w1 ⟨rfl, b1⟩
    have B1 := Lib.hid b1; clear b1
    go_wp2_with fail
    refine (HP.out _ (HR.out.old B1.out)).mono ?_; rintro e w2 ⟨rfl, b2⟩
    have B2 := Lib.hid (B1.out.trans (b2.mono B1.out.size)); clear b2
    go_wp2_with fail
    go_ret2
    exact ⟨rfl, B2.out⟩

set_option maxHeartbeats 1600000 in
theorem implLeastTotal_any (f : Int) (rolls : List Int) (a : Option Addr) (c : Nat) (hc : rolls.length ≤ c) (hn : a = none → rolls = []) (ha : ∀ x, a = some x → x.spot = none) (w : World) (hl : (rolls.length : Int) ≤ 1000000000) (h : Reads w a (ints rolls)) :
    Calls Try.prog 41 #[.int .i64 f, .slice a rolls.length c] w fun e w' => e = .returned (.tuple #[.int .i64 (endV pickNone (goodR f rolls) f.toNat), .bool (goodR f rolls).isSome]) ∧ Below w.heap.size w w' := by
  have h1 := onNone_any f rolls a c hc hn ha w (by omega) h
  clear h
  cases hg : goodR f rolls with
  | none =>
    rw [hg] at h1
    have H1 := Lib.hid h1; clear h1 hg hn ha
    go_enter Try.func41, Try.ntmps41
    go_wp2_with fail
    refine H1.out.mono ?_; rintro e w1 ⟨-, hn, b1⟩
    obtain ⟨a1, n1, c1, rfl⟩ := hn rfl
    have B1 := Lib.hid b1; clear hn b1
    go_wp2_with fail
    refine bodyPost_ret (v := .tuple #[.int .i64 0, .bool false]) (by simp [results, Try.results41, go_sem]) rfl ⟨rfl, B1.out⟩
  | some s =>
    obtain ⟨F, rfl, hF1, hF2, hgm, hi, -⟩ := goodR_some hg
    rw [hg] at h1
    obtain ⟨q1, q2⟩ := good_end fair_none hi hgm hF1 hF2
    have hfl : (rolls ++ fillG pickNone F s).length ≤ 30 := game_len hF1 hF2 (end_game fair_none hi hgm).1
    have ht := fun a1 c1 hc1 w' (hr : Reads w' a1 (ints (rolls ++ fillG pickNone F s))) => implTotalOf_any (F : Int) (rolls ++ fillG pickNone F s) a1 c1 hc1 w' (by omega) hr
    rw [q1, q2] at ht
    have hv : endV pickNone (some s) ((F : Nat) : Int).toNat = (scoresG (endG pickNone F s)).sum := by simp [endV]
    rw [hv]
    have H1 := Lib.hid h1; clear h1
    have HT := Lib.hid ht; clear ht hg hn ha hgm hi q1 q2 hv
    go_enter Try.func41, Try.ntmps41
    go_wp2_with fail
    refine H1.out.mono ?_; rintro e w1 ⟨hn, -, b1⟩
    obtain ⟨a1, c1, rfl, hc1, hr1⟩ := hn s rfl
    rw [show ((F : Nat) : Int).toNat = F from by simp] at hc1 hr1 ⊢
    have B1 := Lib.hid b1; clear hn b1
    generalize rolls ++ fillG pickNone F s = full at *
    have HC := Lib.hid (And.intro hc1 hr1); clear hc1 hr1
    go_wp2_with fail
    refine (HT.out _ _ HC.out.1 _ HC.out.2).mono ?_; rintro e w2 ⟨rfl, b2⟩
    have B2 := Lib.hid (B1.out.trans (b2.mono B1.out.size)); clear b2
    go_wp2_with fail
    go_ret2
    exact ⟨rfl, B2.out⟩

set_option maxHeartbeats 1600000 in
theorem specLeastTotal_any (f : Int) (rolls : List Int) (a : Option Addr) (c : Nat) (w : World) (hl : (rolls.length : Int) ≤ 1000000000) (h : Reads w a (ints rolls)) :
    Calls Try.prog 40 #[.int .i64 f, .slice a rolls.length c] w fun e w' => e = .returned (.tuple #[.int .i64 (endV pickNone (goodR f rolls) f.toNat), .bool (goodR f rolls).isSome]) ∧ Below w.heap.size w w' := by
  have hg := boGood_any f rolls a c w (by omega) h
  cases hq : goodR f rolls with
  | none =>
    rw [hq] at hg
    have HG := Lib.hid hg; clear hg h hq
    go_enter Try.func40, Try.ntmps40
    go_wp2_with fail
    refine HG.out.mono ?_; rintro e w1 ⟨rfl, b1⟩
    go_wp2_with fail
    refine bodyPost_ret (v := .tuple #[.int .i64 0, .bool false]) (by simp [results, Try.results40, go_sem]) rfl ⟨rfl, b1⟩
  | some s =>
    rw [hq] at hg
    obtain ⟨F, rfl, h1, h2, hgm, hi, -⟩ := goodR_some hq
    have hp := fun w' (hr : Reads w' a (ints rolls)) => boLeast_any F h1 h2 rolls s hgm a c w' hr
    have hv : endV pickNone (some s) ((F : Nat) : Int).toNat = (scoresG (endG pickNone F s)).sum := by simp [endV]
    rw [hv]
    have HP := Lib.hid hp; clear hp
    have HR := Lib.hid h; clear h
    have HG := Lib.hid hg; clear hg hq hgm hi hv
    go_enter Try.func40, Try.ntmps40
    go_wp2_with fail
    refine HG.out.mono ?_; rintro e w1 ⟨rfl, b1⟩
    have B1 := Lib.hid b1; clear b1
    go_wp2_with fail
    refine (HP.out _ (HR.out.old B1.out)).mono ?_; rintro e w2 ⟨rfl, b2⟩
    have B2 := Lib.hid (B1.out.trans (b2.mono B1.out.size)); clear b2
    go_wp2_with fail
    go_ret2
    exact ⟨rfl, B2.out⟩
end Go.Proofs.Yteippgbaaipiiaa
