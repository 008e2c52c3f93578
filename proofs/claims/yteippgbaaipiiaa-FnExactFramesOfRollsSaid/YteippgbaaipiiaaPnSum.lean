/-
  Pins: sums of scores: SoFar and TotalOf.
-/
import Derived.Test.YteippgbaaipiiaaPnFs2
namespace Go.Proofs.Yteippgbaaipiiaa
open Go.RowKit
set_option linter.unusedVariables false
set_option linter.unusedSimpArgs false

theorem scores30 {F : Nat} {rolls : List Int} {s : St} (h2 : F ≤ 10) (hgm : gameG F ([], []) rolls = some s) (hi : InvG F s) (hro : rollsG s = rolls) : bd30 (scoresG s) :=
  scores_bd30 hi h2 (by rw [hro]; exact game_fits _ _ _ hgm)

set_option maxHeartbeats 1600000 in
theorem boSum_any (F : Nat) (h1 : 1 ≤ F) (h2 : F ≤ 10) (rolls : List Int) (sf : St) (hg : gameG F ([], []) rolls = some sf) (a : Option Addr) (c : Nat) (hc : rolls.length ≤ c) (w : World) (h : Reads w a (ints rolls)) :
    Calls Try.prog 69 #[.int .i64 F, .slice a rolls.length c] w fun e w' => e = .returned (.int .i64 (scoresG sf).sum) ∧ Below w.heap.size w w' := by
  have hbs := boScores_any F h1 h2 rolls sf hg a c hc w h
  have hi := game_inv _ _ _ (inv_start h1) hg
  have hro : rollsG sf = rolls := by simpa [rollsG] using game_rolls _ _ _ hg
  obtain ⟨hl30, hb30⟩ := scores30 h2 hg hi hro
  have HB := Lib.hid hb30; clear hb30 hi hro hg h
  have HS := Lib.hid hbs; clear hbs
  generalize scoresG sf = l at *
  go_enter Try.func69, Try.ntmps69
  go_wp2_with fail
  refine HS.out.mono ?_; rintro e w1 ⟨v, rfl, hown, b1⟩
  obtain ⟨va, vc, rfl, hr, -⟩ := Reads.own hown
  have H1 := Lib.hid (And.intro hr b1); clear hr b1 hown
  by_cases hz : l = []
  · subst hz
    go_wp2_with fail
    refine wp_loop_rounds 1 ?_
    rw [rounds_succ]
    go_wp2_with fail
    go_ret
    exact ⟨rfl, H1.out.2⟩
  · have hpos : 0 < l.length := by cases l with | nil => exact absurd rfl hz | cons _ _ => simp
    obtain ⟨b, off, rfl, _, hcs⟩ := cells_of_reads H1.out.1 hpos
    have HC := Lib.hid hcs; clear hcs hz
    go_wp2_with fail
    go_loop [5, 12] (fun s i => ∃ k : Nat, i = .int .i64 k ∧ k ≤ l.length ∧ s = .int .i64 (l.take k).sum) (fun _ i => l.length - (intOf i).toNat)
    case atStart => exact ⟨0, rfl, Nat.zero_le _, by simp⟩
    case round =>
      obtain ⟨k, rfl, hk, rfl⟩ := hrel
      have hs := sum_in l k HB.out
      by_cases hlt : k < l.length
      · have hcell := HC.out k hlt
        have hst := sum_take l k hlt
        have HST := Lib.hid hst; clear hst
        have hx := HB.out l[k] (List.getElem_mem hlt)
        have e : l.getD k 0 = l[k] := by simp [hlt]
        rw [← e] at hx
        clear e
        have hb : (k : Int) < (l.length : Int) := by omega
        generalize l.getD k 0 = x at *
        generalize (l.take k).sum = s at *
        go_wp2_with fail
        go_round
        case rel => exact ⟨k + 1, by go_num, by omega, by rw [HST.out]⟩
        case measure => simp [intOf]; omega
      · obtain rfl : k = l.length := by omega
        rw [List.take_length] at hs ⊢
        go_wp2_with fail
        go_ret
        exact ⟨rfl, H1.out.2⟩

def sumV : Option St → Int
  | none => 0
  | some s => (scoresG s).sum
def totV : Option St → Nat → Int
  | none, _ => 0
  | some s, F => if overG F s then (scoresG s).sum else 0

set_option maxHeartbeats 1600000 in
theorem specSoFar_any (f : Int) (rolls : List Int) (a : Option Addr) (c : Nat) (hc : rolls.length ≤ c) (w : World) (hl : (rolls.length : Int) ≤ 1000000000000) (h : Reads w a (ints rolls)) :
    Calls Try.prog 36 #[.int .i64 f, .slice a rolls.length c] w fun e w' => e = .returned (.tuple #[.int .i64 (sumV (goodR f rolls)), .bool (goodR f rolls).isSome]) ∧ Below w.heap.size w w' := by
  have hg := boGood_any f rolls a c w hl h
  cases hq : goodR f rolls with
  | none =>
    rw [hq] at hg
    have HG := Lib.hid hg; clear hg h hq
    go_enter Try.func36, Try.ntmps36
    go_wp2_with fail
    refine HG.out.mono ?_; rintro e w1 ⟨rfl, b1⟩
    go_wp2_with fail
    go_ret2
    exact ⟨rfl, b1⟩
  | some s =>
    rw [hq] at hg
    obtain ⟨F, rfl, h1, h2, hgm, hi, -⟩ := goodR_some hq
    have hsu := fun w' (hr : Reads w' a (ints rolls)) => boSum_any F h1 h2 rolls s hgm a c hc w' hr
    have HSU := Lib.hid hsu; clear hsu
    have HR := Lib.hid h; clear h
    have HG := Lib.hid hg; clear hg hq hgm hi
    go_enter Try.func36, Try.ntmps36
    go_wp2_with fail
    refine HG.out.mono ?_; rintro e w1 ⟨rfl, b1⟩
    have B1 := Lib.hid b1; clear b1
    go_wp2_with fail
    refine (HSU.out _ (HR.out.old B1.out)).mono ?_; rintro e w2 ⟨rfl, b2⟩
    have B2 := Lib.hid (B1.out.trans (b2.mono B1.out.size)); clear b2
    go_wp2_with fail
    go_ret2
    exact ⟨rfl, B2.out⟩

set_option maxHeartbeats 1600000 in
theorem implSoFar_any (f : Int) (rolls : List Int) (a : Option Addr) (c : Nat) (hc : rolls.length ≤ c) (w : World) (hl : (rolls.length : Int) ≤ 1000000000000) (h : Reads w a (ints rolls)) :
    Calls Try.prog 37 #[.int .i64 f, .slice a rolls.length c] w fun e w' => e = .returned (.tuple #[.int .i64 (sumV (goodR f rolls)), .bool (goodR f rolls).isSome]) ∧ Below w.heap.size w w' := by
  have hs := implFrameScores_any f rolls a c hc w hl h
  cases hg : goodR f rolls with
  | none =>
    rw [hg] at hs
    have HS := Lib.hid hs; clear hs hg h
    go_enter Try.func37, Try.ntmps37
    go_wp2_with fail
    refine HS.out.mono ?_; rintro e w1 ⟨-, hn, b1⟩
    obtain rfl := hn rfl
    clear hn
    have B1 := Lib.hid b1; clear b1
    go_wp2_with fail
    refine (sumOf_any [] none 0 _ (by simp) (by simp) (.inl rfl)).mono ?_; rintro e w2 ⟨rfl, rfl⟩
    go_wp2_with fail
    go_ret2
    exact ⟨rfl, B1.out⟩
  | some s =>
    rw [hg] at hs
    obtain ⟨F, rfl, h1, h2, hgm, hi, hro⟩ := goodR_some hg
    obtain ⟨hl30, hb30⟩ := scores30 h2 hgm hi hro
    have HB := Lib.hid (And.intro hl30 hb30); clear hb30
    have HS := Lib.hid hs; clear hs hg h hgm hi hro
    have hv : sumV (some s) = (scoresG s).sum := rfl
    rw [hv]; clear hv
    go_enter Try.func37, Try.ntmps37
    go_wp2_with fail
    refine HS.out.mono ?_; rintro e w1 ⟨hn, -, b1⟩
    obtain ⟨a2, c2, rfl, hown⟩ := hn s rfl
    clear hn
    obtain ⟨a3, c3, e3, hr, -⟩ := Reads.own hown
    injection e3 with e4 e5 e6
    subst e4
    have H1 := Lib.hid (And.intro hr b1); clear hr b1 hown
    go_wp2_with fail
    refine (sumOf_any (scoresG s) _ _ _ HB.out.1 HB.out.2 H1.out.1).mono ?_; rintro e w2 ⟨rfl, rfl⟩
    go_wp2_with fail
    go_ret2
    exact ⟨rfl, H1.out.2⟩

set_option maxHeartbeats 1600000 in
theorem specTotalOf_any (f : Int) (rolls : List Int) (a : Option Addr) (c : Nat) (hc : rolls.length ≤ c) (w : World) (hl : (rolls.length : Int) ≤ 1000000000000) (h : Reads w a (ints rolls)) :
    Calls Try.prog 34 #[.int .i64 f, .slice a rolls.length c] w fun e w' => e = .returned (.tuple #[.int .i64 (totV (goodR f rolls) f.toNat), .bool (allV (goodR f rolls) f.toNat)]) ∧ Below w.heap.size w w' := by
  have hg := boGood_any f rolls a c w hl h
  cases hq : goodR f rolls with
  | none =>
    rw [hq] at hg
    have HG := Lib.hid hg; clear hg h hq
    go_enter Try.func34, Try.ntmps34
    go_wp2_with fail
    refine HG.out.mono ?_; rintro e w1 ⟨rfl, b1⟩
    go_wp2_with fail
    go_ret2
    exact ⟨rfl, b1⟩
  | some s =>
    rw [hq] at hg
    obtain ⟨F, rfl, h1, h2, hgm, hi, -⟩ := goodR_some hq
    rw [show ((F : Nat) : Int).toNat = F from by simp]
    have hsu := fun w' (hr : Reads w' a (ints rolls)) => boSum_any F h1 h2 rolls s hgm a c hc w' hr
    have hov := fun w' (hr : Reads w' a (ints rolls)) => boOver_any F h1 h2 rolls s hgm a c w' hl hr
    have HSU := Lib.hid hsu; clear hsu
    have HR := Lib.hid h; clear h
    have HG := Lib.hid hg; clear hg hq hgm hi
    have hv1 : totV (some s) F = if overG F s then (scoresG s).sum else 0 := rfl
    have hv2 : allV (some s) F = overG F s := rfl
    rw [hv1, hv2]; clear hv1 hv2
    cases ho : overG F s
    · rw [ho] at hov
      simp only [Bool.false_eq_true, if_false]
      have HOV := Lib.hid hov; clear hov ho
      go_enter Try.func34, Try.ntmps34
      go_wp2_with fail
      refine HG.out.mono ?_; rintro e w1 ⟨rfl, b1⟩
      have B1 := Lib.hid b1; clear b1
      go_wp2_with fail
      refine (HOV.out _ (HR.out.old B1.out)).mono ?_; rintro e w2 ⟨rfl, b2⟩
      have B2 := Lib.hid (B1.out.trans (b2.mono B1.out.size)); clear b2
      go_wp2_with fail
      go_ret2
      exact ⟨rfl, B2.out⟩
    · rw [ho] at hov
      simp only [if_true]
      have HOV := Lib.hid hov; clear hov ho
      go_enter Try.func34, Try.ntmps34
      go_wp2_with fail
      refine HG.out.mono ?_; rintro e w1 ⟨rfl, b1⟩
      have B1 := Lib.hid b1; clear b1
      go_wp2_with fail
      refine (HOV.out _ (HR.out.old B1.out)).mono ?_; rintro e w2 ⟨rfl, b2⟩
      have B2 := Lib.hid (B1.out.trans (b2.mono B1.out.size)); clear b2
      go_wp2_with fail
      refine (HSU.out _ (HR.out.old B2.out)).mono ?_; rintro e w3 ⟨rfl, b3⟩
      have B3 := Lib.hid (B2.out.trans (b3.mono B2.out.size)); clear b3
      go_wp2_with fail
      go_ret2
      exact ⟨rfl, B3.out⟩

set_option maxHeartbeats 1600000 in
theorem implTotalOf_any (f : Int) (rolls : List Int) (a : Option Addr) (c : Nat) (hc : rolls.length ≤ c) (w : World) (hl : (rolls.length : Int) ≤ 1000000000000) (h : Reads w a (ints rolls)) :
    Calls Try.prog 35 #[.int .i64 f, .slice a rolls.length c] w fun e w' => e = .returned (.tuple #[.int .i64 (totV (goodR f rolls) f.toNat), .bool (allV (goodR f rolls) f.toNat)]) ∧ Below w.heap.size w w' := by
  have ha := implAreAll_any f rolls a c w hl h
  have hs := fun w' (hr : Reads w' a (ints rolls)) => implSoFar_any f rolls a c hc w' hl hr
  have HR := Lib.hid h; clear h
  cases hall : allV (goodR f rolls) f.toNat
  · have hv : totV (goodR f rolls) f.toNat = 0 := by
      cases hg : goodR f rolls with
      | none => rfl
      | some s =>
        rw [hg] at hall
        have : overG f.toNat s = false := hall
        simp [totV, this]
    rw [hall] at ha
    rw [hv]
    have HA := Lib.hid ha; clear ha hs hv hall
    go_enter Try.func35, Try.ntmps35
    go_wp2_with fail
    refine HA.out.mono ?_; rintro e w1 ⟨rfl, b1⟩
    go_wp2_with fail
    go_ret2
    exact ⟨rfl, b1⟩
  · have hv : totV (goodR f rolls) f.toNat = sumV (goodR f rolls) ∧ (goodR f rolls).isSome = true := by
      cases hg : goodR f rolls with
      | none => rw [hg] at hall; cases hall
      | some s =>
        rw [hg] at hall
        have : overG f.toNat s = true := hall
        simp [totV, sumV, this]
    rw [hall] at ha
    rw [hv.2] at hs
    rw [hv.1]
    have HA := Lib.hid ha; clear ha hv hall
    have HS := Lib.hid hs; clear hs
    go_enter Try.func35, Try.ntmps35
    go_wp2_with fail
    refine HA.out.mono ?_; rintro e w1 ⟨rfl, b1⟩
    have B1 := Lib.hid b1; clear b1
    go_wp2_with fail
    refine (HS.out _ (HR.out.old B1.out)).mono ?_; rintro e w2 ⟨rfl, b2⟩
    have B2 := Lib.hid (B1.out.trans (b2.mono B1.out.size)); clear b2
    go_wp2_with fail
    go_ret2
    exact ⟨rfl, B2.out⟩
end Go.Proofs.Yteippgbaaipiiaa
