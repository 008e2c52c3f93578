/-
  Pins: AreRolls, AreAll, StandingPins: the model's and the program's.
-/
import Derived.Test.YteippgbaaipiiaaPnLaw
namespace Go.Proofs.Yteippgbaaipiiaa
open Go.RowKit
set_option linter.unusedVariables false
set_option linter.unusedSimpArgs false

set_option maxHeartbeats 800000 in
theorem specAreRolls_any (f : Int) (rolls : List Int) (a : Option Addr) (c : Nat) (w : World) (hl : (rolls.length : Int) ≤ 1000000000000) (h : Reads w a (ints rolls)) :
    Calls Try.prog 19 #[.int .i64 f, .slice a rolls.length c] w fun e w' => e = .returned (.bool (goodR f rolls).isSome) ∧ Below w.heap.size w w' := by
  have HG := Lib.hid (boGood_any f rolls a c w hl h); clear h
  go_enter Try.func19, Try.ntmps19
  go_wp2_with fail
  refine HG.out.mono ?_; rintro e w1 ⟨rfl, b1⟩
  go_wp2_with fail
  go_ret
  exact ⟨rfl, b1⟩

set_option maxHeartbeats 800000 in
theorem implAreRolls_any (f : Int) (rolls : List Int) (a : Option Addr) (c : Nat) (w : World) (hl : (rolls.length : Int) ≤ 1000000000000) (h : Reads w a (ints rolls)) :
    Calls Try.prog 21 #[.int .i64 f, .slice a rolls.length c] w fun e w' => e = .returned (.bool (goodR f rolls).isSome) ∧ Below w.heap.size w w' := by
  have hs := sheetOf_any f rolls a c w hl h
  cases hg : goodR f rolls with
  | none =>
    rw [hg] at hs
    have HS := Lib.hid hs; clear hs hg h
    go_enter Try.func21, Try.ntmps21
    go_wp2_with fail
    refine HS.out.mono ?_; rintro e w1 ⟨-, hn, b1⟩
    obtain rfl := hn rfl
    go_wp2_with fail
    go_ret
    exact ⟨rfl, b1⟩
  | some s =>
    rw [hg] at hs
    have HS := Lib.hid hs; clear hs hg h
    go_enter Try.func21, Try.ntmps21
    go_wp2_with fail
    refine HS.out.mono ?_; rintro e w1 ⟨hn, -, b1⟩
    obtain ⟨g, rfl, -, -⟩ := hn s rfl
    clear hn
    go_wp2_with fail
    go_ret
    exact ⟨rfl, b1⟩

/-- How the place and the pins of the next ball are told. -/
theorem next_any (F : Nat) (h1 : 1 ≤ F) (h2 : F ≤ 10) (s : St) (hi : InvG F s) (g c : Nat) (w : World) (hx : ShAt w g (sheetG F s)) :
    Calls Try.prog 61 #[.slice (some ⟨g, 0, none⟩) F c] w fun e w' => e = .returned (.tuple #[.int .i64 (if overG F s then 0 else s.1.length), .int .i64 (if overG F s then 0 else leftP s.2)]) ∧ Below w.heap.size w w' := by
  cases ho : overG F s
  · have hbd := leftP_bd s.2
    exact next_at (sheetG F s) F s.1.length (leftP s.2) (sheet_len hi.1) h2 (sheet_small hi) (over_false hi ho) (fun i hi' => next_done hi hi') (next_cur hi ho) (by omega) g c w hx
  · have hF2 : s.1.length = F := by simpa [overG] using ho
    exact next_none (sheetG F s) F (sheet_len hi.1) h2 (sheet_small hi) (fun i hi' => next_done hi (by omega)) g c w hx

def allV : Option St → Nat → Bool
  | none, _ => false
  | some s, F => overG F s

set_option maxHeartbeats 800000 in
theorem specAreAll_any (f : Int) (rolls : List Int) (a : Option Addr) (c : Nat) (w : World) (hl : (rolls.length : Int) ≤ 1000000000000) (h : Reads w a (ints rolls)) :
    Calls Try.prog 23 #[.int .i64 f, .slice a rolls.length c] w fun e w' => e = .returned (.tuple #[.bool (allV (goodR f rolls) f.toNat), .bool (goodR f rolls).isSome]) ∧ Below w.heap.size w w' := by
  have hg := boGood_any f rolls a c w hl h
  cases hq : goodR f rolls with
  | none =>
    rw [hq] at hg
    have HG := Lib.hid hg; clear hg h hq
    go_enter Try.func23, Try.ntmps23
    go_wp2_with fail
    refine HG.out.mono ?_; rintro e w1 ⟨rfl, b1⟩
    go_wp2_with fail
    go_ret2
    exact ⟨rfl, b1⟩
  | some s =>
    rw [hq] at hg
    obtain ⟨F, rfl, h1, h2, hgm, hi, -⟩ := goodR_some hq
    have hov := fun w' (hr : Reads w' a (ints rolls)) => boOver_any F h1 h2 rolls s hgm a c w' hl hr
    have HOV := Lib.hid hov; clear hov
    have HR := Lib.hid h; clear h
    have HG := Lib.hid hg; clear hg hq hgm hi
    go_enter Try.func23, Try.ntmps23
    go_wp2_with fail
    refine HG.out.mono ?_; rintro e w1 ⟨rfl, b1⟩
    have B1 := Lib.hid b1; clear b1
    go_wp2_with fail
    refine (HOV.out _ (HR.out.old B1.out)).mono ?_; rintro e w2 ⟨rfl, b2⟩
    have B2 := Lib.hid (B1.out.trans (b2.mono B1.out.size)); clear b2
    go_wp2_with fail
    go_ret2
    exact ⟨rfl, B2.out⟩

set_option maxHeartbeats 1600000 in
theorem implAreAll_any (f : Int) (rolls : List Int) (a : Option Addr) (c : Nat) (w : World) (hl : (rolls.length : Int) ≤ 1000000000000) (h : Reads w a (ints rolls)) :
    Calls Try.prog 24 #[.int .i64 f, .slice a rolls.length c] w fun e w' => e = .returned (.tuple #[.bool (allV (goodR f rolls) f.toNat), .bool (goodR f rolls).isSome]) ∧ Below w.heap.size w w' := by
  have hs := sheetOf_any f rolls a c w hl h
  cases hg : goodR f rolls with
  | none =>
    rw [hg] at hs
    have HS := Lib.hid hs; clear hs hg h
    go_enter Try.func24, Try.ntmps24
    go_wp2_with fail
    refine HS.out.mono ?_; rintro e w1 ⟨-, hn, b1⟩
    obtain rfl := hn rfl
    clear hn
    go_wp2_with fail
    refine (next_nil _).mono ?_; rintro e w2 ⟨rfl, rfl⟩
    go_wp2_with fail
    go_ret2
    exact ⟨rfl, b1⟩
  | some s =>
    rw [hg] at hs
    obtain ⟨F, rfl, h1, h2, -, hi, -⟩ := goodR_some hg
    rw [show ((F : Nat) : Int).toNat = F from by simp]
    have hnx := fun g c w hx => next_any F h1 h2 s hi g c w hx
    have hbd := leftP_bd s.2
    have HS := Lib.hid hs; clear hs hg h
    have hall : allV (some s) F = overG F s := rfl
    rw [hall]
    clear hall
    cases ho : overG F s
    · rw [ho] at hnx
      simp only [Bool.false_eq_true, if_false] at hnx
      have HN := Lib.hid hnx; clear hnx ho hi
      have he0 : (leftP s.2 == 0) = false := by simp; omega
      generalize leftP s.2 = st at *
      generalize s.1.length = d at *
      go_enter Try.func24, Try.ntmps24
      go_wp2_with fail
      refine HS.out.mono ?_; rintro e w1 ⟨hn, -, b1⟩
      obtain ⟨g, rfl, hsh, -⟩ := hn s rfl
      rw [show ((F : Nat) : Int).toNat = F from by simp] at hsh ⊢
      have B1 := Lib.hid (And.intro hsh b1); clear hn b1 hsh
      go_wp2_with fail
      refine (HN.out _ _ _ B1.out.1).mono ?_; rintro e w2 ⟨rfl, b2⟩
      have B2 := Lib.hid (B1.out.2.trans (b2.mono B1.out.2.size)); clear b2
      go_wp2_with fail
      go_ret2
      exact ⟨rfl, B2.out⟩
    · rw [ho] at hnx
      simp only [if_true] at hnx
      have HN := Lib.hid hnx; clear hnx ho hi
      go_enter Try.func24, Try.ntmps24
      go_wp2_with fail
      refine HS.out.mono ?_; rintro e w1 ⟨hn, -, b1⟩
      obtain ⟨g, rfl, hsh, -⟩ := hn s rfl
      rw [show ((F : Nat) : Int).toNat = F from by simp] at hsh ⊢
      have B1 := Lib.hid (And.intro hsh b1); clear hn b1 hsh
      go_wp2_with fail
      refine (HN.out _ _ _ B1.out.1).mono ?_; rintro e w2 ⟨rfl, b2⟩
      have B2 := Lib.hid (B1.out.2.trans (b2.mono B1.out.2.size)); clear b2
      go_wp2_with fail
      go_ret2
      exact ⟨rfl, B2.out⟩

def standV : Option St → Nat → Int
  | none, _ => 0
  | some s, F => if overG F s then 0 else leftP s.2
def standO : Option St → Nat → Bool
  | none, _ => false
  | some s, F => !overG F s

set_option maxHeartbeats 1600000 in
theorem specStandingPins_any (f : Int) (rolls : List Int) (a : Option Addr) (c : Nat) (w : World) (hl : (rolls.length : Int) ≤ 1000000000000) (h : Reads w a (ints rolls)) :
    Calls Try.prog 46 #[.int .i64 f, .slice a rolls.length c] w fun e w' => e = .returned (.tuple #[.int .i64 (standV (goodR f rolls) f.toNat), .bool (standO (goodR f rolls) f.toNat)]) ∧ Below w.heap.size w w' := by
  have hg := boGood_any f rolls a c w hl h
  cases hq : goodR f rolls with
  | none =>
    rw [hq] at hg
    have HG := Lib.hid hg; clear hg h hq
    go_enter Try.func46, Try.ntmps46
    go_wp2_with fail
    refine HG.out.mono ?_; rintro e w1 ⟨rfl, b1⟩
    go_wp2_with fail
    go_ret2
    exact ⟨rfl, b1⟩
  | some s =>
    rw [hq] at hg
    obtain ⟨F, rfl, h1, h2, hgm, hi, -⟩ := goodR_some hq
    rw [show ((F : Nat) : Int).toNat = F from by simp]
    have hp := fun w' (hr : Reads w' a (ints rolls)) => boPlay_any F h1 h2 rolls a c w' hl hr
    rw [hgm] at hp
    have HP := Lib.hid hp; clear hp
    have HR := Lib.hid h; clear h
    have HG := Lib.hid hg; clear hg hq hgm hi
    cases ho : overG F s
    · have hst : stA F s = leftP s.2 := stA_open ho
      have hv : standV (some s) F = leftP s.2 := by simp [standV, ho]
      have hv2 : standO (some s) F = true := by simp [standO, ho]
      rw [hv, hv2]
      have HO := Lib.hid (And.intro ho hst); clear ho hst hv hv2
      go_enter Try.func46, Try.ntmps46
      go_wp2_with fail
      refine HG.out.mono ?_; rintro e w1 ⟨rfl, b1⟩
      have B1 := Lib.hid b1; clear b1
      go_wp2_with fail
      refine (HP.out _ (HR.out.old B1.out)).mono ?_; rintro e w2 ⟨hn, -, b2⟩
      obtain ⟨a2, c2, rfl, -⟩ := hn s rfl
      rw [HO.out.1, HO.out.2]
      have B2 := Lib.hid (B1.out.trans (b2.mono B1.out.size)); clear b2 hn
      have z2 := B2.out.size
      generalize (frA F s : Int) = fr at *
      generalize (bsA F s).length = n2 at *
      go_wp2_with fail
      go_ret2
      exact ⟨rfl, B2.out.alloc z2 _⟩
    · have hv : standV (some s) F = 0 := by simp [standV, ho]
      have hv2 : standO (some s) F = false := by simp [standO, ho]
      rw [hv, hv2]
      have HO := Lib.hid ho; clear ho hv hv2
      go_enter Try.func46, Try.ntmps46
      go_wp2_with fail
      refine HG.out.mono ?_; rintro e w1 ⟨rfl, b1⟩
      have B1 := Lib.hid b1; clear b1
      go_wp2_with fail
      refine (HP.out _ (HR.out.old B1.out)).mono ?_; rintro e w2 ⟨hn, -, b2⟩
      obtain ⟨a2, c2, rfl, -⟩ := hn s rfl
      rw [HO.out]
      have B2 := Lib.hid (B1.out.trans (b2.mono B1.out.size)); clear b2 hn
      have z2 := B2.out.size
      generalize (frA F s : Int) = fr at *
      generalize stA F s = st at *
      generalize (bsA F s).length = n2 at *
      go_wp2_with fail
      go_ret2
      exact ⟨rfl, B2.out.alloc z2 _⟩

set_option maxHeartbeats 1600000 in
theorem implStandingPins_any (f : Int) (rolls : List Int) (a : Option Addr) (c : Nat) (w : World) (hl : (rolls.length : Int) ≤ 1000000000000) (h : Reads w a (ints rolls)) :
    Calls Try.prog 47 #[.int .i64 f, .slice a rolls.length c] w fun e w' => e = .returned (.tuple #[.int .i64 (standV (goodR f rolls) f.toNat), .bool (standO (goodR f rolls) f.toNat)]) ∧ Below w.heap.size w w' := by
  have hs := sheetOf_any f rolls a c w hl h
  cases hg : goodR f rolls with
  | none =>
    rw [hg] at hs
    have HS := Lib.hid hs; clear hs hg h
    go_enter Try.func47, Try.ntmps47
    go_wp2_with fail
    refine HS.out.mono ?_; rintro e w1 ⟨-, hn, b1⟩
    obtain rfl := hn rfl
    clear hn
    go_wp2_with fail
    refine (next_nil _).mono ?_; rintro e w2 ⟨rfl, rfl⟩
    go_wp2_with fail
    go_ret2
    exact ⟨rfl, b1⟩
  | some s =>
    rw [hg] at hs
    obtain ⟨F, rfl, h1, h2, -, hi, -⟩ := goodR_some hg
    rw [show ((F : Nat) : Int).toNat = F from by simp]
    have hnx := fun g c w hx => next_any F h1 h2 s hi g c w hx
    have hbd := leftP_bd s.2
    have HS := Lib.hid hs; clear hs hg h
    cases ho : overG F s
    · have hv : standV (some s) F = leftP s.2 := by simp [standV, ho]
      have hv2 : standO (some s) F = true := by simp [standO, ho]
      rw [hv, hv2]
      rw [ho] at hnx
      simp only [Bool.false_eq_true, if_false] at hnx
      have HN := Lib.hid hnx; clear hnx ho hi hv hv2
      have he0 : (0 : Int) < leftP s.2 := by omega
      generalize s.1.length = d at *
      go_enter Try.func47, Try.ntmps47
      go_wp2_with fail
      refine HS.out.mono ?_; rintro e w1 ⟨hn, -, b1⟩
      obtain ⟨g, rfl, hsh, -⟩ := hn s rfl
      rw [show ((F : Nat) : Int).toNat = F from by simp] at hsh ⊢
      have B1 := Lib.hid (And.intro hsh b1); clear hn b1 hsh
      go_wp2_with fail
      refine (HN.out _ _ _ B1.out.1).mono ?_; rintro e w2 ⟨rfl, b2⟩
      have B2 := Lib.hid (B1.out.2.trans (b2.mono B1.out.2.size)); clear b2
      go_wp2_with fail
      go_ret2
      exact ⟨rfl, B2.out⟩
    · have hv : standV (some s) F = 0 := by simp [standV, ho]
      have hv2 : standO (some s) F = false := by simp [standO, ho]
      rw [hv, hv2]
      rw [ho] at hnx
      simp only [if_true] at hnx
      have HN := Lib.hid hnx; clear hnx ho hi hv hv2
      go_enter Try.func47, Try.ntmps47
      go_wp2_with fail
      refine HS.out.mono ?_; rintro e w1 ⟨hn, -, b1⟩
      obtain ⟨g, rfl, hsh, -⟩ := hn s rfl
      rw [show ((F : Nat) : Int).toNat = F from by simp] at hsh ⊢
      have B1 := Lib.hid (And.intro hsh b1); clear hn b1 hsh
      go_wp2_with fail
      refine (HN.out _ _ _ B1.out.1).mono ?_; rintro e w2 ⟨rfl, b2⟩
      have B2 := Lib.hid (B1.out.2.trans (b2.mono B1.out.2.size)); clear b2
      go_wp2_with fail
      go_ret2
      exact ⟨rfl, B2.out⟩
end Go.Proofs.Yteippgbaaipiiaa
