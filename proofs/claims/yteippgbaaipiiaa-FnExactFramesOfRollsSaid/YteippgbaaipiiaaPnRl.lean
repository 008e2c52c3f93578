/-
  Pins: RollsLeft.
-/
import Derived.Test.YteippgbaaipiiaaPnOn
namespace Go.Proofs.Yteippgbaaipiiaa
open Go.RowKit
set_option linter.unusedVariables false
set_option linter.unusedSimpArgs false

theorem tup3 {a b c d : Int} {o : Bool} (h1 : a = c) (h2 : b = d) : Ending.returned (.tuple #[.int .i64 a, .int .i64 b, .bool o]) = .returned (.tuple #[.int .i64 c, .int .i64 d, .bool o]) := by rw [h1, h2]
def lftV : Option St → Nat → Int
  | none, _ => 0
  | some s, F => (leastLeft F s : Nat)
def mstV : Option St → Nat → Int
  | none, _ => 0
  | some s, F => (mostLeft F s : Nat)

set_option maxHeartbeats 1600000 in
theorem implRollsLeft_any (f : Int) (rolls : List Int) (a : Option Addr) (c : Nat) (hc : rolls.length ≤ c) (hn : a = none → rolls = []) (ha : ∀ x, a = some x → x.spot = none) (w : World) (hl : (rolls.length : Int) ≤ 1000000000000) (h : Reads w a (ints rolls)) :
    Calls Try.prog 49 #[.int .i64 f, .slice a rolls.length c] w fun e w' => e = .returned (.tuple #[.int .i64 (lftV (goodR f rolls) f.toNat), .int .i64 (mstV (goodR f rolls) f.toNat), .bool (goodR f rolls).isSome]) ∧ Below w.heap.size w w' := by
  have h1 := fun w' (hr : Reads w' a (ints rolls)) => onFew_any f rolls a c hc hn ha w' hl hr
  have h2 := fun w' (hr : Reads w' a (ints rolls)) => onMany_any f rolls a c hc hn ha w' hl hr
  have HR := Lib.hid h; clear h
  cases hg : goodR f rolls with
  | none =>
    rw [hg] at h1 h2
    have H1 := Lib.hid h1; clear h1
    have H2 := Lib.hid h2; clear h2 hg hn ha
    go_enter Try.func49, Try.ntmps49
    go_wp2_with fail
    refine (H1.out _ HR.out).mono ?_; rintro e w1 ⟨-, hn, b1⟩
    obtain ⟨a1, n1, c1, rfl⟩ := hn rfl
    have B1 := Lib.hid b1; clear hn b1
    go_wp2_with fail
    refine (H2.out _ (HR.out.old B1.out)).mono ?_; rintro e w2 ⟨-, hn, b2⟩
    obtain ⟨a2, n2, c2, rfl⟩ := hn rfl
    have B2 := Lib.hid (B1.out.trans (b2.mono B1.out.size)); clear hn b2
    go_wp2_with fail
    refine bodyPost_ret (v := .tuple #[.int .i64 0, .int .i64 0, .bool false]) (by simp [results, Try.results49, go_sem]) rfl ⟨rfl, B2.out⟩
  | some s =>
    obtain ⟨F, rfl, hF1, hF2, hgm, hi, -⟩ := goodR_some hg
    have e1 := few_len (mG F s) s hi (Nat.le_refl _)
    have e2 := many_len (mG F s) s hi (Nat.le_refl _)
    rw [hg] at h1 h2
    have hb1 : leastLeft F s ≤ 100 := by rw [← e1]; exact Nat.le_trans (fill_len_le (mG F s) s) (by unfold mG; omega)
    have hb2 : mostLeft F s ≤ 100 := by rw [← e2]; exact Nat.le_trans (fill_len_le (mG F s) s) (by unfold mG; omega)
    have hv1 : lftV (some s) ((F : Nat) : Int).toNat = ((leastLeft F s : Nat) : Int) := by simp [lftV]
    have hv2 : mstV (some s) ((F : Nat) : Int).toNat = ((mostLeft F s : Nat) : Int) := by simp [mstV]
    rw [hv1, hv2]
    have HE := Lib.hid (And.intro e1 e2); clear e1 e2 hv1 hv2
    have H1 := Lib.hid h1; clear h1
    have H2 := Lib.hid h2; clear h2 hg hn ha hgm hi
    generalize leastLeft F s = ll at *
    generalize mostLeft F s = ml at *
    go_enter Try.func49, Try.ntmps49
    go_wp2_with fail
    refine (H1.out _ HR.out).mono ?_; rintro e w1 ⟨hn, -, b1⟩
    obtain ⟨a1, c1, rfl, -⟩ := hn s rfl
    rw [show ((F : Nat) : Int).toNat = F from by simp, List.length_append, HE.out.1]
    have B1 := Lib.hid b1; clear hn b1
    go_wp2_with fail
    refine (H2.out _ (HR.out.old B1.out)).mono ?_; rintro e w2 ⟨hn, -, b2⟩
    obtain ⟨a2, c2, rfl, -⟩ := hn s rfl
    rw [show ((F : Nat) : Int).toNat = F from by simp, List.length_append, HE.out.2]
    have B2 := Lib.hid (B1.out.trans (b2.mono B1.out.size)); clear hn b2
    have s1 : (((rolls.length + ll : Nat) : Int) - (rolls.length : Int)) = (ll : Int) := by omega
    have s2 : (((rolls.length + ml : Nat) : Int) - (rolls.length : Int)) = (ml : Int) := by omega
    have s1' : (((rolls.length : Int) + (ll : Int)) - (rolls.length : Int)) = (ll : Int) := by omega
    have s2' : (((rolls.length : Int) + (ml : Int)) - (rolls.length : Int)) = (ml : Int) := by omega
    go_wp2_with fail
    refine bodyPost_ret (v := .tuple #[.int .i64 (ll : Int), .int .i64 (ml : Int), .bool true]) (by simp [results, Try.results49, go_sem]) rfl ⟨rfl, B2.out⟩

set_option maxHeartbeats 3200000 in
theorem specRollsLeft_any (f : Int) (rolls : List Int) (a : Option Addr) (c : Nat) (w : World) (hl : (rolls.length : Int) ≤ 1000000000000) (h : Reads w a (ints rolls)) :
    Calls Try.prog 48 #[.int .i64 f, .slice a rolls.length c] w fun e w' => e = .returned (.tuple #[.int .i64 (lftV (goodR f rolls) f.toNat), .int .i64 (mstV (goodR f rolls) f.toNat), .bool (goodR f rolls).isSome]) ∧ Below w.heap.size w w' := by
  have hg := boGood_any f rolls a c w hl h
  cases hq : goodR f rolls with
  | none =>
    rw [hq] at hg
    have HG := Lib.hid hg; clear hg h hq
    go_enter Try.func48, Try.ntmps48
    go_wp2_with fail
    refine HG.out.mono ?_; rintro e w1 ⟨rfl, b1⟩
    go_wp2_with fail
    refine bodyPost_ret (v := .tuple #[.int .i64 0, .int .i64 0, .bool false]) (by simp [results, Try.results48, go_sem]) rfl ⟨rfl, b1⟩
  | some s =>
    rw [hq] at hg
    obtain ⟨F, rfl, h1, h2, hgm, hi, -⟩ := goodR_some hq
    have hp := fun w' (hr : Reads w' a (ints rolls)) => boPlay_any F h1 h2 rolls a c w' hl hr
    rw [hgm] at hp
    have HP := Lib.hid hp; clear hp
    have HR := Lib.hid h; clear h
    have HG := Lib.hid hg; clear hg hq hgm
    have hv1 : lftV (some s) ((F : Nat) : Int).toNat = ((leastLeft F s : Nat) : Int) := by simp [lftV]
    have hv2 : mstV (some s) ((F : Nat) : Int).toNat = ((mostLeft F s : Nat) : Int) := by simp [mstV]
    rw [hv1, hv2]
    clear hv1 hv2
    cases ho : overG F s
    · have hop := inv_open hi ho
      have hlt := over_false hi ho
      have e1 : frA F s = s.1.length := by simp [frA, ho]
      have e2 : bsA F s = s.2 := by simp [bsA, ho]
      have e3 : stA F s = leftP s.2 := by simp [stA, e2]
      have HE := Lib.hid (And.intro e1 (And.intro e2 (And.intro e3 ho))); clear e1 e2 e3
      cases hla : lastG F s
      · have hd : s.1.length + 1 < F := by simp [lastG] at hla; omega
        have k1 : leastLeft F s = (F - 1 - s.1.length) + 2 := by simp [leastLeft, ho, hla]
        have k2 : mostLeft F s = if s.2.length = 1 then 1 + 2 * (F - 1 - s.1.length - 1) + 3 else 2 * (F - 1 - s.1.length) + 3 := by simp [mostLeft, ho, hla]
        rw [hla] at hop
        have hsh : s.2 = [] ∨ ∃ x, s.2 = [x] := by
          match hs : s.2, hop with
          | [], _ => exact .inl rfl
          | [x], _ => exact .inr ⟨x, rfl⟩
          | [_, _], hop => exact absurd hop.1 (by simp)
          | _ :: _ :: _ :: _, hop => exact absurd hop (by simp [openB])
        rw [k1, k2]
        clear k1 k2 hop hi ho hla
        rcases hsh with hs | ⟨x, hs⟩
        · rw [hs]
          try simp only [List.length_nil, List.length_cons, Nat.zero_add, if_true, List.getD_cons_zero, true_and]
          have HS := Lib.hid hs; clear hs
          go_enter Try.func48, Try.ntmps48
          go_wp2_with fail
          refine HG.out.mono ?_; rintro e w1 ⟨rfl, b1⟩
          have B1 := Lib.hid b1; clear b1
          go_wp2_with fail
          refine (HP.out _ (HR.out.old B1.out)).mono ?_; rintro e w2 ⟨hn, -, b2⟩
          obtain ⟨a2, c2, rfl, hr2⟩ := hn s rfl
          rw [HE.out.1, HE.out.2.1, HE.out.2.2.1, HE.out.2.2.2]
          rw [HE.out.2.1] at hr2
          rw [HS.out] at hr2 ⊢
          have B2 := Lib.hid (B1.out.trans (b2.mono B1.out.size)); clear b2 hn
          have z2 := B2.out.size
          clear hr2
          generalize leftP _ = st at *
          generalize hdd : s.1.length = d at *
          have HDD := Lib.hid hdd; clear hdd
          obtain ⟨q, hq⟩ : ∃ q : Nat, F = d + q + 2 := ⟨F - d - 2, by omega⟩
          subst hq
          have hbe : (((d + q + 2 : Nat) : Int) - 1 - (d : Int)) = (q : Int) + 1 := by push_cast; omega
          have hbe1 : (((d : Int) + (q : Int) + 2) - 1 - (d : Int)) = (q : Int) + 1 := by omega
          have hbe2 : ((q : Int) + 1 == 0) = false := by simp; omega
          have hq10 : (q : Int) ≤ 10 := by omega
          go_wp2_with fail
          refine bodyPost_ret (v := .tuple #[.int .i64 ((q : Int) + 1 + 2), .int .i64 (2 * ((q : Int) + 1) + 3), .bool true]) (by simp [results, Try.results48, go_sem]) rfl ⟨by have e := HDD.out; subst e; exact tup3 (by omega) (by omega), B2.out.alloc z2 _⟩
        · rw [hs]
          try simp only [List.length_nil, List.length_cons, Nat.zero_add, if_true, List.getD_cons_zero, true_and]
          have HS := Lib.hid hs; clear hs
          go_enter Try.func48, Try.ntmps48
          go_wp2_with fail
          refine HG.out.mono ?_; rintro e w1 ⟨rfl, b1⟩
          have B1 := Lib.hid b1; clear b1
          go_wp2_with fail
          refine (HP.out _ (HR.out.old B1.out)).mono ?_; rintro e w2 ⟨hn, -, b2⟩
          obtain ⟨a2, c2, rfl, hr2⟩ := hn s rfl
          rw [HE.out.1, HE.out.2.1, HE.out.2.2.1, HE.out.2.2.2]
          rw [HE.out.2.1] at hr2
          rw [HS.out] at hr2 ⊢
          have B2 := Lib.hid (B1.out.trans (b2.mono B1.out.size)); clear b2 hn
          have z2 := B2.out.size
          clear hr2
          generalize leftP _ = st at *
          generalize hdd : s.1.length = d at *
          have HDD := Lib.hid hdd; clear hdd
          obtain ⟨q, hq⟩ : ∃ q : Nat, F = d + q + 2 := ⟨F - d - 2, by omega⟩
          subst hq
          have hbe : (((d + q + 2 : Nat) : Int) - 1 - (d : Int)) = (q : Int) + 1 := by push_cast; omega
          have hbe1 : (((d : Int) + (q : Int) + 2) - 1 - (d : Int)) = (q : Int) + 1 := by omega
          have hbe2 : ((q : Int) + 1 == 0) = false := by simp; omega
          have hq10 : (q : Int) ≤ 10 := by omega
          go_wp2_with fail
          refine bodyPost_ret (v := .tuple #[.int .i64 (1 + ((q : Int) + 1) - 1 + 2), .int .i64 (1 + 2 * (q : Int) + 3), .bool true]) (by simp [results, Try.results48, go_sem]) rfl ⟨by have e := HDD.out; subst e; exact tup3 (by omega) (by omega), B2.out.alloc z2 _⟩
      · have hd : s.1.length + 1 = F := by simpa [lastG] using hla
        have k1 : leastLeft F s = if s.2.length = 0 then 2 else if s.2.length = 1 ∧ s.2.getD 0 0 = 10 then 2 else 1 := by simp [leastLeft, ho, hla]
        have k2 : mostLeft F s = if s.2.length = 0 then 3 else if s.2.length = 1 then 2 else 1 := by simp [mostLeft, ho, hla]
        rw [hla] at hop
        have hsh : s.2 = [] ∨ (∃ x, s.2 = [x]) ∨ (∃ x y, s.2 = [x, y]) := by
          match hs : s.2, hop with
          | [], _ => exact .inl rfl
          | [x], _ => exact .inr (.inl ⟨x, rfl⟩)
          | [x, y], _ => exact .inr (.inr ⟨x, y, rfl⟩)
          | _ :: _ :: _ :: _, hop => exact absurd hop (by simp [openB])
        rw [k1, k2]
        clear k1 k2 hop hi ho hla
        rcases hsh with hs | ⟨x, hs⟩ | ⟨x, y, hs⟩
        · rw [hs]
          try simp only [List.length_nil, List.length_cons, Nat.zero_add, if_true, List.getD_cons_zero, true_and]
          have HS := Lib.hid hs; clear hs
          go_enter Try.func48, Try.ntmps48
          go_wp2_with fail
          refine HG.out.mono ?_; rintro e w1 ⟨rfl, b1⟩
          have B1 := Lib.hid b1; clear b1
          go_wp2_with fail
          refine (HP.out _ (HR.out.old B1.out)).mono ?_; rintro e w2 ⟨hn, -, b2⟩
          obtain ⟨a2, c2, rfl, hr2⟩ := hn s rfl
          rw [HE.out.1, HE.out.2.1, HE.out.2.2.1, HE.out.2.2.2]
          rw [HE.out.2.1] at hr2
          rw [HS.out] at hr2 ⊢
          have B2 := Lib.hid (B1.out.trans (b2.mono B1.out.size)); clear b2 hn
          have z2 := B2.out.size
          clear hr2
          generalize leftP _ = st at *
          generalize hdd : s.1.length = d at *
          have HDD := Lib.hid hdd; clear hdd
          have hbe : ((F : Int) - 1 - (d : Int)) = 0 := by omega
          have hbe2 : ((F : Int) - 1 - (d : Int) == 0) = true := by simp; omega
          go_wp2_with fail
          refine bodyPost_ret (v := .tuple #[.int .i64 2, .int .i64 3, .bool true]) (by simp [results, Try.results48, go_sem]) rfl ⟨by rfl, B2.out.alloc z2 _⟩
        · by_cases hx : x = 10
          · rw [hs]
            try simp only [List.length_nil, List.length_cons, Nat.zero_add, if_true, List.getD_cons_zero, true_and]
            have HS := Lib.hid hs; clear hs
            subst hx
            go_enter Try.func48, Try.ntmps48
            go_wp2_with fail
            refine HG.out.mono ?_; rintro e w1 ⟨rfl, b1⟩
            have B1 := Lib.hid b1; clear b1
            go_wp2_with fail
            refine (HP.out _ (HR.out.old B1.out)).mono ?_; rintro e w2 ⟨hn, -, b2⟩
            obtain ⟨a2, c2, rfl, hr2⟩ := hn s rfl
            rw [HE.out.1, HE.out.2.1, HE.out.2.2.1, HE.out.2.2.2]
            rw [HE.out.2.1] at hr2
            rw [HS.out] at hr2 ⊢
            have B2 := Lib.hid (B1.out.trans (b2.mono B1.out.size)); clear b2 hn
            have z2 := B2.out.size
            obtain ⟨b, off, ea, hltb, hcs⟩ := cells_of_reads hr2 (by simp)
            subst ea
            have x0 : (w2.alloc (.cells #[.int .i64 (s.1.length : Int), .slice (some ⟨b, off, none⟩) 1 c2, .int .i64 (leftP [10]), .bool false] 67)).cell? ⟨b, off, none⟩ = some (.int .i64 10) := by
              have := hcs 0 (by simp)
              rw [Nat.add_zero] at this
              rw [(below_new w2 _).cell (p := ⟨b, off, none⟩) hltb]; exact this
            clear hcs hr2
            generalize leftP _ = st at *
            generalize hdd : s.1.length = d at *
            have HDD := Lib.hid hdd; clear hdd
            have hbe : ((F : Int) - 1 - (d : Int)) = 0 := by omega
            have hbe2 : ((F : Int) - 1 - (d : Int) == 0) = true := by simp; omega
            go_wp2_with fail
            refine bodyPost_ret (v := .tuple #[.int .i64 2, .int .i64 2, .bool true]) (by simp [results, Try.results48, go_sem]) rfl ⟨by rfl, B2.out.alloc z2 _⟩
          · rw [hs]
            try simp only [List.length_nil, List.length_cons, Nat.zero_add, if_true, List.getD_cons_zero, true_and]
            have HS := Lib.hid hs; clear hs
            have hx' : (x == 10) = false := by simp [hx]
            go_enter Try.func48, Try.ntmps48
            go_wp2_with fail
            refine HG.out.mono ?_; rintro e w1 ⟨rfl, b1⟩
            have B1 := Lib.hid b1; clear b1
            go_wp2_with fail
            refine (HP.out _ (HR.out.old B1.out)).mono ?_; rintro e w2 ⟨hn, -, b2⟩
            obtain ⟨a2, c2, rfl, hr2⟩ := hn s rfl
            rw [HE.out.1, HE.out.2.1, HE.out.2.2.1, HE.out.2.2.2]
            rw [HE.out.2.1] at hr2
            rw [HS.out] at hr2 ⊢
            have B2 := Lib.hid (B1.out.trans (b2.mono B1.out.size)); clear b2 hn
            have z2 := B2.out.size
            obtain ⟨b, off, ea, hltb, hcs⟩ := cells_of_reads hr2 (by simp)
            subst ea
            have x0 : (w2.alloc (.cells #[.int .i64 (s.1.length : Int), .slice (some ⟨b, off, none⟩) 1 c2, .int .i64 (leftP [x]), .bool false] 67)).cell? ⟨b, off, none⟩ = some (.int .i64 x) := by
              have := hcs 0 (by simp)
              rw [Nat.add_zero] at this
              rw [(below_new w2 _).cell (p := ⟨b, off, none⟩) hltb]; exact this
            clear hcs hr2
            generalize leftP _ = st at *
            generalize hdd : s.1.length = d at *
            have HDD := Lib.hid hdd; clear hdd
            have hbe : ((F : Int) - 1 - (d : Int)) = 0 := by omega
            have hbe2 : ((F : Int) - 1 - (d : Int) == 0) = true := by simp; omega
            go_wp2_with fail
            refine bodyPost_ret (v := .tuple #[.int .i64 1, .int .i64 2, .bool true]) (by simp [results, Try.results48, go_sem]) rfl ⟨by rfl, B2.out.alloc z2 _⟩
        · rw [hs]
          try simp only [List.length_nil, List.length_cons, Nat.zero_add, if_true, List.getD_cons_zero, true_and]
          have HS := Lib.hid hs; clear hs
          go_enter Try.func48, Try.ntmps48
          go_wp2_with fail
          refine HG.out.mono ?_; rintro e w1 ⟨rfl, b1⟩
          have B1 := Lib.hid b1; clear b1
          go_wp2_with fail
          refine (HP.out _ (HR.out.old B1.out)).mono ?_; rintro e w2 ⟨hn, -, b2⟩
          obtain ⟨a2, c2, rfl, hr2⟩ := hn s rfl
          rw [HE.out.1, HE.out.2.1, HE.out.2.2.1, HE.out.2.2.2]
          rw [HE.out.2.1] at hr2
          rw [HS.out] at hr2 ⊢
          have B2 := Lib.hid (B1.out.trans (b2.mono B1.out.size)); clear b2 hn
          have z2 := B2.out.size
          clear hr2
          generalize leftP _ = st at *
          generalize hdd : s.1.length = d at *
          have HDD := Lib.hid hdd; clear hdd
          have hbe : ((F : Int) - 1 - (d : Int)) = 0 := by omega
          have hbe2 : ((F : Int) - 1 - (d : Int) == 0) = true := by simp; omega
          go_wp2_with fail
          refine bodyPost_ret (v := .tuple #[.int .i64 1, .int .i64 1, .bool true]) (by simp [results, Try.results48, go_sem]) rfl ⟨by rfl, B2.out.alloc z2 _⟩
    · have k1 : leastLeft F s = 0 := by simp [leastLeft, ho]
      have k2 : mostLeft F s = 0 := by simp [mostLeft, ho]
      rw [k1, k2]
      have HO := Lib.hid ho; clear ho k1 k2 hi
      go_enter Try.func48, Try.ntmps48
      go_wp2_with fail
      refine HG.out.mono ?_; rintro e w1 ⟨rfl, b1⟩
      have B1 := Lib.hid b1; clear b1
      go_wp2_with fail
      refine (HP.out _ (HR.out.old B1.out)).mono ?_; rintro e w2 ⟨hn, -, b2⟩
      obtain ⟨a2, c2, rfl, -⟩ := hn s rfl
      rw [HO.out]
      have B2 := Lib.hid (B1.out.trans (b2.mono B1.out.size)); clear b2 hn
      have z2 := B2.out.size
      generalize (frA F s : Int) = fr at *
      generalize stA F s = st at *
      generalize (bsA F s).length = n2 at *
      go_wp2_with fail
      refine bodyPost_ret (v := .tuple #[.int .i64 0, .int .i64 0, .bool true]) (by simp [results, Try.results48, go_sem]) rfl ⟨rfl, B2.out.alloc z2 _⟩
end Go.Proofs.Yteippgbaaipiiaa
