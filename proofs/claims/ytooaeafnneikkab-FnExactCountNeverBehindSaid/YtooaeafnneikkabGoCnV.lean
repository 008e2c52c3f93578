/-
  Goals: CountGames, CountNeverBehind: what they hand back; the model's.
-/
import Derived.Test.YtooaeafnneikkabGoCnM
import Derived.Test.YtooaeafnneikkabGoAsk
namespace Go.Proofs.Ytooaeafnneikkab
open Go.RowKit
set_option linter.unusedVariables false
set_option linter.unusedSimpArgs false

def askedC (ks : List Int) (a b : Int) : Bool := goodK ks && goodS a && goodS b
def totC (ks : List Int) (nv : Bool) (a b : Int) : Int := sumT ks nv a b 60
def cntV (ks : List Int) (nv : Bool) (a b : Int) : Int := if askedC ks a b = true ∧ totC ks nv a b ≤ 1000000000000000 then totC ks nv a b else 0
def cntB (ks : List Int) (nv : Bool) (a b : Int) : Bool := askedC ks a b && decide (totC ks nv a b ≤ 1000000000000000)
theorem cum_tot (ks : List Int) (nv : Bool) (a b : Int) : cumT ks nv a b 61 = minO (totC ks nv a b) := cumT_is ks nv a b 60
theorem cum_gt (ks : List Int) (nv : Bool) (a b : Int) : ((1000000000000000 : Int) < cumT ks nv a b 61) ↔ ¬ totC ks nv a b ≤ 1000000000000000 := by
  rw [cum_tot]; unfold minO capG; split <;> omega
theorem cum_eq (ks : List Int) (nv : Bool) (a b : Int) (h : totC ks nv a b ≤ 1000000000000000) : cumT ks nv a b 61 = totC ks nv a b := by
  rw [cum_tot]; unfold minO capG; split <;> omega
theorem nat_of_good {s : Int} (h : goodS s = true) : ∃ m : Nat, s = (m : Int) ∧ m ≤ 200 := by
  have := goodS_bd h
  exact ⟨s.toNat, by omega, by omega⟩

set_option maxHeartbeats 1600000 in
theorem specCountGames_any (ks : List Int) (x0 x1 : Int) (a : Option Addr) (c : Nat) (w : World) (hl : (ks.length : Int) ≤ 1000000000000) (h : Reads w a (ints ks)) :
    Calls Try.prog 33 #[.slice a ks.length c, .int .i64 x0, .int .i64 x1] w fun e w' => e = .returned (.tuple #[.int .i64 (cntV ks false x0 x1), .bool (cntB ks false x0 x1)]) ∧ Below w.heap.size w w' := by
  have HQ := Lib.hid (goAsked_any ks x0 a c w hl h)
  have HSC := Lib.hid (fun W => goScore_any x1 W)
  cases hg : askedG ks x0
  · have ha : askedC ks x0 x1 = false := by unfold askedG at hg; unfold askedC; rw [hg]; rfl
    have e1 : cntV ks false x0 x1 = 0 := by simp [cntV, ha]
    have e2 : cntB ks false x0 x1 = false := by simp [cntB, ha]
    rw [e1, e2]; clear e1 e2 ha
    have HG := Lib.hid hg; clear hg h
    go_enter Try.func33, Try.ntmps33
    go_wp2_with fail
    refine HQ.out.mono ?_; rintro e w1 ⟨rfl, b1⟩
    rw [HG.out]
    go_wp2_with fail
    go_ret2
    exact ⟨rfl, b1⟩
  · cases hs : goodS x1
    · have ha : askedC ks x0 x1 = false := by unfold askedC; rw [hs]; simp
      have e1 : cntV ks false x0 x1 = 0 := by simp [cntV, ha]
      have e2 : cntB ks false x0 x1 = false := by simp [cntB, ha]
      rw [e1, e2]; clear e1 e2 ha
      have HG := Lib.hid (And.intro hg hs); clear hg h hs
      go_enter Try.func33, Try.ntmps33
      go_wp2_with fail
      refine HQ.out.mono ?_; rintro e w1 ⟨rfl, b1⟩
      rw [HG.out.1]
      go_wp2_with fail
      refine (HSC.out _).mono ?_; rintro e w2 ⟨rfl, rfl⟩
      rw [HG.out.2]
      go_wp2_with fail
      go_ret2
      exact ⟨rfl, b1⟩
    · obtain ⟨hk, hs0⟩ := asked_split hg
      obtain ⟨A, rfl, hA⟩ := nat_of_good hs0
      obtain ⟨B, rfl, hB⟩ := nat_of_good hs
      have ha : askedC ks A B = true := by unfold askedC; rw [hk, hs0, hs]; rfl
      have e1 : cntV ks false A B = if totC ks false A B ≤ 1000000000000000 then totC ks false A B else 0 := by simp [cntV, ha]
      have e2 : cntB ks false A B = decide (totC ks false A B ≤ 1000000000000000) := by simp [cntB, ha]
      rw [e1, e2]; clear e1 e2 ha
      have HC := Lib.hid (fun w' (hr : Reads w' a (ints ks)) => goCount_any ks (good_mem hk) (good_len hk).2 A B hA hB false a c w' hr)
      have hgt := cum_gt ks false A B
      have heq := cum_eq ks false A B
      have HG := Lib.hid (And.intro hg hs); clear hg hs hk hs0
      have HR := Lib.hid h; clear h
      generalize totC ks false A B = T at *
      generalize cumT ks false A B 61 = C at *
      by_cases q : T ≤ 1000000000000000
      · have hc : C = T := heq q
        subst hc
        have q' : ¬ 1000000000000000 < C := by omega
        rw [if_pos q, decide_eq_true q]
        clear hgt heq q
        go_enter Try.func33, Try.ntmps33
        go_wp2_with fail
        refine HQ.out.mono ?_; rintro e w1 ⟨rfl, b1⟩
        rw [HG.out.1]
        have B1 := Lib.hid b1; clear b1
        go_wp2_with fail
        refine (HSC.out _).mono ?_; rintro e w2 ⟨rfl, rfl⟩
        rw [HG.out.2]
        go_wp2_with fail
        refine (HC.out _ (HR.out.old B1.out)).mono ?_; rintro e w3 ⟨rfl, b3⟩
        have B3 := Lib.hid (B1.out.trans (b3.mono B1.out.size)); clear b3
        go_wp2_with fail
        go_ret2
        exact ⟨rfl, B3.out⟩
      · have q' : 1000000000000000 < C := hgt.2 q
        rw [if_neg q, decide_eq_false q]
        clear hgt heq q
        go_enter Try.func33, Try.ntmps33
        go_wp2_with fail
        refine HQ.out.mono ?_; rintro e w1 ⟨rfl, b1⟩
        rw [HG.out.1]
        have B1 := Lib.hid b1; clear b1
        go_wp2_with fail
        refine (HSC.out _).mono ?_; rintro e w2 ⟨rfl, rfl⟩
        rw [HG.out.2]
        go_wp2_with fail
        refine (HC.out _ (HR.out.old B1.out)).mono ?_; rintro e w3 ⟨rfl, b3⟩
        have B3 := Lib.hid (B1.out.trans (b3.mono B1.out.size)); clear b3
        go_wp2_with fail
        go_ret2
        exact ⟨rfl, B3.out⟩

set_option maxHeartbeats 1600000 in
theorem specCountNeverBehind_any (ks : List Int) (x0 x1 : Int) (a : Option Addr) (c : Nat) (w : World) (hl : (ks.length : Int) ≤ 1000000000000) (h : Reads w a (ints ks)) :
    Calls Try.prog 35 #[.slice a ks.length c, .int .i64 x0, .int .i64 x1] w fun e w' => e = .returned (.tuple #[.int .i64 (cntV ks true x0 x1), .bool (cntB ks true x0 x1)]) ∧ Below w.heap.size w w' := by
  have HQ := Lib.hid (goAsked_any ks x0 a c w hl h)
  have HSC := Lib.hid (fun W => goScore_any x1 W)
  cases hg : askedG ks x0
  · have ha : askedC ks x0 x1 = false := by unfold askedG at hg; unfold askedC; rw [hg]; rfl
    have e1 : cntV ks true x0 x1 = 0 := by simp [cntV, ha]
    have e2 : cntB ks true x0 x1 = false := by simp [cntB, ha]
    rw [e1, e2]; clear e1 e2 ha
    have HG := Lib.hid hg; clear hg h
    go_enter Try.func35, Try.ntmps35
    go_wp2_with fail
    refine HQ.out.mono ?_; rintro e w1 ⟨rfl, b1⟩
    rw [HG.out]
    go_wp2_with fail
    go_ret2
    exact ⟨rfl, b1⟩
  · cases hs : goodS x1
    · have ha : askedC ks x0 x1 = false := by unfold askedC; rw [hs]; simp
      have e1 : cntV ks true x0 x1 = 0 := by simp [cntV, ha]
      have e2 : cntB ks true x0 x1 = false := by simp [cntB, ha]
      rw [e1, e2]; clear e1 e2 ha
      have HG := Lib.hid (And.intro hg hs); clear hg h hs
      go_enter Try.func35, Try.ntmps35
      go_wp2_with fail
      refine HQ.out.mono ?_; rintro e w1 ⟨rfl, b1⟩
      rw [HG.out.1]
      go_wp2_with fail
      refine (HSC.out _).mono ?_; rintro e w2 ⟨rfl, rfl⟩
      rw [HG.out.2]
      go_wp2_with fail
      go_ret2
      exact ⟨rfl, b1⟩
    · obtain ⟨hk, hs0⟩ := asked_split hg
      obtain ⟨A, rfl, hA⟩ := nat_of_good hs0
      obtain ⟨B, rfl, hB⟩ := nat_of_good hs
      have ha : askedC ks A B = true := by unfold askedC; rw [hk, hs0, hs]; rfl
      have e1 : cntV ks true A B = if totC ks true A B ≤ 1000000000000000 then totC ks true A B else 0 := by simp [cntV, ha]
      have e2 : cntB ks true A B = decide (totC ks true A B ≤ 1000000000000000) := by simp [cntB, ha]
      rw [e1, e2]; clear e1 e2 ha
      have HC := Lib.hid (fun w' (hr : Reads w' a (ints ks)) => goCount_any ks (good_mem hk) (good_len hk).2 A B hA hB true a c w' hr)
      have hgt := cum_gt ks true A B
      have heq := cum_eq ks true A B
      have HG := Lib.hid (And.intro hg hs); clear hg hs hk hs0
      have HR := Lib.hid h; clear h
      generalize totC ks true A B = T at *
      generalize cumT ks true A B 61 = C at *
      by_cases q : T ≤ 1000000000000000
      · have hc : C = T := heq q
        subst hc
        have q' : ¬ 1000000000000000 < C := by omega
        rw [if_pos q, decide_eq_true q]
        clear hgt heq q
        go_enter Try.func35, Try.ntmps35
        go_wp2_with fail
        refine HQ.out.mono ?_; rintro e w1 ⟨rfl, b1⟩
        rw [HG.out.1]
        have B1 := Lib.hid b1; clear b1
        go_wp2_with fail
        refine (HSC.out _).mono ?_; rintro e w2 ⟨rfl, rfl⟩
        rw [HG.out.2]
        go_wp2_with fail
        refine (HC.out _ (HR.out.old B1.out)).mono ?_; rintro e w3 ⟨rfl, b3⟩
        have B3 := Lib.hid (B1.out.trans (b3.mono B1.out.size)); clear b3
        go_wp2_with fail
        go_ret2
        exact ⟨rfl, B3.out⟩
      · have q' : 1000000000000000 < C := hgt.2 q
        rw [if_neg q, decide_eq_false q]
        clear hgt heq q
        go_enter Try.func35, Try.ntmps35
        go_wp2_with fail
        refine HQ.out.mono ?_; rintro e w1 ⟨rfl, b1⟩
        rw [HG.out.1]
        have B1 := Lib.hid b1; clear b1
        go_wp2_with fail
        refine (HSC.out _).mono ?_; rintro e w2 ⟨rfl, rfl⟩
        rw [HG.out.2]
        go_wp2_with fail
        refine (HC.out _ (HR.out.old B1.out)).mono ?_; rintro e w3 ⟨rfl, b3⟩
        have B3 := Lib.hid (B1.out.trans (b3.mono B1.out.size)); clear b3
        go_wp2_with fail
        go_ret2
        exact ⟨rfl, B3.out⟩

end Go.Proofs.Ytooaeafnneikkab
