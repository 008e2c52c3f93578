/-
  Goals: FewestGoals, CanReach: the model's and the program's.
-/
import Derived.Test.YthbhhcpkilckkaaGoTabM
namespace Go.Proofs.Ythbhhcpkilckkaa
open Go.RowKit
set_option linter.unusedVariables false
set_option linter.unusedSimpArgs false

def hasF (ks : List Int) (s : Int) : Bool := askedG ks s && decide (fewP ks s.toNat ≠ 1000)
def fewV (ks : List Int) (s : Int) : Int := if hasF ks s = true then fewP ks s.toNat else 0

theorem asked_nat {ks : List Int} {s : Int} (h : askedG ks s = true) : ∃ m : Nat, s = (m : Int) ∧ (m : Int) ≤ 200 ∧ (∀ x ∈ ks, 1 ≤ x ∧ x ≤ 20) := by
  obtain ⟨h1, h2⟩ := asked_split h
  obtain ⟨s1, s2⟩ := goodS_bd h2
  exact ⟨s.toNat, by omega, by omega, good_mem h1⟩
theorem TabAt.cells {ks : List Int} {w : World} {m : Nat} {v : Value} {w' : World} (h : TabAt ks w m v w') : ∃ g cap, v = .slice (some ⟨g, 0, none⟩) (m + 1) cap ∧ w.heap.size ≤ g ∧ g < w'.heap.size ∧ ∀ j, j ≤ m → w'.cell? ⟨g, j, none⟩ = some (.int .i64 (fewP ks j)) := by
  obtain ⟨g, cap, hv, h1, h2, hc⟩ := own_cells h.1 (by rw [tabP_len]; omega)
  rw [tabP_len] at hv hc
  exact ⟨g, cap, hv, h1, h2, fun j hj => by rw [hc j (by omega), tabP_get ks hj]; rfl⟩
theorem tabM_cells {ks : List Int} (hk : ∀ x ∈ ks, 1 ≤ x ∧ x ≤ 20) {m : Nat} (hm : (m : Int) < 999) {w : World} {g : Nat} {e : TypeId} (h : RowAt w g e (tabM ks m)) {j : Nat} (hj : j ≤ m) : w.cell? ⟨g, j, none⟩ = some (.int .i64 (asM (fewP ks j))) := by
  rw [h.cell (by rw [tabM_len]; omega), tabM_get ks hj, fewM_eq (fun x hx => (hk x hx).1) (by omega)]

set_option maxHeartbeats 1600000 in
theorem implFew_any (l : List Int) (s : Int) (a : Option Addr) (c : Nat) (w : World) (hl : (l.length : Int) ≤ 1000000000000) (h : Reads w a (ints l)) :
    Calls Try.prog 27 #[.slice a l.length c, .int .i64 s] w fun e w' => e = .returned (.tuple #[.int .i64 (fewV l s), .bool (hasF l s)]) ∧ Below w.heap.size w w' := by
  have HK := Lib.hid (areKS_any l s a c w hl h)
  cases hg : askedG l s
  · have e1 : hasF l s = false := by simp [hasF, hg]
    have e2 : fewV l s = 0 := by simp [fewV, e1]
    have HE := Lib.hid (And.intro e1 e2)
    have HG := Lib.hid hg; clear hg e1 e2 h
    go_enter Try.func27, Try.ntmps27
    go_wp2_with fail
    refine HK.out.mono ?_; rintro e w1 ⟨rfl, b1⟩
    rw [HG.out]
    go_wp2_with fail
    go_ret2
    exact ⟨by rw [HE.out.1, HE.out.2]; rfl, b1⟩
  · obtain ⟨m, rfl, hm, hk⟩ := asked_nat hg
    have HF := fun w' (hr : Reads w' a (ints l)) => fewestBy_any l hk m (by omega) a c w' hl hr
    have HFB := Lib.hid HF; clear HF
    obtain ⟨t0, t1⟩ := fewP_bd (fun x hx => (hk x hx).1) (s := m) (by omega)
    have e1 : hasF l (m : Int) = decide (fewP l m ≠ 1000) := by simp [hasF, hg]
    have e2 : fewV l (m : Int) = if fewP l m ≠ 1000 then fewP l m else 0 := by simp [fewV, e1]
    have HE := Lib.hid (And.intro e1 e2); clear e1 e2
    have HG := Lib.hid hg; clear hg
    have HR := Lib.hid h; clear h
    have b3 : (m : Int) < (m : Int) + 1 := by omega
    go_enter Try.func27, Try.ntmps27
    go_wp2_with fail
    refine HK.out.mono ?_; rintro e w1 ⟨rfl, b1⟩
    rw [HG.out]
    have B1 := Lib.hid b1; clear b1
    go_wp2_with fail
    refine (HFB.out _ (HR.out.old B1.out)).mono ?_; rintro e w2 ⟨v, rfl, ht⟩
    obtain ⟨g, cap, rfl, _, _, hc⟩ := ht.cells
    have c0 := hc m (Nat.le_refl _)
    have B2 := Lib.hid (B1.out.trans (ht.2.mono B1.out.size)); clear ht hc
    generalize fewP l m = t at *
    by_cases q : t = 1000
    · have q1 : (t == 1000) = true := by simp [q]
      have HQ := Lib.hid q; clear q
      go_wp2_with fail
      go_ret2
      exact ⟨by rw [HE.out.1, HE.out.2, HQ.out]; rfl, B2.out⟩
    · have q1 : (t == 1000) = false := by simp [q]
      have HQ := Lib.hid q; clear q
      go_wp2_with fail
      go_ret2
      exact ⟨by rw [HE.out.1, HE.out.2, decide_eq_true HQ.out, if_pos HQ.out]; rfl, B2.out⟩

set_option maxHeartbeats 1600000 in
theorem specFew_any (l : List Int) (s : Int) (a : Option Addr) (c : Nat) (w : World) (hl : (l.length : Int) ≤ 1000000000000) (h : Reads w a (ints l)) :
    Calls Try.prog 26 #[.slice a l.length c, .int .i64 s] w fun e w' => e = .returned (.tuple #[.int .i64 (fewV l s), .bool (hasF l s)]) ∧ Below w.heap.size w w' := by
  have HK := Lib.hid (goAsked_any l s a c w hl h)
  cases hg : askedG l s
  · have e1 : hasF l s = false := by simp [hasF, hg]
    have e2 : fewV l s = 0 := by simp [fewV, e1]
    have HE := Lib.hid (And.intro e1 e2)
    have HG := Lib.hid hg; clear hg e1 e2 h
    go_enter Try.func26, Try.ntmps26
    go_wp2_with fail
    refine HK.out.mono ?_; rintro e w1 ⟨rfl, b1⟩
    rw [HG.out]
    go_wp2_with fail
    go_ret2
    exact ⟨by rw [HE.out.1, HE.out.2]; rfl, b1⟩
  · obtain ⟨m, rfl, hm, hk⟩ := asked_nat hg
    have HF := fun w' (hr : Reads w' a (ints l)) => goFew_any l hk m (by omega) a c w' hl hr
    have HFB := Lib.hid HF; clear HF
    obtain ⟨t0, t1⟩ := fewP_bd (fun x hx => (hk x hx).1) (s := m) (by omega)
    have e1 : hasF l (m : Int) = decide (fewP l m ≠ 1000) := by simp [hasF, hg]
    have e2 : fewV l (m : Int) = if fewP l m ≠ 1000 then fewP l m else 0 := by simp [fewV, e1]
    have e3 : asM (fewP l m) = if fewP l m = 1000 then -1 else fewP l m := rfl
    have HE := Lib.hid (And.intro e1 (And.intro e2 e3)); clear e1 e2 e3
    have HG := Lib.hid hg; clear hg
    have HR := Lib.hid h; clear h
    have HKK := Lib.hid hk; clear hk
    have b3 : (m : Int) < (m : Int) + 1 := by omega
    go_enter Try.func26, Try.ntmps26
    go_wp2_with fail
    refine HK.out.mono ?_; rintro e w1 ⟨rfl, b1⟩
    rw [HG.out]
    have B1 := Lib.hid b1; clear b1
    go_wp2_with fail
    refine (HFB.out _ (HR.out.old B1.out)).mono ?_; rintro e w2 ⟨rfl, hrow, b2⟩
    have c0 := tabM_cells HKK.out (by omega) hrow (Nat.le_refl m)
    have B2 := Lib.hid (B1.out.trans (b2.mono B1.out.size)); clear b2 hrow
    rw [HE.out.2.2] at c0
    generalize fewP l m = t at *
    by_cases q : t = 1000
    · rw [if_pos q] at c0
      have HQ := Lib.hid q; clear q
      go_wp2_with fail
      go_ret2
      exact ⟨by rw [HE.out.1, HE.out.2.1, HQ.out]; rfl, B2.out⟩
    · rw [if_neg q] at c0
      have HQ := Lib.hid q; clear q
      go_wp2_with fail
      go_ret2
      exact ⟨by rw [HE.out.1, HE.out.2.1, decide_eq_true HQ.out, if_pos HQ.out]; rfl, B2.out⟩

set_option maxHeartbeats 1600000 in
theorem implCan_any (l : List Int) (s : Int) (a : Option Addr) (c : Nat) (w : World) (hl : (l.length : Int) ≤ 1000000000000) (h : Reads w a (ints l)) :
    Calls Try.prog 25 #[.slice a l.length c, .int .i64 s] w fun e w' => e = .returned (.tuple #[.bool (hasF l s), .bool (askedG l s)]) ∧ Below w.heap.size w w' := by
  have HF := Lib.hid (implFew_any l s a c w hl h)
  have HK := Lib.hid (fun w' (hr : Reads w' a (ints l)) => areKS_any l s a c w' hl hr)
  have HR := Lib.hid h; clear h
  go_enter Try.func25, Try.ntmps25
  go_wp2_with fail
  refine HF.out.mono ?_; rintro e w1 ⟨rfl, b1⟩
  have B1 := Lib.hid b1; clear b1
  go_wp2_with fail
  refine (HK.out _ (HR.out.old B1.out)).mono ?_; rintro e w2 ⟨rfl, b2⟩
  have B2 := Lib.hid (B1.out.trans (b2.mono B1.out.size)); clear b2
  go_wp2_with fail
  go_ret2
  exact ⟨rfl, B2.out⟩

set_option maxHeartbeats 1600000 in
theorem specCan_any (l : List Int) (s : Int) (a : Option Addr) (c : Nat) (w : World) (hl : (l.length : Int) ≤ 1000000000000) (h : Reads w a (ints l)) :
    Calls Try.prog 24 #[.slice a l.length c, .int .i64 s] w fun e w' => e = .returned (.tuple #[.bool (hasF l s), .bool (askedG l s)]) ∧ Below w.heap.size w w' := by
  have HK := Lib.hid (goAsked_any l s a c w hl h)
  cases hg : askedG l s
  · have e1 : hasF l s = false := by simp [hasF, hg]
    have HE := Lib.hid e1
    have HG := Lib.hid hg; clear hg e1 h
    go_enter Try.func24, Try.ntmps24
    go_wp2_with fail
    refine HK.out.mono ?_; rintro e w1 ⟨rfl, b1⟩
    rw [HG.out]
    go_wp2_with fail
    go_ret2
    exact ⟨by rw [HE.out]; rfl, b1⟩
  · obtain ⟨m, rfl, hm, hk⟩ := asked_nat hg
    have HF := fun w' (hr : Reads w' a (ints l)) => goFew_any l hk m (by omega) a c w' hl hr
    have HFB := Lib.hid HF; clear HF
    obtain ⟨t0, t1⟩ := fewP_bd (fun x hx => (hk x hx).1) (s := m) (by omega)
    have e1 : hasF l (m : Int) = decide (fewP l m ≠ 1000) := by simp [hasF, hg]
    have e3 : asM (fewP l m) = if fewP l m = 1000 then -1 else fewP l m := rfl
    have HE := Lib.hid (And.intro e1 e3); clear e1 e3
    have HG := Lib.hid hg; clear hg
    have HR := Lib.hid h; clear h
    have HKK := Lib.hid hk; clear hk
    have b3 : (m : Int) < (m : Int) + 1 := by omega
    go_enter Try.func24, Try.ntmps24
    go_wp2_with fail
    refine HK.out.mono ?_; rintro e w1 ⟨rfl, b1⟩
    rw [HG.out]
    have B1 := Lib.hid b1; clear b1
    go_wp2_with fail
    refine (HFB.out _ (HR.out.old B1.out)).mono ?_; rintro e w2 ⟨rfl, hrow, b2⟩
    have c0 := tabM_cells HKK.out (by omega) hrow (Nat.le_refl m)
    have B2 := Lib.hid (B1.out.trans (b2.mono B1.out.size)); clear b2 hrow
    rw [HE.out.2] at c0
    generalize fewP l m = t at *
    by_cases q : t = 1000
    · rw [if_pos q] at c0
      have HQ := Lib.hid q; clear q
      go_wp2_with fail
      go_ret2
      exact ⟨by rw [HE.out.1, HQ.out]; rfl, B2.out⟩
    · rw [if_neg q] at c0
      have HQ := Lib.hid q; clear q
      have q2 : decide (0 ≤ t) = true := decide_eq_true t0
      go_wp2_with fail
      go_ret2
      exact ⟨by rw [HE.out.1, decide_eq_true HQ.out]; rfl, B2.out⟩
end Go.Proofs.Ythbhhcpkilckkaa
