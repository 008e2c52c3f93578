/-
  Goals: CountGoalOrders: the model's.
-/
import Derived.Test.YtooaeafnneikkabGoOrd
import Derived.Test.YtooaeafnneikkabGoFew
import Derived.StillTailTactics
namespace Go.Proofs.Ytooaeafnneikkab
open Go.RowKit
set_option linter.unusedVariables false
set_option linter.unusedSimpArgs false

def leastI (a b : Int) : Int := if a < b then a else b
set_option maxHeartbeats 400000 in
theorem l1Least_calm (a b : Int) (w : World) : Calls Try.prog 59 #[.int .i64 a, .int .i64 b] w fun e w' => e = .returned (.int .i64 (leastI a b)) ∧ w' = w := by
  unfold leastI
  by_cases h : a < b
  · rw [if_pos h]
    go_enter Try.func59, Try.ntmps59
    go_wp2
    go_ret
    exact ⟨rfl, rfl⟩
  · rw [if_neg h]
    go_enter Try.func59, Try.ntmps59
    go_wp2
    go_ret
    exact ⟨rfl, rfl⟩

def OrdAt (ks : List Int) (w : World) (g m k : Nat) (wr : World) : Prop := RowAt wr g 3 (ordP ks k ++ List.replicate (m - k) 0) ∧ Below w.heap.size w wr
def OrdIn (ks : List Int) (w : World) (g m k : Nat) (o : Int) (wr : World) : Prop := RowAt wr g 3 (ordP ks k ++ o :: List.replicate (m - k - 1) 0) ∧ Below w.heap.size w wr

theorem OrdIn.put {ks : List Int} {w : World} {g m k : Nat} {o : Int} {wr : World} (hg : w.heap.size ≤ g) (h : OrdIn ks w g m k o wr) (x : Int) : OrdIn ks w g m k x (wr.setCell ⟨g, k + 1, none⟩ (.int .i64 x)) := by
  have hl := ordP_len ks k
  refine ⟨?_, h.2.setCell hg _⟩
  have := h.1.put (j := k + 1) (by simp [hl]) x
  rw [← hl, set_at] at this
  rw [← hl]; exact this
theorem OrdAt.begin {ks : List Int} {w : World} {g m k : Nat} {wr : World} (h : OrdAt ks w g m k wr) (hk : k < m) : OrdIn ks w g m k 0 wr := by
  refine ⟨?_, h.2⟩
  have := h.1
  rwa [show m - k = (m - k - 1) + 1 by omega, List.replicate_succ] at this
theorem OrdIn.end {ks : List Int} {w : World} {g m k : Nat} {o : Int} {wr : World} (h : OrdIn ks w g m k o wr) (he : o = (ordP ks (k + 1)).getD (k + 1) 0) : OrdAt ks w g m (k + 1) wr := by
  refine ⟨?_, h.2⟩
  have := h.1
  rw [ordP_last] at he
  rw [show ordP ks (k + 1) = ordP ks k ++ [o] by rw [he]; rfl, List.append_assoc, List.singleton_append, show m - (k + 1) = m - k - 1 by omega]
  exact this
theorem OrdIn.here {ks : List Int} {w : World} {g m k : Nat} {o : Int} {wr : World} (h : OrdIn ks w g m k o wr) : wr.cell? ⟨g, k + 1, none⟩ = some (.int .i64 o) := by
  have hl := ordP_len ks k
  have := h.1.cell (j := k + 1) (by simp [hl])
  rw [← hl] at this ⊢
  rw [snoc_get] at this
  exact this
theorem OrdIn.before {ks : List Int} {w : World} {g m k : Nat} {o : Int} {wr : World} (h : OrdIn ks w g m k o wr) {n : Nat} (hn : n ≤ k) : wr.cell? ⟨g, n, none⟩ = some (.int .i64 ((ordP ks k).getD n 0)) := by
  have hl := ordP_len ks k
  have := h.1.cell (j := n) (by simp [hl]; omega)
  rwa [pre_get _ _ (by omega)] at this
theorem OrdIn.draw {ks : List Int} {w : World} {g m k : Nat} {o : Int} {wr : World} (h : OrdIn ks w g m k o wr) : OrdIn ks w g m k o wr.drew := ⟨h.1, h.2.drew⟩

set_option maxRecDepth 8000 in
set_option maxHeartbeats 3200000 in
theorem specOrd_any (ks : List Int) (s : Int) (a : Option Addr) (c : Nat) (w : World) (hl : (ks.length : Int) ≤ 1000000000000) (h : Reads w a (ints ks)) :
    Calls Try.prog 30 #[.slice a ks.length c, .int .i64 s] w fun e w' => e = .returned (.tuple #[.int .i64 (ordV ks s), .bool (ordB ks s)]) ∧ Below w.heap.size w w' := by
  have HQ := Lib.hid (goAsked_any ks s a c w hl h)
  cases hg : askedG ks s
  · have e : ordV ks s = 0 := by simp [ordV, hg]
    have e2 : ordB ks s = false := by simp [ordB, hg]
    have HE := Lib.hid (And.intro e e2)
    have HG := Lib.hid hg; clear hg e e2 h
    go_enter Try.func30, Try.ntmps30
    go_wp2_with fail
    refine HQ.out.mono ?_; rintro e w1 ⟨rfl, b1⟩
    rw [HG.out]
    go_wp2_with fail
    go_ret2
    exact ⟨by rw [HE.out.1, HE.out.2]; rfl, b1⟩
  · obtain ⟨m, rfl, hm, hk⟩ := asked_nat hg
    have e : ordV ks (m : Int) = if ordN ks m ≤ 1000000000000000 then ordN ks m else 0 := by simp [ordV, hg]
    have e2 : ordB ks (m : Int) = decide (ordN ks m ≤ 1000000000000000) := by simp [ordB, hg]
    rw [e, e2]; clear e e2
    generalize hV : (if ordN ks m ≤ 1000000000000000 then ordN ks m else 0) = V
    generalize hVB : decide (ordN ks m ≤ 1000000000000000) = VB
    have HV := Lib.hid hV
    have HVB := Lib.hid hVB
    clear hV hVB
    have HG := Lib.hid hg; clear hg
    have HK := Lib.hid hk; clear hk
    have HR := Lib.hid h; clear h
    have HBD := Lib.hid (ordP_bd ks)
    obtain ⟨i0, hi, hz0, hz1, hz2⟩ := info_parts infoInt
    go_enter Try.func30, Try.ntmps30
    go_wp2_with fail
    refine HQ.out.mono ?_; rintro e w1 ⟨rfl, b1⟩
    rw [HG.out]
    have B1 := Lib.hid b1; clear b1
    go_wp2_with (at_make; refine wpList_make_full _ rfl _ _ _ rfl w1.heap.size _ i0 _ 1 Try.underlying45 hi hz0 hz1 .i64 .i64 _ _ (m + 1) rfl rfl rfl rfl ?_ ?_ (Nat.le_refl _) ?_)
    · rw [hz2]; omega
    · unfold maxLen; omega
    intro w2 hown hgrow
    have hr := (RowAt.made (e := 3) hown).1
    have hbel : Below w1.heap.size w1 w2 := (Below.refl _ _).grown hgrow (Nat.le_refl _) (fun k hk => by cases hk)
    have hr2 := hr.put (j := 0) (by simp) 1
    rw [List.replicate_succ, List.set_cons_zero] at hr2
    have c0 := hr.cell (j := 0) (by simp)
    have f0 := hr.free 0
    have H2 : Hid (OrdAt ks w w1.heap.size m 0 (w2.setCell ⟨w1.heap.size, 0, none⟩ (.int .i64 1))) :=
      ⟨hr2, (B1.out.trans (hbel.mono B1.out.size)).setCell (p := ⟨w1.heap.size, 0, none⟩) B1.out.size _⟩
    have HZ := Lib.hid B1.out.size
    clear hr hbel hr2 hown hgrow hi hz0 hz1 hz2
    have b0 : (0 : Int) < (m : Int) + 1 := by omega
    go_wp2_with fail
    clear c0 f0
    generalize w2.setCell ⟨w1.heap.size, 0, none⟩ (.int .i64 1) = W0 at *
    generalize w1.heap.size = g at *
    go_loopw [7] (fun s wr => ∃ k : Nat, s = .int .i64 ((k : Int) + 1) ∧ k ≤ m ∧ Hid (OrdAt ks w g m k wr)) (fun s _ => m + 1 - (intOf s).toNat)
    case atStart => exact ⟨0, rfl, Nat.zero_le _, H2⟩
    case round =>
      clear H2
      obtain ⟨k, rfl, hkm, hT⟩ := hrel
      by_cases hlt : k < m
      · have d1 : (k : Int) + 1 ≤ (m : Int) := by omega
        have d2 : (k : Int) + 1 < (m : Int) + 1 := by omega
        have HIN := Lib.hid (hT.out.begin hlt)
        go_wp2_with fail
        go_loopw [26] (fun i wr => ∃ (j : Nat) (o : Int), i = .int .i64 j ∧ j ≤ ks.length ∧ 0 ≤ o ∧ o ≤ capG ∧ Hid (OrdIn ks w g m k o wr) ∧ Hid ((ks.drop j).foldl (stepO (ordP ks k) ((k + 1 : Nat) : Int)) o = (ordP ks (k + 1)).getD (k + 1) 0)) (fun i _ => ks.length - (intOf i).toNat)
        case atStart => exact ⟨0, 0, rfl, Nat.zero_le _, by omega, by unfold capG; omega, HIN, Lib.hid (foldO_zero ks k)⟩
        case round =>
          clear HIN
          obtain ⟨j, o, rfl, hj, o0, o1, hI, HF⟩ := hrel
          by_cases hlt2 : j < ks.length
          · obtain ⟨b, off, rfl, _, hc⟩ := cells_of_reads (HR.out.old hI.out.2) (by omega)
            have c0 := hc j hlt2
            obtain ⟨x1, x2⟩ := HK.out (ks.getD j 0) (by simp [hlt2])
            have hfd := foldl_drop (stepO (ordP ks k) ((k + 1 : Nat) : Int)) hlt2 o
            rw [HF.out] at hfd
            have hsb := stepO_bd (ordP ks k) ((k + 1 : Nat) : Int) o (ks.getD j 0) (HBD.out k) ⟨o0, o1⟩
            have HFD := Lib.hid (And.intro hfd hsb); clear hfd hsb hc HF
            have b3 : (j : Int) < (ks.length : Int) := by omega
            generalize ks.getD j 0 = x at *
            by_cases q : x ≤ (k : Int) + 1
            · obtain ⟨n, hn⟩ : ∃ n : Nat, (k : Int) + 1 - x = (n : Int) := ⟨((k : Int) + 1 - x).toNat, by omega⟩
              have hnk : n ≤ k := by omega
              have c1 := hI.out.before hnk
              have c2 := hI.out.here
              have b4 : (n : Int) < (m : Int) + 1 := by omega
              have ht := HBD.out k n
              have hst : stepO (ordP ks k) ((k + 1 : Nat) : Int) o x = leastI (o + (ordP ks k).getD n 0) 1000000000000001 := by
                unfold stepO leastI capG
                rw [show (((k + 1 : Nat) : Int) - x).toNat = n by omega, if_pos (by omega)]
              generalize (ordP ks k).getD n 0 = t at *
              unfold capG at ht o1
              have wn : IntKind.i64.wrap (n : Int) = (n : Int) := IntWalk.i64_in _ (by omega)
              have wt : IntKind.i64.wrap (o + t) = o + t := IntWalk.i64_in _ (by omega)
              have HC := Lib.hid (fun W => l1Least_calm (o + t) 1000000000000001 W)
              rw [← hst] at HC
              have HP := Lib.hid (hI.out.draw.put HZ.out (stepO (ordP ks k) ((k + 1 : Nat) : Int) o x))
              have fr := hI.out.1.free (k + 1)
              have d0 : (0 : Int) ≤ (k : Int) + 1 := by omega
              clear hst ht
              generalize stepO (ordP ks k) ((k + 1 : Nat) : Int) o x = y at *
              go_wp2_with fail
              go_still_tail 15, (by kernel_rfl)
              still_call (HC.out _)
              repeat still_step
              refine wpStill_nil ?_
              go_wp2_with fail
              go_roundw
              case rel => exact ⟨j + 1, y, by go_num, by omega, HFD.out.2.1, HFD.out.2.2, HP, Lib.hid HFD.out.1.symm⟩
              case measure => simp [intOf]; omega
            · have hs : stepO (ordP ks k) ((k + 1 : Nat) : Int) o x = o := by unfold stepO; rw [if_neg (by omega)]
              rw [hs] at HFD
              have q' : ¬ x ≤ (k : Int) + 1 := q
              have d3 : decide (x ≤ (k : Int) + 1) = false := decide_eq_false q
              clear q
              go_wp2_with fail
              go_roundw
              case rel => exact ⟨j + 1, o, by go_num, by omega, by omega, by omega, hI, Lib.hid HFD.out.1.symm⟩
              case measure => simp [intOf]; omega
          · obtain rfl : j = ks.length := by omega
            have hfin : o = (ordP ks (k + 1)).getD (k + 1) 0 := by rw [← HF.out, List.drop_length]; rfl
            have HE := Lib.hid (hI.out.end hfin); clear hfin HF hI
            go_wp2_with fail
            go_roundw
            case rel => exact ⟨k + 1, by go_num, by omega, HE⟩
            case measure => simp [intOf]; omega
      · obtain rfl : k = m := by omega
        have d1 : ¬ (k : Int) + 1 ≤ (k : Int) := by omega
        have hr := hT.out.1
        have d2 : (k : Int) < (k : Int) + 1 := by omega
        have c0 := hr.cell (j := k) (by simp [ordP_len])
        rw [pre_get _ _ (by rw [ordP_len]; omega)] at c0
        have hb := HBD.out k k
        have HB := Lib.hid hT.out.2
        have ho : ordN ks k = (ordP ks k).getD k 0 := rfl
        rw [ho] at HV HVB
        clear hr ho
        generalize (ordP ks k).getD k 0 = t at *
        unfold capG at hb
        by_cases q : t ≤ 1000000000000000
        · have q' : ¬ 1000000000000000 < t := by omega
          have e1 := HV.out; have e2 := HVB.out
          rw [if_pos q] at e1; rw [decide_eq_true q] at e2
          subst e1 e2
          clear q
          go_wp2_with fail
          go_ret2
          exact ⟨rfl, HB.out⟩
        · have q' : 1000000000000000 < t := by omega
          have e1 := HV.out; have e2 := HVB.out
          rw [if_neg q] at e1; rw [decide_eq_false q] at e2
          subst e1 e2
          clear q
          go_wp2_with fail
          go_ret2
          exact ⟨rfl, HB.out⟩
end Go.Proofs.Ytooaeafnneikkab
