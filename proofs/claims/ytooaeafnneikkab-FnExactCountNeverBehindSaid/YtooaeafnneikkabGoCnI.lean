/-
  Goals: CountGames, CountNeverBehind: the program's.
-/
import Derived.Test.YtooaeafnneikkabGoCnV
import Derived.Test.YtooaeafnneikkabGoOn
import Derived.Deep.CutRange
namespace Go.Proofs.Ytooaeafnneikkab
open Go.RowKit
set_option linter.unusedVariables false
set_option linter.unusedSimpArgs false

theorem first_least {ks : List Int} (h : goodK ks = true) : ∀ p ∈ ks, ks.getD 0 0 ≤ p := by
  cases ks with
  | nil => intro p hp; cases hp
  | cons m r =>
    intro p hp
    simp only [goodK, Bool.and_eq_true] at h
    have h2 := h.2
    simp only [risesB, Bool.and_eq_true] at h2
    rcases List.mem_cons.1 hp with rfl | hp
    · exact Int.le_refl _
    · have := rises_mem h2.2 p hp
      show m ≤ p
      omega
theorem cntT_goal (ks : List Int) (nv : Bool) (k : Nat) : goalT ks nv (cntT ks nv k) = cntT ks nv (k + 1) := rfl
/-- So many goals are enough. -/
theorem sum_enough {ks : List Int} (h : goodK ks = true) (nv : Bool) {A B m : Nat} (hm : ks.getD 0 0 = (m : Int)) : sumT ks nv A B 60 = sumT ks nv A B (min 60 ((A + B) / m)) := by
  have hl := good_len h
  have hm1 : 1 ≤ m := by have := (good_get h 0 (by omega)).1; omega
  by_cases q : (A + B) / m ≤ 60
  · rw [Nat.min_eq_right q]
    refine sumT_end (m := (m : Int)) (fun p hp => by rw [← hm]; exact first_least h p hp) nv (by omega) (by omega) q ?_ (by omega)
    have h2 : (A + B) < m * ((A + B) / m + 1) := by
      have h3 := Nat.div_add_mod (A + B) m
      have h4 := Nat.mod_lt (A + B) (show m > 0 by omega)
      rw [Nat.mul_add, Nat.mul_one]; omega
    have h5 : ((A + B : Nat) : Int) < ((m * ((A + B) / m + 1) : Nat) : Int) := by exact_mod_cast h2
    push_cast at h5 ⊢
    exact h5
  · rw [Nat.min_eq_left (by omega)]


set_option maxRecDepth 8000 in
set_option maxHeartbeats 6400000 in
theorem countG_any (ks : List Int) (x0 x1 : Int) (a : Option Addr) (c : Nat) (w : World) (hl : (ks.length : Int) ≤ 1000000000000) (h : Reads w a (ints ks)) :
    Calls Try.prog 67 #[.slice a ks.length c, .agg #[.int .i64 x0, .int .i64 x1], .func (.func 68) #[] #[]] w fun e w' => e = .returned (.tuple #[.int .i64 (cntV ks false x0 x1), .bool (cntB ks false x0 x1)]) ∧ Below w.heap.size w w' := by
  obtain ⟨r0, r1⟩ := two_new w (.int .i64 x0) (.int .i64 x1) 86
  have HB0 := Lib.hid (below_new w (.cells #[.int .i64 x0, .int .i64 x1] 86))
  have hgb : w.heap.size < (w.alloc (.cells #[.int .i64 x0, .int .i64 x1] 86)).heap.size := by simp
  have HK := Lib.hid (fun w' (hr : Reads w' a (ints ks)) => implAreKinds_any ks a c w' hl hr)
  have HSC := Lib.hid (fun x W => isScore_any x W)
  have HR := Lib.hid h; clear h
  generalize hw0 : w.alloc (.cells #[.int .i64 x0, .int .i64 x1] 86) = W0 at *
  by_cases ha : askedC ks x0 x1 = true
  · have hk : goodK ks = true := by unfold askedC at ha; simp at ha; exact ha.1.1
    have hs0 : goodS x0 = true := by unfold askedC at ha; simp at ha; exact ha.1.2
    have hs1 : goodS x1 = true := by unfold askedC at ha; simp at ha; exact ha.2
    obtain ⟨A, rfl, hA⟩ := nat_of_good hs0
    obtain ⟨B, rfl, hB⟩ := nat_of_good hs1
    have e1 : cntV ks false A B = if totC ks false A B ≤ 1000000000000000 then totC ks false A B else 0 := by simp [cntV, ha]
    have e2 : cntB ks false A B = decide (totC ks false A B ≤ 1000000000000000) := by simp [cntB, ha]
    rw [e1, e2]; clear e1 e2
    generalize hV : (if totC ks false A B ≤ 1000000000000000 then totC ks false A B else 0) = V
    generalize hVB : decide (totC ks false A B ≤ 1000000000000000) = VB
    have HV := Lib.hid (And.intro hV hVB); clear hV hVB
    have hl15 := good_len hk
    have hm20 := good_get hk 0 (by omega)
    obtain ⟨m, hm⟩ : ∃ m : Nat, ks.getD 0 0 = (m : Int) := ⟨(ks.getD 0 0).toNat, by omega⟩
    have hen : totC ks false A B = sumT ks false A B (min 60 ((A + B) / m)) := sum_enough hk false hm
    have HEN := Lib.hid hen; clear hen
    rw [hm] at hm20
    have HM0 := Lib.hid hm; clear hm
    have HNT := Lib.hid (fun w' => newTally_any A B hA hB w')
    have HON := Lib.hid (fun k gh bk w' (ht : TalF w' gh bk A (B + 1) (cntT ks false k)) (hr : Reads w' a (ints ks)) => goalOnG_any ks (good_mem hk) hl15.2 (cntT ks false k) (cntT_bd ks false k) gh bk A B hA hB a c w' ht hr)
    have HG := Lib.hid (And.intro hk (And.intro hs0 hs1)); clear hk hs0 hs1 ha
    go_enter Try.func67, Try.ntmps67
    go_upto_region 1 with fail
    try rw [hw0]
    clear hw0
    generalize hgbe : w.heap.size = gb at r0 r1 hgb ⊢
    have HGB := Lib.hid hgbe; clear hgbe
    go_wp2_with fail
    refine (HK.out _ (HR.out.old HB0.out)).mono ?_; rintro e w1 ⟨rfl, b1⟩
    rw [HG.out.1]
    have c0 := (b1.cell (p := ⟨gb, 0, none⟩) hgb).trans r0
    have c1 := (b1.cell (p := ⟨gb, 1, none⟩) hgb).trans r1
    have B1 := Lib.hid b1; clear b1
    go_wp2_with fail
    refine (HSC.out _ _).mono ?_; rintro e w2 ⟨rfl, rfl⟩
    rw [HG.out.2.1]
    go_wp2_with fail
    refine (HSC.out _ _).mono ?_; rintro e w2 ⟨rfl, rfl⟩
    rw [HG.out.2.2]
    go_wp2_with fail
    refine (HNT.out _).mono ?_; rintro e w3 ⟨gh, bk, rfl, t3, o3, b3⟩
    have ct := t3.head (a := 0) (by omega)
    have cz := t3.cell (a := 0) (b := 0) (by omega) (by omega)
    have fz := (t3.rows 0 (by omega)).free 0
    have b03 : Below W0.heap.size W0 w3 := B1.out.trans (b3.mono B1.out.size)
    have H4 : Hid (TalF (w3.setCell ⟨bk 0, 0, none⟩ (.int .i64 1)) gh bk A (B + 1) (cntT ks false 0) ∧ Below W0.heap.size W0 (w3.setCell ⟨bk 0, 0, none⟩ (.int .i64 1))) :=
      ⟨t3.put o3 (x := 0) (y := 0) (by omega) (by omega) (v := 1) (fun a b _ _ => by
        show (if (a : Int) = 0 ∧ (b : Int) = 0 then (1 : Int) else 0) = _
        by_cases q : a = 0 ∧ b = 0
        · rw [if_pos q, if_pos (by omega)]
        · rw [if_neg q, if_neg (by omega)]), b03.setCell (p := ⟨bk 0, 0, none⟩) (by have := o3.lo 0 (by omega); have := B1.out.size; show W0.heap.size ≤ bk 0; omega) _⟩
    have dA : (0 : Int) < (A : Int) + 1 := by omega
    have dB : (0 : Int) < (B : Int) + 1 := by omega
    clear t3 o3 b3 b03 c0 c1
    go_upto_region 5 with fail
    clear ct cz fz
    generalize w3.setCell ⟨bk 0, 0, none⟩ (.int .i64 1) = W4 at *
    have c0 := (H4.out.2.cell (p := ⟨gb, 0, none⟩) hgb).trans r0
    have c1 := (H4.out.2.cell (p := ⟨gb, 1, none⟩) hgb).trans r1
    have ca := H4.out.1.head (a := A) (Nat.le_refl _)
    have cb := H4.out.1.cell (a := A) (b := B) (Nat.le_refl _) (by omega)
    have dA2 : (A : Int) < (A : Int) + 1 := by omega
    have dB2 : (B : Int) < (B : Int) + 1 := by omega
    go_wp2_with fail
    go_quiet (fail)
    go_wp2_with fail
    clear ca cb
    obtain ⟨S, hS⟩ : ∃ S : Nat, (A : Int) + (B : Int) = (S : Int) := ⟨A + B, by push_cast; rfl⟩
    have hSn : A + B = S := by omega
    have wS : IntKind.i64.wrap (S : Int) = (S : Int) := IntWalk.i64_in _ (by omega)
    have hdiv : wrap64 ((S : Int) / (m : Int)) = ((S / m : Nat) : Int) := by
      have h3 : ∀ d : Nat, d ≤ S → wrap64 (d : Int) = d := fun d hd => by unfold wrap64; omega
      have h2 : (S : Int) / (m : Int) = ((S / m : Nat) : Int) := (Int.natCast_ediv S m).symm
      rw [h2]; exact h3 _ (Nat.div_le_self _ _)
    have hmin : (min 60 ((S / m : Nat) : Int) : Int) = ((min 60 (S / m) : Nat) : Int) := by omega
    have hmin2 : (if ((S / m : Nat) : Int) < 60 then ((S / m : Nat) : Int) else 60) = ((min 60 (S / m) : Nat) : Int) := by split <;> omega
    have HDM := Lib.hid (And.intro hdiv (And.intro hmin hmin2)); clear hdiv hmin hmin2
    rw [hSn] at HEN
    have hN60 : min 60 (S / m) ≤ 60 := Nat.min_le_left _ _
    obtain ⟨b, off, rfl, _, hcs⟩ := cells_of_reads (HR.out.old (HB0.out.trans (H4.out.2.mono HB0.out.size))) (by omega)
    have c2 := hcs 0 (by omega)
    rw [HM0.out] at c2
    rw [Nat.add_zero] at c2
    clear hcs
    generalize ks.length = nk at *
    have hl0 : (0 : Int) < (nk : Int) := by omega
    have hl0n : 0 < nk := by omega
    have hm0 : ((m : Int) == 0) = false := by rw [beq_eq_false_iff_ne]; omega
    have hm0' : ¬ (m : Int) = 0 := by omega
    have H6 : Hid (∀ p q, TalF ((W4.drewN p).drewN q) gh bk A (B + 1) (cntT ks false 0) ∧ Below W0.heap.size W0 ((W4.drewN p).drewN q)) := fun p q => ⟨⟨H4.out.1.hd, H4.out.1.rows⟩, below_drewN (below_drewN H4.out.2 p) q⟩
    clear H4
    go_quiet (fail)
    first | rw [HDM.out.1, HDM.out.2.1] | rw [HDM.out.1, HDM.out.2.2]
    clear HDM c0 c1 c2 hm0 hm0' hSn
    generalize min 60 (S / m) = N at *
    go_wp2_with fail
    have hs00 : sumT ks false A B 0 ≤ 1000000000000000 := by
      show (if (A : Int) = 0 ∧ (B : Int) = 0 then (1 : Int) else 0) ≤ _
      split <;> omega
    go_loopw [8, 9, 50] (fun t8 g9 i wr => ∃ (r gh : Nat) (bk : Nat → Nat), t8 = .slice (some ⟨gh, 0, none⟩) (A + 1) (A + 1) ∧ g9 = .int .i64 (sumT ks false A B r) ∧ i = .int .i64 r ∧ r ≤ N ∧ sumT ks false A B r ≤ 1000000000000000 ∧ Hid (TalF wr gh bk A (B + 1) (cntT ks false r) ∧ Below W0.heap.size W0 wr)) (fun _ _ i _ => N - (intOf i).toNat)
    case atStart => exact ⟨0, gh, bk, rfl, rfl, rfl, Nat.zero_le _, hs00, Lib.hid (H6.out _ _)⟩
    case round =>
      clear H6 hs00
      obtain ⟨r, gh, bk, rfl, rfl, rfl, hrN, hsr, hT⟩ := hrel
      have c0 := (hT.out.2.cell (p := ⟨gb, 0, none⟩) hgb).trans r0
      have c1 := (hT.out.2.cell (p := ⟨gb, 1, none⟩) hgb).trans r1
      by_cases hlt : r < N
      · have d1 : (r : Int) < (N : Int) := by omega
        have HC := Lib.hid (HON.out r gh bk wr hT.out.1 (HR.out.old (HB0.out.trans (hT.out.2.mono HB0.out.size))))
        have hbd := cntT_bd ks false (r + 1) A B
        have hsn := sumT_nonneg ks false A B r
        have hnx : sumT ks false A B r + cntT ks false (r + 1) A B = sumT ks false A B (r + 1) := rfl
        have hmo := sumT_mono ks false A B (show r + 1 ≤ 60 by omega)
        have HMO := Lib.hid hmo
        unfold capG at hbd
        have HNX := Lib.hid hnx; clear hnx hmo
        generalize sumT ks false A B r = sr at *
        go_wp2_with fail
        refine HC.out.mono ?_; rintro e w5 ⟨gh5, bk5, rfl, t5, o5, b5⟩
        rw [cntT_goal] at t5
        have b05 := hT.out.2.trans (b5.mono hT.out.2.size)
        have H8 := Lib.hid (fun q => And.intro (show TalF (w5.drewN q) gh5 bk5 A (B + 1) (cntT ks false (r + 1)) from ⟨t5.hd, t5.rows⟩) (below_drewN b05 q))
        clear c0 c1
        have c0 := (b05.cell (p := ⟨gb, 0, none⟩) hgb).trans r0
        have c1 := (b05.cell (p := ⟨gb, 1, none⟩) hgb).trans r1
        have ca := t5.head (a := A) (Nat.le_refl _)
        have cb := t5.cell (a := A) (b := B) (Nat.le_refl _) (by omega)
        clear t5 o5 b5 b05 HC hT
        generalize cntT ks false (r + 1) A B = cr at *
        have ws : IntKind.i64.wrap (sr + cr) = sr + cr := IntWalk.i64_in _ (by omega)
        go_wp2_with fail
        go_quiet (fail)
        clear c0 c1 ca cb
        by_cases q : 1000000000000000 < sr + cr
        · have e1 := HV.out.1
          have e2 := HV.out.2
          have h60 : ¬ totC ks false A B ≤ 1000000000000000 := by
            have h1 := HMO.out
            rw [← HNX.out] at h1
            unfold totC; omega
          rw [if_neg h60] at e1
          rw [decide_eq_false h60] at e2
          subst e1 e2
          have HBB := Lib.hid (HB0.out.trans ((H8.out nq).2.mono HB0.out.size))
          clear h60
          go_wp2_with fail
          go_ret2
          exact ⟨rfl, HBB.out⟩
        · have hle : sumT ks false A B (r + 1) ≤ 1000000000000000 := by rw [← HNX.out]; omega
          have HLE := Lib.hid hle; clear hle
          have H9 := Lib.hid (H8.out nq); clear H8
          go_wp2_with fail
          go_roundw
          case rel => exact ⟨_, _, .slice (some ⟨gh5, 0, none⟩) (A + 1) (A + 1), .int .i64 (sr + cr), .int .i64 ((r : Int) + 1), ⟨r + 1, gh5, rfl, by rw [HNX.out], by go_num, by omega, HLE.out, bk5, H9⟩, rfl, rfl, rfl, rfl, rfl⟩
          case measure => simp [intOf]; omega
      · obtain rfl : r = N := by omega
        have e1 := HV.out.1
        have e2 := HV.out.2
        rw [HEN.out, if_pos hsr] at e1
        rw [HEN.out, decide_eq_true hsr] at e2
        have HE := Lib.hid (And.intro e1 e2)
        have HBB := Lib.hid (HB0.out.trans (hT.out.2.mono HB0.out.size))
        clear e1 e2
        go_wp2_with fail
        go_ret2
        exact ⟨by rw [← HE.out.1, ← HE.out.2]; rfl, HBB.out⟩
  · have ha' : askedC ks x0 x1 = false := by simpa using ha
    have e1 : cntV ks false x0 x1 = 0 := by simp [cntV, ha']
    have e2 : cntB ks false x0 x1 = false := by simp [cntB, ha']
    rw [e1, e2]; clear e1 e2 ha
    cases hk : goodK ks
    · have HG := Lib.hid hk; clear hk ha'
      go_enter Try.func67, Try.ntmps67
      go_upto_region 1 with fail
      try rw [hw0]
      clear hw0
      go_wp2_with fail
      refine (HK.out _ (HR.out.old HB0.out)).mono ?_; rintro e w1 ⟨rfl, b1⟩
      rw [HG.out]
      have B1 := Lib.hid (HB0.out.trans (b1.mono HB0.out.size)); clear b1
      go_wp2_with fail
      go_ret2
      exact ⟨rfl, B1.out⟩
    · cases hs : goodS x0
      · have HG := Lib.hid (And.intro hk hs); clear hk ha' hs
        go_enter Try.func67, Try.ntmps67
        go_upto_region 1 with fail
        try rw [hw0]
        clear hw0
        generalize hgbe : w.heap.size = gb at r0 r1 hgb ⊢
        have HGB := Lib.hid hgbe; clear hgbe
        go_wp2_with fail
        refine (HK.out _ (HR.out.old HB0.out)).mono ?_; rintro e w1 ⟨rfl, b1⟩
        rw [HG.out.1]
        have c0 := (b1.cell (p := ⟨gb, 0, none⟩) hgb).trans r0
        have B1 := Lib.hid (HB0.out.trans (b1.mono HB0.out.size)); clear b1
        go_wp2_with fail
        refine (HSC.out _ _).mono ?_; rintro e w2 ⟨rfl, rfl⟩
        rw [HG.out.2]
        go_wp2_with fail
        go_ret2
        exact ⟨rfl, B1.out⟩
      · have hs1 : goodS x1 = false := by
          unfold askedC at ha'
          rw [hk, hs] at ha'
          simpa using ha'
        have HG := Lib.hid (And.intro hk (And.intro hs hs1)); clear hk ha' hs hs1
        go_enter Try.func67, Try.ntmps67
        go_upto_region 1 with fail
        try rw [hw0]
        clear hw0
        generalize hgbe : w.heap.size = gb at r0 r1 hgb ⊢
        have HGB := Lib.hid hgbe; clear hgbe
        go_wp2_with fail
        refine (HK.out _ (HR.out.old HB0.out)).mono ?_; rintro e w1 ⟨rfl, b1⟩
        rw [HG.out.1]
        have c0 := (b1.cell (p := ⟨gb, 0, none⟩) hgb).trans r0
        have c1 := (b1.cell (p := ⟨gb, 1, none⟩) hgb).trans r1
        have B1 := Lib.hid (HB0.out.trans (b1.mono HB0.out.size)); clear b1
        go_wp2_with fail
        refine (HSC.out _ _).mono ?_; rintro e w2 ⟨rfl, rfl⟩
        rw [HG.out.2.1]
        go_wp2_with fail
        refine (HSC.out _ _).mono ?_; rintro e w2 ⟨rfl, rfl⟩
        rw [HG.out.2.2]
        go_wp2_with fail
        go_ret2
        exact ⟨rfl, B1.out⟩

set_option maxHeartbeats 800000 in
theorem implCountGames_any (ks : List Int) (x0 x1 : Int) (a : Option Addr) (c : Nat) (w : World) (hl : (ks.length : Int) ≤ 1000000000000) (h : Reads w a (ints ks)) :
    Calls Try.prog 34 #[.slice a ks.length c, .int .i64 x0, .int .i64 x1] w fun e w' => e = .returned (.tuple #[.int .i64 (cntV ks false x0 x1), .bool (cntB ks false x0 x1)]) ∧ Below w.heap.size w w' := by
  have HC := Lib.hid (countG_any ks x0 x1 a c w hl h); clear h
  generalize cntV ks false x0 x1 = V at *
  generalize cntB ks false x0 x1 = VB at *
  go_enter Try.func34, Try.ntmps34
  go_wp2_with fail
  refine HC.out.mono ?_; rintro e w1 ⟨rfl, b1⟩
  go_wp2_with fail
  go_ret2
  exact ⟨rfl, b1⟩

set_option maxRecDepth 8000 in
set_option maxHeartbeats 6400000 in
theorem countN_any (ks : List Int) (x0 x1 : Int) (a : Option Addr) (c : Nat) (w : World) (hl : (ks.length : Int) ≤ 1000000000000) (h : Reads w a (ints ks)) :
    Calls Try.prog 67 #[.slice a ks.length c, .agg #[.int .i64 x0, .int .i64 x1], .func (.func 69) #[] #[]] w fun e w' => e = .returned (.tuple #[.int .i64 (cntV ks true x0 x1), .bool (cntB ks true x0 x1)]) ∧ Below w.heap.size w w' := by
  obtain ⟨r0, r1⟩ := two_new w (.int .i64 x0) (.int .i64 x1) 86
  have HB0 := Lib.hid (below_new w (.cells #[.int .i64 x0, .int .i64 x1] 86))
  have hgb : w.heap.size < (w.alloc (.cells #[.int .i64 x0, .int .i64 x1] 86)).heap.size := by simp
  have HK := Lib.hid (fun w' (hr : Reads w' a (ints ks)) => implAreKinds_any ks a c w' hl hr)
  have HSC := Lib.hid (fun x W => isScore_any x W)
  have HR := Lib.hid h; clear h
  generalize hw0 : w.alloc (.cells #[.int .i64 x0, .int .i64 x1] 86) = W0 at *
  by_cases ha : askedC ks x0 x1 = true
  · have hk : goodK ks = true := by unfold askedC at ha; simp at ha; exact ha.1.1
    have hs0 : goodS x0 = true := by unfold askedC at ha; simp at ha; exact ha.1.2
    have hs1 : goodS x1 = true := by unfold askedC at ha; simp at ha; exact ha.2
    obtain ⟨A, rfl, hA⟩ := nat_of_good hs0
    obtain ⟨B, rfl, hB⟩ := nat_of_good hs1
    have e1 : cntV ks true A B = if totC ks true A B ≤ 1000000000000000 then totC ks true A B else 0 := by simp [cntV, ha]
    have e2 : cntB ks true A B = decide (totC ks true A B ≤ 1000000000000000) := by simp [cntB, ha]
    rw [e1, e2]; clear e1 e2
    generalize hV : (if totC ks true A B ≤ 1000000000000000 then totC ks true A B else 0) = V
    generalize hVB : decide (totC ks true A B ≤ 1000000000000000) = VB
    have HV := Lib.hid (And.intro hV hVB); clear hV hVB
    have hl15 := good_len hk
    have hm20 := good_get hk 0 (by omega)
    obtain ⟨m, hm⟩ : ∃ m : Nat, ks.getD 0 0 = (m : Int) := ⟨(ks.getD 0 0).toNat, by omega⟩
    have hen : totC ks true A B = sumT ks true A B (min 60 ((A + B) / m)) := sum_enough hk true hm
    have HEN := Lib.hid hen; clear hen
    rw [hm] at hm20
    have HM0 := Lib.hid hm; clear hm
    have HNT := Lib.hid (fun w' => newTally_any A B hA hB w')
    have HON := Lib.hid (fun k gh bk w' (ht : TalF w' gh bk A (B + 1) (cntT ks true k)) (hr : Reads w' a (ints ks)) => goalOnN_any ks (good_mem hk) hl15.2 (cntT ks true k) (cntT_bd ks true k) gh bk A B hA hB a c w' ht hr)
    have HG := Lib.hid (And.intro hk (And.intro hs0 hs1)); clear hk hs0 hs1 ha
    go_enter Try.func67, Try.ntmps67
    go_upto_region 1 with fail
    try rw [hw0]
    clear hw0
    generalize hgbe : w.heap.size = gb at r0 r1 hgb ⊢
    have HGB := Lib.hid hgbe; clear hgbe
    go_wp2_with fail
    refine (HK.out _ (HR.out.old HB0.out)).mono ?_; rintro e w1 ⟨rfl, b1⟩
    rw [HG.out.1]
    have c0 := (b1.cell (p := ⟨gb, 0, none⟩) hgb).trans r0
    have c1 := (b1.cell (p := ⟨gb, 1, none⟩) hgb).trans r1
    have B1 := Lib.hid b1; clear b1
    go_wp2_with fail
    refine (HSC.out _ _).mono ?_; rintro e w2 ⟨rfl, rfl⟩
    rw [HG.out.2.1]
    go_wp2_with fail
    refine (HSC.out _ _).mono ?_; rintro e w2 ⟨rfl, rfl⟩
    rw [HG.out.2.2]
    go_wp2_with fail
    refine (HNT.out _).mono ?_; rintro e w3 ⟨gh, bk, rfl, t3, o3, b3⟩
    have ct := t3.head (a := 0) (by omega)
    have cz := t3.cell (a := 0) (b := 0) (by omega) (by omega)
    have fz := (t3.rows 0 (by omega)).free 0
    have b03 : Below W0.heap.size W0 w3 := B1.out.trans (b3.mono B1.out.size)
    have H4 : Hid (TalF (w3.setCell ⟨bk 0, 0, none⟩ (.int .i64 1)) gh bk A (B + 1) (cntT ks true 0) ∧ Below W0.heap.size W0 (w3.setCell ⟨bk 0, 0, none⟩ (.int .i64 1))) :=
      ⟨t3.put o3 (x := 0) (y := 0) (by omega) (by omega) (v := 1) (fun a b _ _ => by
        show (if (a : Int) = 0 ∧ (b : Int) = 0 then (1 : Int) else 0) = _
        by_cases q : a = 0 ∧ b = 0
        · rw [if_pos q, if_pos (by omega)]
        · rw [if_neg q, if_neg (by omega)]), b03.setCell (p := ⟨bk 0, 0, none⟩) (by have := o3.lo 0 (by omega); have := B1.out.size; show W0.heap.size ≤ bk 0; omega) _⟩
    have dA : (0 : Int) < (A : Int) + 1 := by omega
    have dB : (0 : Int) < (B : Int) + 1 := by omega
    clear t3 o3 b3 b03 c0 c1
    go_upto_region 5 with fail
    clear ct cz fz
    generalize w3.setCell ⟨bk 0, 0, none⟩ (.int .i64 1) = W4 at *
    have c0 := (H4.out.2.cell (p := ⟨gb, 0, none⟩) hgb).trans r0
    have c1 := (H4.out.2.cell (p := ⟨gb, 1, none⟩) hgb).trans r1
    have ca := H4.out.1.head (a := A) (Nat.le_refl _)
    have cb := H4.out.1.cell (a := A) (b := B) (Nat.le_refl _) (by omega)
    have dA2 : (A : Int) < (A : Int) + 1 := by omega
    have dB2 : (B : Int) < (B : Int) + 1 := by omega
    go_wp2_with fail
    go_quiet (fail)
    go_wp2_with fail
    clear ca cb
    obtain ⟨S, hS⟩ : ∃ S : Nat, (A : Int) + (B : Int) = (S : Int) := ⟨A + B, by push_cast; rfl⟩
    have hSn : A + B = S := by omega
    have wS : IntKind.i64.wrap (S : Int) = (S : Int) := IntWalk.i64_in _ (by omega)
    have hdiv : wrap64 ((S : Int) / (m : Int)) = ((S / m : Nat) : Int) := by
      have h3 : ∀ d : Nat, d ≤ S → wrap64 (d : Int) = d := fun d hd => by unfold wrap64; omega
      have h2 : (S : Int) / (m : Int) = ((S / m : Nat) : Int) := (Int.natCast_ediv S m).symm
      rw [h2]; exact h3 _ (Nat.div_le_self _ _)
    have hmin : (min 60 ((S / m : Nat) : Int) : Int) = ((min 60 (S / m) : Nat) : Int) := by omega
    have hmin2 : (if ((S / m : Nat) : Int) < 60 then ((S / m : Nat) : Int) else 60) = ((min 60 (S / m) : Nat) : Int) := by split <;> omega
    have HDM := Lib.hid (And.intro hdiv (And.intro hmin hmin2)); clear hdiv hmin hmin2
    rw [hSn] at HEN
    have hN60 : min 60 (S / m) ≤ 60 := Nat.min_le_left _ _
    obtain ⟨b, off, rfl, _, hcs⟩ := cells_of_reads (HR.out.old (HB0.out.trans (H4.out.2.mono HB0.out.size))) (by omega)
    have c2 := hcs 0 (by omega)
    rw [HM0.out] at c2
    rw [Nat.add_zero] at c2
    clear hcs
    generalize ks.length = nk at *
    have hl0 : (0 : Int) < (nk : Int) := by omega
    have hl0n : 0 < nk := by omega
    have hm0 : ((m : Int) == 0) = false := by rw [beq_eq_false_iff_ne]; omega
    have hm0' : ¬ (m : Int) = 0 := by omega
    have H6 : Hid (∀ p q, TalF ((W4.drewN p).drewN q) gh bk A (B + 1) (cntT ks true 0) ∧ Below W0.heap.size W0 ((W4.drewN p).drewN q)) := fun p q => ⟨⟨H4.out.1.hd, H4.out.1.rows⟩, below_drewN (below_drewN H4.out.2 p) q⟩
    clear H4
    go_quiet (fail)
    first | rw [HDM.out.1, HDM.out.2.1] | rw [HDM.out.1, HDM.out.2.2]
    clear HDM c0 c1 c2 hm0 hm0' hSn
    generalize min 60 (S / m) = N at *
    go_wp2_with fail
    have hs00 : sumT ks true A B 0 ≤ 1000000000000000 := by
      show (if (A : Int) = 0 ∧ (B : Int) = 0 then (1 : Int) else 0) ≤ _
      split <;> omega
    go_loopw [8, 9, 50] (fun t8 g9 i wr => ∃ (r gh : Nat) (bk : Nat → Nat), t8 = .slice (some ⟨gh, 0, none⟩) (A + 1) (A + 1) ∧ g9 = .int .i64 (sumT ks true A B r) ∧ i = .int .i64 r ∧ r ≤ N ∧ sumT ks true A B r ≤ 1000000000000000 ∧ Hid (TalF wr gh bk A (B + 1) (cntT ks true r) ∧ Below W0.heap.size W0 wr)) (fun _ _ i _ => N - (intOf i).toNat)
    case atStart => exact ⟨0, gh, bk, rfl, rfl, rfl, Nat.zero_le _, hs00, Lib.hid (H6.out _ _)⟩
    case round =>
      clear H6 hs00
      obtain ⟨r, gh, bk, rfl, rfl, rfl, hrN, hsr, hT⟩ := hrel
      have c0 := (hT.out.2.cell (p := ⟨gb, 0, none⟩) hgb).trans r0
      have c1 := (hT.out.2.cell (p := ⟨gb, 1, none⟩) hgb).trans r1
      by_cases hlt : r < N
      · have d1 : (r : Int) < (N : Int) := by omega
        have HC := Lib.hid (HON.out r gh bk wr hT.out.1 (HR.out.old (HB0.out.trans (hT.out.2.mono HB0.out.size))))
        have hbd := cntT_bd ks true (r + 1) A B
        have hsn := sumT_nonneg ks true A B r
        have hnx : sumT ks true A B r + cntT ks true (r + 1) A B = sumT ks true A B (r + 1) := rfl
        have hmo := sumT_mono ks true A B (show r + 1 ≤ 60 by omega)
        have HMO := Lib.hid hmo
        unfold capG at hbd
        have HNX := Lib.hid hnx; clear hnx hmo
        generalize sumT ks true A B r = sr at *
        go_wp2_with fail
        refine HC.out.mono ?_; rintro e w5 ⟨gh5, bk5, rfl, t5, o5, b5⟩
        rw [cntT_goal] at t5
        have b05 := hT.out.2.trans (b5.mono hT.out.2.size)
        have H8 := Lib.hid (fun q => And.intro (show TalF (w5.drewN q) gh5 bk5 A (B + 1) (cntT ks true (r + 1)) from ⟨t5.hd, t5.rows⟩) (below_drewN b05 q))
        clear c0 c1
        have c0 := (b05.cell (p := ⟨gb, 0, none⟩) hgb).trans r0
        have c1 := (b05.cell (p := ⟨gb, 1, none⟩) hgb).trans r1
        have ca := t5.head (a := A) (Nat.le_refl _)
        have cb := t5.cell (a := A) (b := B) (Nat.le_refl _) (by omega)
        clear t5 o5 b5 b05 HC hT
        generalize cntT ks true (r + 1) A B = cr at *
        have ws : IntKind.i64.wrap (sr + cr) = sr + cr := IntWalk.i64_in _ (by omega)
        go_wp2_with fail
        go_quiet (fail)
        clear c0 c1 ca cb
        by_cases q : 1000000000000000 < sr + cr
        · have e1 := HV.out.1
          have e2 := HV.out.2
          have h60 : ¬ totC ks true A B ≤ 1000000000000000 := by
            have h1 := HMO.out
            rw [← HNX.out] at h1
            unfold totC; omega
          rw [if_neg h60] at e1
          rw [decide_eq_false h60] at e2
          subst e1 e2
          have HBB := Lib.hid (HB0.out.trans ((H8.out nq).2.mono HB0.out.size))
          clear h60
          go_wp2_with fail
          go_ret2
          exact ⟨rfl, HBB.out⟩
        · have hle : sumT ks true A B (r + 1) ≤ 1000000000000000 := by rw [← HNX.out]; omega
          have HLE := Lib.hid hle; clear hle
          have H9 := Lib.hid (H8.out nq); clear H8
          go_wp2_with fail
          go_roundw
          case rel => exact ⟨_, _, .slice (some ⟨gh5, 0, none⟩) (A + 1) (A + 1), .int .i64 (sr + cr), .int .i64 ((r : Int) + 1), ⟨r + 1, gh5, rfl, by rw [HNX.out], by go_num, by omega, HLE.out, bk5, H9⟩, rfl, rfl, rfl, rfl, rfl⟩
          case measure => simp [intOf]; omega
      · obtain rfl : r = N := by omega
        have e1 := HV.out.1
        have e2 := HV.out.2
        rw [HEN.out, if_pos hsr] at e1
        rw [HEN.out, decide_eq_true hsr] at e2
        have HE := Lib.hid (And.intro e1 e2)
        have HBB := Lib.hid (HB0.out.trans (hT.out.2.mono HB0.out.size))
        clear e1 e2
        go_wp2_with fail
        go_ret2
        exact ⟨by rw [← HE.out.1, ← HE.out.2]; rfl, HBB.out⟩
  · have ha' : askedC ks x0 x1 = false := by simpa using ha
    have e1 : cntV ks true x0 x1 = 0 := by simp [cntV, ha']
    have e2 : cntB ks true x0 x1 = false := by simp [cntB, ha']
    rw [e1, e2]; clear e1 e2 ha
    cases hk : goodK ks
    · have HG := Lib.hid hk; clear hk ha'
      go_enter Try.func67, Try.ntmps67
      go_upto_region 1 with fail
      try rw [hw0]
      clear hw0
      go_wp2_with fail
      refine (HK.out _ (HR.out.old HB0.out)).mono ?_; rintro e w1 ⟨rfl, b1⟩
      rw [HG.out]
      have B1 := Lib.hid (HB0.out.trans (b1.mono HB0.out.size)); clear b1
      go_wp2_with fail
      go_ret2
      exact ⟨rfl, B1.out⟩
    · cases hs : goodS x0
      · have HG := Lib.hid (And.intro hk hs); clear hk ha' hs
        go_enter Try.func67, Try.ntmps67
        go_upto_region 1 with fail
        try rw [hw0]
        clear hw0
        generalize hgbe : w.heap.size = gb at r0 r1 hgb ⊢
        have HGB := Lib.hid hgbe; clear hgbe
        go_wp2_with fail
        refine (HK.out _ (HR.out.old HB0.out)).mono ?_; rintro e w1 ⟨rfl, b1⟩
        rw [HG.out.1]
        have c0 := (b1.cell (p := ⟨gb, 0, none⟩) hgb).trans r0
        have B1 := Lib.hid (HB0.out.trans (b1.mono HB0.out.size)); clear b1
        go_wp2_with fail
        refine (HSC.out _ _).mono ?_; rintro e w2 ⟨rfl, rfl⟩
        rw [HG.out.2]
        go_wp2_with fail
        go_ret2
        exact ⟨rfl, B1.out⟩
      · have hs1 : goodS x1 = false := by
          unfold askedC at ha'
          rw [hk, hs] at ha'
          simpa using ha'
        have HG := Lib.hid (And.intro hk (And.intro hs hs1)); clear hk ha' hs hs1
        go_enter Try.func67, Try.ntmps67
        go_upto_region 1 with fail
        try rw [hw0]
        clear hw0
        generalize hgbe : w.heap.size = gb at r0 r1 hgb ⊢
        have HGB := Lib.hid hgbe; clear hgbe
        go_wp2_with fail
        refine (HK.out _ (HR.out.old HB0.out)).mono ?_; rintro e w1 ⟨rfl, b1⟩
        rw [HG.out.1]
        have c0 := (b1.cell (p := ⟨gb, 0, none⟩) hgb).trans r0
        have c1 := (b1.cell (p := ⟨gb, 1, none⟩) hgb).trans r1
        have B1 := Lib.hid (HB0.out.trans (b1.mono HB0.out.size)); clear b1
        go_wp2_with fail
        refine (HSC.out _ _).mono ?_; rintro e w2 ⟨rfl, rfl⟩
        rw [HG.out.2.1]
        go_wp2_with fail
        refine (HSC.out _ _).mono ?_; rintro e w2 ⟨rfl, rfl⟩
        rw [HG.out.2.2]
        go_wp2_with fail
        go_ret2
        exact ⟨rfl, B1.out⟩

set_option maxHeartbeats 800000 in
theorem implCountNeverBehind_any (ks : List Int) (x0 x1 : Int) (a : Option Addr) (c : Nat) (w : World) (hl : (ks.length : Int) ≤ 1000000000000) (h : Reads w a (ints ks)) :
    Calls Try.prog 36 #[.slice a ks.length c, .int .i64 x0, .int .i64 x1] w fun e w' => e = .returned (.tuple #[.int .i64 (cntV ks true x0 x1), .bool (cntB ks true x0 x1)]) ∧ Below w.heap.size w w' := by
  have HC := Lib.hid (countN_any ks x0 x1 a c w hl h); clear h
  generalize cntV ks true x0 x1 = V at *
  generalize cntB ks true x0 x1 = VB at *
  go_enter Try.func36, Try.ntmps36
  go_wp2_with fail
  refine HC.out.mono ?_; rintro e w1 ⟨rfl, b1⟩
  go_wp2_with fail
  go_ret2
  exact ⟨rfl, b1⟩
end Go.Proofs.Ytooaeafnneikkab
