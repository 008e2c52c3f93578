/-
  Leagues: in how many ways a team can be first: the model's.
-/
import Derived.Test.YtpfphjfpaoiicaaLgFst
namespace Go.Proofs.Ytpfphjfpaoiicaa
open Go.RowKit
set_option linter.unusedVariables false
set_option linter.unusedSimpArgs false

theorem pow_bd : ∀ n : Nat, n ≤ 7 → (3 : Int) ^ n ≤ 2187 := by
  intro n hn
  have : ∀ k : Fin 8, (3 : Int) ^ k.val ≤ 2187 := by decide
  exact this ⟨n, by omega⟩
theorem ways_bd (T : Nat) (wn M : Int) (L : List (Int × Int)) (f : Int → Int) (h : L.length ≤ 7) : 0 ≤ waysN T wn M L f ∧ waysN T wn M L f ≤ 2187 := by
  have h1 := waysN_bd T wn M L f
  have h2 := pow_bd L.length h
  omega
def GoodP (T : Nat) (p : Int × Int) : Prop := (0 ≤ p.1 ∧ p.1 < T) ∧ (0 ≤ p.2 ∧ p.2 < T) ∧ p.1 ≠ p.2
theorem addG_bd {wn : Int} (h : 2 ≤ wn ∧ wn ≤ 3) (x y m i : Int) : 0 ≤ addG wn x y m i ∧ addG wn x y m i ≤ 3 := by
  unfold addG; repeat' split
  all_goals omega
/-- The ways of the first so many endings of a game, as the model goes along them. -/
def sumW (W : Int → Int) : Nat → Int
  | 0 => 0
  | k + 1 => sumW W k + W ((k : Int) - 1)
theorem sumW_bd {W : Int → Int} (h : ∀ m, 0 ≤ W m ∧ W m ≤ 2187) : ∀ k : Nat, 0 ≤ sumW W k ∧ sumW W k ≤ 2187 * k
  | 0 => by simp [sumW]
  | k + 1 => by
    have := sumW_bd h k
    have := h ((k : Int) - 1)
    simp only [sumW]; omega

set_option maxHeartbeats 6400000 in
set_option maxRecDepth 100000 in
theorem lgFirsts_any (T : Nat) (hT2 : 2 ≤ T) (hT8 : T ≤ 8) (wn : Int) (hw2 : 2 ≤ wn) (hw3 : wn ≤ 3) (M : Nat) (hM : M < T) :
    ∀ (L : List (Int × Int)), L.length ≤ 7 → (∀ p ∈ L, GoodP T p) → ∀ (f : Int → Int), (∀ i : Int, 0 ≤ i → i < T → 0 ≤ f i ∧ f i ≤ 300 - 3 * (L.length : Int)) → ∀ (g cp : Nat) (a : Option Addr) (c : Nat), T ≤ cp → L.length ≤ c → ∀ (w : World), PtR w g (rowF T f) → LfR w a L →
    Calls Try.prog 91 #[.slice (some ⟨g, 0, none⟩) T cp, .int .i64 wn, .slice a L.length c, .int .i64 M] w fun e w' => e = .returned (.int .i64 (waysN T wn M L f)) ∧ Below w.heap.size w w' := by
  intro L
  induction L with
  | nil =>
    intro _ _ f hf g cp a c hcp _ w hr _
    have hMb : (M : Int) < (T : Int) := by omega
    have HP := Lib.hid hr; clear hr
    have hwv : waysN T wn M [] f = if (List.range T).all fun (i : Nat) => decide (f (i : Int) ≤ f M) then 1 else 0 := rfl
    rw [hwv]; clear hwv
    obtain ⟨V, hV⟩ : ∃ V : Int, V = (if (List.range T).all fun (i : Nat) => decide (f (i : Int) ≤ f M) then 1 else 0) := ⟨_, rfl⟩
    rw [← hV]
    have HV := Lib.hid hV; clear hV
    have HF := Lib.hid hf; clear hf
    go_enter Try.func91, Try.ntmps91
    go_wp2_with fail
    go_loopw [19] (fun i wr => ∃ k : Nat, i = .int .i64 k ∧ k ≤ T ∧ Hid ((∀ i : Nat, i < k → f (i : Int) ≤ f M) ∧ Below w.heap.size w wr)) (fun i _ => T - (intOf i).toNat)
    case atStart => exact ⟨0, rfl, Nat.zero_le _, fun i hi => absurd hi (Nat.not_lt_zero _), Below.refl _ _⟩
    case round =>
      obtain ⟨k, rfl, hk, hH⟩ := hrel
      by_cases hlt : k < T
      · have b1 : (k : Int) < (T : Int) := by omega
        have hrk := HP.out.keep hH.out.2
        have c0 := hrk.cell (j := k) (by rw [rowF_len]; exact hlt)
        have c1 := hrk.cell (j := M) (by rw [rowF_len]; exact hM)
        rw [rowF_get hlt] at c0
        rw [rowF_get hM] at c1
        clear hrk
        by_cases e : f M < f k
        · have HNo : Hid (((List.range T).all fun (i : Nat) => decide (f (i : Int) ≤ f M)) = false) := Lib.hid (by
            rw [List.all_eq_false]
            exact ⟨k, List.mem_range.2 hlt, by simp; omega⟩)
          generalize f (k : Int) = x at *
          generalize f (M : Int) = y at *
          go_wp2
          go_ret
          exact ⟨ret_int (by rw [HV.out, HNo.out]; rfl), hH.out.2⟩
        · have HN : Hid ((∀ i : Nat, i < k + 1 → f (i : Int) ≤ f M) ∧ Below w.heap.size w wr) := ⟨fun i hi => by
            by_cases q : i = k
            · rw [q]; omega
            · exact hH.out.1 i (by omega), hH.out.2⟩
          clear hH
          generalize f (k : Int) = x at *
          generalize f (M : Int) = y at *
          go_wp2
          go_roundw
          case rel => exact ⟨k + 1, by go_num, by omega, HN⟩
          case measure => simp [intOf]; omega
      · obtain rfl : k = T := by omega
        have HY : Hid (((List.range k).all fun (i : Nat) => decide (f (i : Int) ≤ f M)) = true) := Lib.hid (by
          rw [List.all_eq_true]
          intro i hi
          exact decide_eq_true (hH.out.1 i (List.mem_range.1 hi)))
        go_wp2
        go_ret
        exact ⟨ret_int (by rw [HV.out, HY.out]; rfl), hH.out.2⟩
  | cons p L ih =>
    intro hL7 hG f hf g cp a c hcp hc w hr hl
    obtain ⟨x, y⟩ := p
    obtain ⟨⟨x0, xT⟩, ⟨y0, yT⟩, hne⟩ := hG (x, y) (List.mem_cons_self ..)
    simp only at x0 xT y0 yT hne
    obtain ⟨X, rfl⟩ : ∃ X : Nat, x = X := ⟨x.toNat, by omega⟩
    obtain ⟨Y, rfl⟩ : ∃ Y : Nat, y = Y := ⟨y.toNat, by omega⟩
    simp only [List.length_cons] at hL7 hf hc
    have hwv : waysN T wn M (((X : Int), (Y : Int)) :: L) f = sumW (fun m => waysN T wn M L (fun i => f i + addG wn X Y m i)) 3 := by
      show waysN T wn M L (fun i => f i + addG wn X Y (-1) i) + waysN T wn M L (fun i => f i + addG wn X Y 0 i) + waysN T wn M L (fun i => f i + addG wn X Y 1 i) = ((0 + waysN T wn M L (fun i => f i + addG wn X Y (((0 : Nat) : Int) - 1) i)) + waysN T wn M L (fun i => f i + addG wn X Y (((1 : Nat) : Int) - 1) i)) + waysN T wn M L (fun i => f i + addG wn X Y (((2 : Nat) : Int) - 1) i)
      rw [show ((0 : Nat) : Int) - 1 = -1 from rfl, show ((1 : Nat) : Int) - 1 = 0 from rfl, show ((2 : Nat) : Int) - 1 = 1 from rfl]
      omega
    have hWb := fun m : Int => ways_bd T wn M L (fun i => f i + addG wn X Y m i) (by omega)
    have hih := fun (m : Int) => ih (by omega) (fun q hq => hG q (List.mem_cons_of_mem _ hq)) (fun i => f i + addG wn X Y m i) (fun i h0 h1 => by
      have h2 := hf i h0 h1
      have h3 := addG_bd (wn := wn) ⟨hw2, hw3⟩ X Y m i
      omega)
    have hfb : ∀ i : Int, 0 ≤ i → i < T → 0 ≤ f i ∧ f i ≤ 100000 := fun i h0 h1 => by have := hf i h0 h1; omega
    have hadd := fun (g' cp' : Nat) (m : Int) W hW => lgAddC_any T cp' hT8 f hfb g' wn ⟨hw2, hw3⟩ X Y (by omega) (by omega) (by omega) m W hW
    have hown := fun W (hb : Below w.heap.size w W) => l1Own_any (rowF T f) (some ⟨g, 0, none⟩) cp W (by rw [rowF_len]; omega) (hr.keep hb).reads
    rw [rowF_len] at hown
    have HA := Lib.hid (And.intro hadd hown); clear hadd hown
    have HW := Lib.hid hwv; clear hwv
    have HIH := Lib.hid hih; clear hih ih
    have HSW := Lib.hid (sumW_bd hWb); clear hWb
    have HL := Lib.hid hl
    have HR := Lib.hid hr; clear hr hl
    generalize hWW : (fun m => waysN T wn M L (fun i => f i + addG wn X Y m i)) = WW at *
    have HWW := Lib.hid hWW; clear hWW
    clear hf hfb hG
    obtain ⟨V, hV⟩ : ∃ V : Int, V = waysN T wn M (((X : Int), (Y : Int)) :: L) f := ⟨_, rfl⟩
    rw [← hV]
    have HV := Lib.hid (hV.trans HW.out); clear hV HW
    have q0 : ((L.length : Int) + 1 == 0) = false := by rw [beq_eq_false_iff_ne]; omega
    go_enter Try.func91, Try.ntmps91
    go_wp2_with fail
    go_loopw [11, 12] (fun s m wr => ∃ k : Nat, m = .int .i64 ((k : Int) - 1) ∧ k ≤ 3 ∧ s = .int .i64 (sumW WW k) ∧ Hid (Below w.heap.size w wr)) (fun _ m _ => (2 - intOf m).toNat)
    case atStart => exact ⟨0, rfl, by omega, rfl, Below.refl _ _⟩
    case round =>
      obtain ⟨k, rfl, hk3, rfl, hH⟩ := hrel
      by_cases hlt : k < 3
      · have b1 : (k : Int) - 1 ≤ 1 := by omega
        have hown := Lib.hid (HA.out.2 wr hH.out)
        obtain ⟨s0, s1⟩ := HSW.out k
        obtain ⟨s2, s3⟩ := HSW.out (k + 1)
        have hs : sumW WW (k + 1) = sumW WW k + WW ((k : Int) - 1) := rfl
        have HSN := Lib.hid hs
        have HWm : Hid (WW ((k : Int) - 1) = waysN T wn M L (fun i => f i + addG wn X Y ((k : Int) - 1) i)) := Lib.hid (by rw [← HWW.out])
        generalize sumW WW k = SK at *
        generalize hm : (k : Int) - 1 = m at *
        rw [hs] at s2 s3
        generalize WW m = WM at *
        have m0 : -1 ≤ m := by omega
        have HM := Lib.hid hm; clear hm hs
        go_wp2_with fail
        refine hown.out.mono ?_; rintro e w1 ⟨v, rfl, ho, b1'⟩
        obtain ⟨g', cp', rfl, hcp', hge, hp1⟩ := PtR.ofOwn (cs := rowF T f) (by rw [rowF_len]; omega) (by rw [rowF_len]; exact ho)
        rw [rowF_len] at hcp' ⊢
        have hbw1 := hH.out.trans (b1'.mono hH.out.size)
        have hbd := Below.drew hbw1
        obtain ⟨go, off, gr, cr, ha, hc0, hc1, hc2, -⟩ := (HL.out.keep hbw1).head
        subst ha
        have H1 := Lib.hid (And.intro (hp1.keep (Below.drew (Below.refl _ _))) (And.intro hbd (Nat.le_trans hH.out.size hge)))
        clear hp1 hbw1 hbd hge b1' ho hown hH
        have d0 : (0 : Int) < (L.length : Int) + 1 := by omega
        go_wp2_with fail
        go_still_tail 13, (by kernel_rfl)
        go_wp2_with fail
        refine (HA.out.1 g' cp' m _ H1.out.1).mono ?_; rintro e w5 ⟨rfl, r5, o5⟩
        have hb5 := o5.2.2 _ _ H1.out.2.2 H1.out.2.1
        have H5 := Lib.hid (And.intro r5 hb5); clear r5 o5 hb5 hc0 hc1 hc2
        have htl := (HL.out.keep H5.out.2).head
        obtain ⟨go', off', gr', cr', ha', -, -, -, htl⟩ := htl
        have HTL := Lib.hid (And.intro ha' htl); clear ha' htl
        by_cases hc1 : c = 1
        · subst hc1
          have hLe : L = [] := List.length_eq_zero_iff.1 (by omega)
          have hcall := fun ad cc => HIH.out m g' cp' ad cc hcp' (by rw [hLe]; simp) w5 H5.out.1 (.inl hLe)
          rw [← HWm.out] at hcall
          have HCL := Lib.hid hcall
          clear hcall hLe hc HTL d0 hL7
          go_wp2_with fail
          refine (HCL.out _ _).mono ?_; rintro e w6 ⟨rfl, b6⟩
          have H6 := Lib.hid (H5.out.2.trans (b6.mono H5.out.2.size)); clear b6 H5 HCL
          go_wp2_with fail
          go_roundw
          case rel => exact ⟨k + 1, by rw [show ((k + 1 : Nat) : Int) - 1 = m + 1 from by have := HM.out; omega], by omega, by rw [HSN.out], H6⟩
          case measure => have := HM.out; simp [intOf]; omega
        · clear d0
          have hcall := HIH.out m g' cp' (some ⟨go, off + 1, none⟩) (c - 1) hcp' (by omega) w5 H5.out.1 (by
            obtain ⟨e1, e2⟩ := HTL.out
            injection e1 with e1; injection e1 with e3 e4
            rw [e3, e4]; exact e2)
          rw [← HWm.out] at hcall
          have HCL := Lib.hid hcall; clear hcall HTL
          go_wp2_with fail
          refine HCL.out.mono ?_; rintro e w6 ⟨rfl, b6⟩
          have H6 := Lib.hid (H5.out.2.trans (b6.mono H5.out.2.size)); clear b6 H5 HCL
          go_wp2_with fail
          go_roundw
          case rel => exact ⟨k + 1, by rw [show ((k + 1 : Nat) : Int) - 1 = m + 1 from by have := HM.out; omega], by omega, by rw [HSN.out], H6⟩
          case measure => have := HM.out; simp [intOf]; omega
      · obtain rfl : k = 3 := by omega
        go_wp2
        go_ret
        exact ⟨ret_int HV.out.symm, hH.out⟩
end Go.Proofs.Ytpfphjfpaoiicaa
