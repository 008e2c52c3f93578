/-
  Leagues: in how many ways a team can be first: the program's recursion.
-/
import Derived.Test.YtpfphjfpaoiicaaLgFsI
namespace Go.Proofs.Ytpfphjfpaoiicaa
open Go.RowKit
set_option linter.unusedVariables false
set_option linter.unusedSimpArgs false

/-- The endings of a game as the program goes along them. -/
def endA (wn : Int) (k : Nat) : Int := if k = 0 then wn else if k = 1 then 0 else 1
def endB (wn : Int) (k : Nat) : Int := if k = 0 then 0 else if k = 1 then wn else 1
def endM (k : Nat) : Int := if k = 0 then 1 else if k = 1 then -1 else 0
def sumE (W : Int → Int) : Nat → Int
  | 0 => 0
  | k + 1 => sumE W k + W (endM k)
theorem sumE_bd {W : Int → Int} (h : ∀ m, 0 ≤ W m ∧ W m ≤ 2187) : ∀ k : Nat, 0 ≤ sumE W k ∧ sumE W k ≤ 2187 * k
  | 0 => by simp [sumE]
  | k + 1 => by
    have := sumE_bd h k
    have := h (endM k)
    simp only [sumE]; omega
theorem end_row (T : Nat) (f : Int → Int) (wn : Int) (X Y : Nat) (hX : X < T) (hY : Y < T) (hne : X ≠ Y) (k : Nat) (hk : k < 3) :
    ((rowF T f).set X (f X + endA wn k)).set Y (f Y + endB wn k) = rowF T (fun i => f i + addG wn X Y (endM k) i) := by
  rw [rowF_add hX, rowF_set hY]
  refine rowF_congr fun i _ _ => ?_
  rcases (show k = 0 ∨ k = 1 ∨ k = 2 by omega) with rfl | rfl | rfl
  all_goals
    simp only [endA, endB, endM, addG]
    by_cases e : i = (Y : Int)
    · subst e
      have : ¬ ((Y : Int) = (X : Int)) := by omega
      simp [this]
    · by_cases e2 : i = (X : Int)
      · subst e2
        simp [e]
      · simp [e, e2]

set_option maxHeartbeats 6400000 in
set_option maxRecDepth 100000 in
theorem countFirsts_any (T : Nat) (hT2 : 2 ≤ T) (hT8 : T ≤ 8) (wn : Int) (hw2 : 2 ≤ wn) (hw3 : wn ≤ 3) (M : Nat) (hM : M < T) :
    ∀ (L : List (Int × Int)), L.length ≤ 7 → (∀ p ∈ L, GoodP T p) → ∀ (f : Int → Int), (∀ i : Int, 0 ≤ i → i < T → 0 ≤ f i ∧ f i ≤ 300 - 3 * (L.length : Int)) → ∀ (g cp : Nat) (a : Option Addr) (c : Nat), T ≤ cp → L.length ≤ c → ∀ (w : World), PtR w g (rowF T f) → LfR w a L →
    Calls Try.prog 92 #[.slice (some ⟨g, 0, none⟩) T cp, .slice a L.length c, .int .i64 wn, .int .i64 M] w fun e w' => e = .returned (.int .i64 (waysN T wn M L f)) ∧ Below w.heap.size w w' := by
  intro L
  induction L with
  | nil =>
    intro _ _ f hf g cp a c hcp _ w hr _
    have hMb : (M : Int) < (T : Int) := by omega
    have hwv : waysN T wn M [] f = if (List.range T).all fun (i : Nat) => decide (f (i : Int) ≤ f M) then 1 else 0 := rfl
    rw [hwv]; clear hwv
    obtain ⟨V, hV⟩ : ∃ V : Int, V = (if (List.range T).all fun (i : Nat) => decide (f (i : Int) ≤ f M) then 1 else 0) := ⟨_, rfl⟩
    rw [← hV]
    have HV := Lib.hid hV; clear hV hf
    have hrd := hr.keep (Below.drew (Below.refl _ _))
    have c1 := hrd.cell (j := M) (by rw [rowF_len]; exact hM)
    rw [rowF_get hM] at c1
    have HMX := Lib.hid (maxI_any T cp (by omega) hT8 f g _ hrd)
    have HS0 : Hid (w.drew.cell? ⟨g, M, none⟩ = some (.int .i64 (f M)) ∧ PtR w.drew g (rowF T f) ∧ Below w.heap.size w w.drew) := ⟨c1, hrd, Below.drew (Below.refl _ _)⟩
    clear hr hrd c1
    obtain ⟨fm, hfm⟩ : ∃ fm : Int, fm = f M := ⟨_, rfl⟩
    rw [← hfm] at HS0 HV
    clear hfm
    go_enter Try.func92, Try.ntmps92
    go_wp2_with fail
    refine wp_region_held_drew (S := fun w' => w'.cell? ⟨g, M, none⟩ = some (.int .i64 fm) ∧ PtR w' g (rowF T f) ∧ Below w.heap.size w w') (by kernel_rfl) HS0.out (fun hHeld => ?_)
    (refine wpAnyH_take (i := 0) (v := ?_) rfl (by kernel_rfl) (by kernel_rfl) (by kernel_rfl) (fun _ _ _ h => h) (Or.inl ⟨by kernel_rfl, ?_⟩) (by assumption) ?_; rotate_left; focus (intro w hSw; (try dsimp only at hSw); go_simp; try with_reducible rfl); (try simp only [List.getElem_toArray, List.getElem_cons_succ, List.getElem_cons_zero, Act.put, List.setIfInBounds_toArray, List.set_cons_zero, List.set_cons_succ])); (refine wpAnyH_take (i := 2) (v := ?_) rfl (by kernel_rfl) (by kernel_rfl) (by kernel_rfl) (fun _ _ _ h => h) (Or.inl ⟨by kernel_rfl, ?_⟩) (by assumption) ?_; rotate_left; focus (intro w hSw; (try dsimp only at hSw); go_simp; try with_reducible rfl); (try simp only [List.getElem_toArray, List.getElem_cons_succ, List.getElem_cons_zero, Act.put, List.setIfInBounds_toArray, List.set_cons_zero, List.set_cons_succ])); (refine wpAnyH_take (i := 3) (v := ?_) rfl (by kernel_rfl) (by kernel_rfl) (by kernel_rfl) (fun _ _ _ h => h) (Or.inl ⟨by kernel_rfl, ?_⟩) (by assumption) ?_; rotate_left; focus (intro w hSw; (try dsimp only at hSw); go_simp; try with_reducible rfl); (try simp only [List.getElem_toArray, List.getElem_cons_succ, List.getElem_cons_zero, Act.put, List.setIfInBounds_toArray, List.set_cons_zero, List.set_cons_succ])); (refine wpAnyH_take (i := 4) (v := ?_) rfl (by kernel_rfl) (by kernel_rfl) (by kernel_rfl) (fun _ _ _ h => h) (Or.inl ⟨by kernel_rfl, ?_⟩) (by assumption) ?_; rotate_left; focus (intro w hSw; (try dsimp only at hSw); go_simp; try with_reducible rfl); (try simp only [List.getElem_toArray, List.getElem_cons_succ, List.getElem_cons_zero, Act.put, List.setIfInBounds_toArray, List.set_cons_zero, List.set_cons_succ])); (refine wpAnyH_take (i := 5) (v := ?_) rfl (by kernel_rfl) (by kernel_rfl) (by kernel_rfl) (fun _ _ _ h => h) (Or.inl ⟨by kernel_rfl, ?_⟩) (by assumption) ?_; rotate_left; focus (intro w hSw; (try dsimp only at hSw); go_simp; try with_reducible rfl); (try simp only [List.getElem_toArray, List.getElem_cons_succ, List.getElem_cons_zero, Act.put, List.setIfInBounds_toArray, List.set_cons_zero, List.set_cons_succ]))
    refine wpAnyH_ready (rs := [1]) (by kernel_rfl) (by simp) ?_; refine AllReadyH.cons rfl (fun K hK => ?_) AllReadyH.nil
    go_simp
    go_at_call 114
    refine HMX.out.mono ?_; rintro e w5 ⟨m, rfl, hm, b5⟩
    have HS5 : Hid (w5.cell? ⟨g, M, none⟩ = some (.int .i64 fm) ∧ PtR w5 g (rowF T f) ∧ Below w.heap.size w w5) := ⟨by rw [b5.cell (p := ⟨g, M, none⟩) HS0.out.2.1.1]; exact HS0.out.1, HS0.out.2.1.keep b5, HS0.out.2.2.trans (b5.mono HS0.out.2.2.size)⟩
    have HMM := Lib.hid hm
    clear b5 hm hHeld HMX
    go_wp2_with fail
    first
      | refine hK.out _ _ HS5.out (fun hHeld => ?_)
      | refine hK _ _ HS5.out (fun hHeld => ?_)
    clear hK K
    (try simp only [List.getElem_toArray, List.getElem_cons_succ, List.getElem_cons_zero, Act.put, List.setIfInBounds_toArray, List.set_cons_zero, List.set_cons_succ])
    by_cases e : fm < m
    · have hno : ((List.range T).all fun (i : Nat) => decide (f (i : Int) ≤ fm)) = false := by
        obtain ⟨-, i, hi, h2⟩ := HMM.out
        rw [List.all_eq_false]
        exact ⟨i, List.mem_range.2 hi, by simp; omega⟩
      have HR := Lib.hid (show (0 : Int) = V from by rw [HV.out, hno]; rfl); clear hno
      (refine wpAnyH_take (i := 6) (v := ?_) rfl (by kernel_rfl) (by kernel_rfl) (by kernel_rfl) (fun _ _ _ h => h) (Or.inl ⟨by kernel_rfl, ?_⟩) (by assumption) ?_; rotate_left; focus (intro w hSw; (try dsimp only at hSw); go_simp; try with_reducible rfl); (try simp only [List.getElem_toArray, List.getElem_cons_succ, List.getElem_cons_zero, Act.put, List.setIfInBounds_toArray, List.set_cons_zero, List.set_cons_succ]))
      refine wpAnyH_done (by kernel_rfl) ?_ _
      clear hHeld
      go_wp2_with fail
      go_ret
      exact ⟨ret_int HR.out, HS5.out.2.2⟩
    · have hno : ((List.range T).all fun (i : Nat) => decide (f (i : Int) ≤ fm)) = true := by
        rw [List.all_eq_true]
        intro i hi
        have := HMM.out.1 i (List.mem_range.1 hi)
        exact decide_eq_true (by omega)
      have HR := Lib.hid (show (1 : Int) = V from by rw [HV.out, hno]; rfl); clear hno
      (refine wpAnyH_take (i := 6) (v := ?_) rfl (by kernel_rfl) (by kernel_rfl) (by kernel_rfl) (fun _ _ _ h => h) (Or.inl ⟨by kernel_rfl, ?_⟩) (by assumption) ?_; rotate_left; focus (intro w hSw; (try dsimp only at hSw); go_simp; try with_reducible rfl); (try simp only [List.getElem_toArray, List.getElem_cons_succ, List.getElem_cons_zero, Act.put, List.setIfInBounds_toArray, List.set_cons_zero, List.set_cons_succ]))
      refine wpAnyH_done (by kernel_rfl) ?_ _
      clear hHeld
      go_wp2_with fail
      go_ret
      exact ⟨ret_int HR.out, HS5.out.2.2⟩
  | cons p L ih =>
    intro hL7 hG f hf g cp a c hcp hc w hr hl
    obtain ⟨x, y⟩ := p
    obtain ⟨⟨x0, xT⟩, ⟨y0, yT⟩, hne⟩ := hG (x, y) (List.mem_cons_self ..)
    simp only at x0 xT y0 yT hne
    obtain ⟨X, rfl⟩ : ∃ X : Nat, x = X := ⟨x.toNat, by omega⟩
    obtain ⟨Y, rfl⟩ : ∃ Y : Nat, y = Y := ⟨y.toNat, by omega⟩
    simp only [List.length_cons] at hL7 hf hc
    have hwv : waysN T wn M (((X : Int), (Y : Int)) :: L) f = sumE (fun m => waysN T wn M L (fun i => f i + addG wn X Y m i)) 3 := by
      show waysN T wn M L (fun i => f i + addG wn X Y (-1) i) + waysN T wn M L (fun i => f i + addG wn X Y 0 i) + waysN T wn M L (fun i => f i + addG wn X Y 1 i) = ((0 + waysN T wn M L (fun i => f i + addG wn X Y 1 i)) + waysN T wn M L (fun i => f i + addG wn X Y (-1) i)) + waysN T wn M L (fun i => f i + addG wn X Y 0 i)
      omega
    have hWb := fun m : Int => ways_bd T wn M L (fun i => f i + addG wn X Y m i) (by omega)
    have hih := fun (m : Int) => ih (by omega) (fun q hq => hG q (List.mem_cons_of_mem _ hq)) (fun i => f i + addG wn X Y m i) (fun i h0 h1 => by
      have h2 := hf i h0 h1
      have h3 := addG_bd (wn := wn) ⟨hw2, hw3⟩ X Y m i
      omega)
    have hfb : ∀ i : Int, 0 ≤ i → i < T → 0 ≤ f i ∧ f i ≤ 100000 := fun i h0 h1 => by have := hf i h0 h1; omega
    have hown := fun W (hb : Below w.heap.size w W) => cloneI_any (rowF T f) (some ⟨g, 0, none⟩) cp W (by rw [rowF_len]; omega) (by rw [rowF_len]; omega) (hr.keep hb).reads
    rw [rowF_len] at hown
    have HA := Lib.hid hown; clear hown
    have HER := Lib.hid (fun k hk => end_row T f wn X Y (by omega) (by omega) (by omega) k hk)
    have hfX := hfb X (by omega) (by omega)
    have hfY := hfb Y (by omega) (by omega)
    have HW := Lib.hid hwv; clear hwv
    have HIH := Lib.hid hih; clear hih ih
    have HSW := Lib.hid (sumE_bd hWb); clear hWb
    have HL := Lib.hid hl
    have HR := Lib.hid hr; clear hr hl
    generalize hWW : (fun m => waysN T wn M L (fun i => f i + addG wn X Y m i)) = WW at *
    have HWW := Lib.hid hWW; clear hWW
    clear hf hfb hG
    obtain ⟨V, hV⟩ : ∃ V : Int, V = waysN T wn M (((X : Int), (Y : Int)) :: L) f := ⟨_, rfl⟩
    rw [← hV]
    have HV := Lib.hid (hV.trans HW.out); clear hV HW
    have q0 : ((L.length : Int) + 1 == 0) = false := by rw [beq_eq_false_iff_ne]; omega
    obtain ⟨go, off, gr, cr, ha, hc0, hc1, hc2, htl⟩ := HL.out.head
    subst ha
    have HTL := Lib.hid htl; clear htl
    have d0 : (0 : Int) < (L.length : Int) + 1 := by omega
    have HST : Hid (∀ nq : Nat, ObAt ((w.drewN nq).alloc (.cells #[.int .i64 wn, .int .i64 0, .int .i64 0, .int .i64 wn, .int .i64 1, .int .i64 1] 112)) w.heap.size 112 #[.int .i64 wn, .int .i64 0, .int .i64 0, .int .i64 wn, .int .i64 1, .int .i64 1] ∧ Below w.heap.size w ((w.drewN nq).alloc (.cells #[.int .i64 wn, .int .i64 0, .int .i64 0, .int .i64 wn, .int .i64 1, .int .i64 1] 112))) := fun nq => ⟨ObAt.new (w.drewN nq) _ _, (below_drewN (Below.refl _ _) nq).alloc (Nat.le_refl _) _⟩
    go_enter Try.func92, Try.ntmps92
    go_wp2_with fail
    go_quiet (fail)
    go_wp2_with fail
    go_loopw [11, 42] (fun s i wr => ∃ k : Nat, i = .int .i64 k ∧ k ≤ 3 ∧ s = .int .i64 (sumE WW k) ∧ Hid (ObAt wr w.heap.size 112 #[.int .i64 wn, .int .i64 0, .int .i64 0, .int .i64 wn, .int .i64 1, .int .i64 1] ∧ Below w.heap.size w wr)) (fun _ i _ => 3 - (intOf i).toNat)
    case atStart => exact ⟨0, rfl, by omega, rfl, HST.out _⟩
    case round =>
      clear HST hc0 hc1 hc2
      obtain ⟨k, rfl, hk3, rfl, hH⟩ := hrel
      by_cases hlt : k < 3
      · have b1 : (k : Int) < 3 := by omega
        have cA : wr.cell? ⟨w.heap.size, k * 2, none⟩ = some (.int .i64 (endA wn k)) := by
          rcases (show k = 0 ∨ k = 1 ∨ k = 2 by omega) with h | h | h <;> subst h
          · exact hH.out.1.cell 0
          · exact hH.out.1.cell 2
          · exact hH.out.1.cell 4
        have cB : wr.cell? ⟨w.heap.size, k * 2 + 1, none⟩ = some (.int .i64 (endB wn k)) := by
          rcases (show k = 0 ∨ k = 1 ∨ k = 2 by omega) with h | h | h <;> subst h
          · exact hH.out.1.cell 1
          · exact hH.out.1.cell 3
          · exact hH.out.1.cell 5
        have eAb : 0 ≤ endA wn k ∧ endA wn k ≤ 3 := by unfold endA; split <;> (try split) <;> omega
        have eBb : 0 ≤ endB wn k ∧ endB wn k ≤ 3 := by unfold endB; split <;> (try split) <;> omega
        have her := HER.out k hlt
        obtain ⟨s0, s1⟩ := HSW.out k
        obtain ⟨s2, s3⟩ := HSW.out (k + 1)
        have hs : sumE WW (k + 1) = sumE WW k + WW (endM k) := rfl
        have HSN := Lib.hid hs
        have HWm : Hid (WW (endM k) = waysN T wn M L (fun i => f i + addG wn X Y (endM k) i)) := Lib.hid (by rw [← HWW.out])
        rw [hs] at s2 s3
        generalize sumE WW k = SK at *
        generalize WW (endM k) = WM at *
        clear hs
        generalize hfx : f (X : Int) = fx at *
        generalize hfy : f (Y : Int) = fy at *
        generalize endA wn k = eA at *
        generalize endB wn k = eB at *
        have HER2 := Lib.hid her; clear her
        have hb2 := hH.out.2.alloc hH.out.2.size (.cells #[.int .i64 eA, .int .i64 eB] 112)
        have hob := hH.out.1.old (.cells #[.int .i64 eA, .int .i64 eB] 112)
        have hnw := ObAt.new wr 112 #[.int .i64 eA, .int .i64 eB]
        have hown := HA.out _ hb2
        have HO := Lib.hid (And.intro hown (And.intro hob (And.intro hnw hb2)))
        have hzz := hH.out.2.size
        clear hown hob hnw hb2 hH
        go_wp2_with fail
        refine HO.out.1.mono ?_; rintro e w1 ⟨v, rfl, ho, b1'⟩
        obtain ⟨g', cp', rfl, hcp', hge, hp1⟩ := PtR.ofOwn (cs := rowF T f) (by rw [rowF_len]; omega) (by rw [rowF_len]; exact ho)
        rw [rowF_len] at hcp' ⊢
        rw [World.size_alloc] at hge
        have cX := hp1.cell (j := X) (by rw [rowF_len]; omega)
        have cY := hp1.cell (j := Y) (by rw [rowF_len]; omega)
        rw [rowF_get (by omega), hfx] at cX
        rw [rowF_get (by omega), hfy] at cY
        have fX := (hp1.2 X (by rw [rowF_len]; omega)).2
        have fY := (hp1.2 Y (by rw [rowF_len]; omega)).2
        have hg1 := HO.out.2.2.1.keep b1'
        have g0 := hg1.cell 0
        have g1 := hg1.cell 1
        have hgl := hg1.lt
        have hob1 := HO.out.2.1.keep b1'
        have hbw := HO.out.2.2.2.trans (b1'.mono HO.out.2.2.2.size)
        have hgne : g' ≠ wr.heap.size := by omega
        have hgne2 : wr.heap.size ≠ g' := by omega
        have hXY : X ≠ Y := by omega
        have bX : (X : Int) < (T : Int) := by omega
        have bY : (Y : Int) < (T : Int) := by omega
        have hlow : w.heap.size < g' := by omega
        have hp2 := hp1.put (j := X) (by rw [rowF_len]; omega) (fx + eA)
        have HP2 : Hid (PtR ((w1.setCell ⟨g', X, none⟩ (.int .i64 (fx + eA))).drew) g' ((rowF T f).set X (fx + eA)) ∧ ObAt ((w1.setCell ⟨g', X, none⟩ (.int .i64 (fx + eA))).drew) w.heap.size 112 #[.int .i64 wn, .int .i64 0, .int .i64 0, .int .i64 wn, .int .i64 1, .int .i64 1] ∧ Below w.heap.size w ((w1.setCell ⟨g', X, none⟩ (.int .i64 (fx + eA))).drew)) :=
          ⟨hp2, hob1.other (by omega) _, (hbw.setCell (by simp only; omega) _).drew⟩
        have kY : ((w1.setCell ⟨g', X, none⟩ (.int .i64 (fx + eA))).drew).cell? ⟨g', Y, none⟩ = some (.int .i64 fy) := by
          have h := World.cell?_setCell_other w1 ⟨g', X, none⟩ ⟨g', Y, none⟩ (.int .i64 (fx + eA)) (by intro e; injection e with e1 e2; exact hXY e2)
          exact h.trans cY
        have kB : ((w1.setCell ⟨g', X, none⟩ (.int .i64 (fx + eA))).drew).cell? ⟨wr.heap.size, 1, none⟩ = some (.int .i64 eB) := by
          have h := World.cell?_setCell_other w1 ⟨g', X, none⟩ ⟨wr.heap.size, 1, none⟩ (.int .i64 (fx + eA)) (by intro e; injection e with e1 e2; exact hgne e1)
          exact h.trans g1
        have kf : ((w1.setCell ⟨g', X, none⟩ (.int .i64 (fx + eA))).drew).frozen? ⟨g', Y, none⟩ = false := (World.frozen?_setCell ..).trans fY
        have HK := Lib.hid (And.intro kY (And.intro kB kf))
        clear hp2 hob1 hbw hg1 hp1 ho b1' HO hfx hfy kY kB kf cY g1 fY
        go_wp2_with fail
        go_still_tail 8, (by kernel_rfl)
        go_wp2_with fail
        generalize (w1.setCell ⟨g', X, none⟩ (.int .i64 (fx + eA))).drew = W2 at *
        obtain ⟨kY, kB, kf⟩ := HK.out
        have hP3 := HP2.out.1.put (j := Y) (by rw [List.length_set, rowF_len]; omega) (fy + eB)
        rw [HER2.out] at hP3
        have HP3 : Hid (PtR (W2.setCell ⟨g', Y, none⟩ (.int .i64 (fy + eB))) g' (rowF T fun i => f i + addG wn X Y (endM k) i) ∧ ObAt (W2.setCell ⟨g', Y, none⟩ (.int .i64 (fy + eB))) w.heap.size 112 #[.int .i64 wn, .int .i64 0, .int .i64 0, .int .i64 wn, .int .i64 1, .int .i64 1] ∧ Below w.heap.size w (W2.setCell ⟨g', Y, none⟩ (.int .i64 (fy + eB)))) :=
          ⟨hP3, HP2.out.2.1.other (by omega) _, HP2.out.2.2.setCell (by simp only; omega) _⟩
        have HLf : Hid (LfR (W2.setCell ⟨g', Y, none⟩ (.int .i64 (fy + eB))) (some ⟨go, off + 1, none⟩) L) := HTL.out.keep HP3.out.2.2
        clear hP3 HP2 HK HER2 cX fX g0
        go_still_tail 8, (by kernel_rfl)
        by_cases hc1 : c = 1
        · subst hc1
          have hLe : L = [] := List.length_eq_zero_iff.1 (by omega)
          have HLz := Lib.hid (show L.length ≤ 0 by rw [hLe]; simp)
          have HLe := Lib.hid hLe
          clear hLe hc d0 hL7
          go_wp2_with fail
          refine Calls.mono (HIH.out (endM k) g' cp' (some ⟨go, off, none⟩) 0 hcp' ?h1 _ ?h2 ?h3) ?_
          case h1 => exact HLz.out
          case h2 => exact HP3.out.1
          case h3 => exact .inl HLe.out
          rintro e w6 ⟨rfl, b6⟩
          rw [← HWm.out]
          have H6 : Hid (ObAt w6 w.heap.size 112 #[.int .i64 wn, .int .i64 0, .int .i64 0, .int .i64 wn, .int .i64 1, .int .i64 1] ∧ Below w.heap.size w w6) := ⟨HP3.out.2.1.drew.keep b6, HP3.out.2.2.drew.trans (b6.mono HP3.out.2.2.size)⟩
          clear b6
          go_wp2_with fail
          go_roundw
          case rel => exact ⟨k + 1, by go_num, by omega, by rw [HSN.out], H6⟩
          case measure => simp [intOf]; omega
        · clear d0
          go_wp2_with fail
          refine Calls.mono (HIH.out (endM k) g' cp' (some ⟨go, off + 1, none⟩) (c - 1) hcp' ?h4 _ ?h5 ?h6) ?_
          case h4 => omega
          case h5 => exact HP3.out.1
          case h6 => exact HLf.out
          rintro e w6 ⟨rfl, b6⟩
          rw [← HWm.out]
          have H6 : Hid (ObAt w6 w.heap.size 112 #[.int .i64 wn, .int .i64 0, .int .i64 0, .int .i64 wn, .int .i64 1, .int .i64 1] ∧ Below w.heap.size w w6) := ⟨HP3.out.2.1.drew.keep b6, HP3.out.2.2.drew.trans (b6.mono HP3.out.2.2.size)⟩
          clear b6
          go_wp2_with fail
          go_roundw
          case rel => exact ⟨k + 1, by go_num, by omega, by rw [HSN.out], H6⟩
          case measure => simp [intOf]; omega
      · obtain rfl : k = 3 := by omega
        go_wp2
        go_ret
        exact ⟨ret_int HV.out.symm, hH.out.2⟩
end Go.Proofs.Ytpfphjfpaoiicaa
