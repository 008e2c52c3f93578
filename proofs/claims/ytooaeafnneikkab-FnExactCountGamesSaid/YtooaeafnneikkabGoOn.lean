/-
  Goals: CountGames, CountNeverBehind: a goal more in the program's tally.
-/
import Derived.Test.YtooaeafnneikkabGoNew
import Derived.Deep.RegionHeld3
namespace Go.Proofs.Ytooaeafnneikkab
open Go.RowKit
set_option linter.unusedVariables false
set_option linter.unusedSimpArgs false

theorem TalF.apart {wr : World} {gh : Nat} {bk : Nat → Nat} {A W : Nat} {H : Int → Int → Int} (h : TalF wr gh bk A W H) {x : Nat} (hx : x ≤ A) : gh ≠ bk x := by
  intro e
  have h1 := h.rows x hx
  have h2 := h.hd
  unfold RowAt at h1
  rw [e, h1] at h2
  injection h2 with h2
  injection h2 with h3 h4 h5
  exact absurd h4 (by decide)
theorem TalF.put {wr : World} {gh base : Nat} {bk : Nat → Nat} {A W : Nat} {H H' : Int → Int → Int} (h : TalF wr gh bk A W H) (ho : TalO base gh bk (A + 1)) {x y : Nat} (hx : x ≤ A) (hy : y < W) {v : Int} (hH : ∀ a b : Nat, a ≤ A → b < W → H' a b = if a = x ∧ b = y then v else H a b) :
    TalF (wr.setCell ⟨bk x, y, none⟩ (.int .i64 v)) gh bk A W H' := by
  refine ⟨?_, fun a ha => ?_⟩
  · rw [Below.heap_setCell _ _ _ _ (h.apart hx)]; exact h.hd
  · by_cases e : a = x
    · subst e
      have h1 := (h.rows a ha).put (j := y) (by rw [rowF_len]; exact hy) v
      have e2 : rowF H' W a = (rowF H W a).set y v := by
        apply List.ext_getElem
        · simp [rowF]
        · intro i h1 h2
          have hi : i < W := by simpa [rowF] using h1
          rw [List.getElem_set]
          simp only [rowF, List.getElem_map, List.getElem_range]
          rw [hH a i ha hi]
          by_cases q : y = i
          · rw [if_pos ⟨rfl, q.symm⟩, if_pos q]
          · rw [if_neg (fun h => q h.2.symm), if_neg q]
      rw [e2]; exact h1
    · have h1 := h.rows a ha
      have e2 : rowF H' W a = rowF H W a := by
        unfold rowF
        refine List.map_congr_left fun b hb => ?_
        rw [hH a b ha (List.mem_range.1 hb), if_neg (fun h => e h.1)]
      rw [e2]
      unfold RowAt at h1 ⊢
      rw [Below.heap_setCell _ _ _ _ (by simp; exact ho.ap a x (by omega) (by omega) e)]; exact h1
theorem TalF.congr {wr : World} {gh : Nat} {bk : Nat → Nat} {A W : Nat} {H H' : Int → Int → Int} (h : TalF wr gh bk A W H) (hH : ∀ a b : Nat, a ≤ A → b < W → H' a b = H a b) : TalF wr gh bk A W H' :=
  ⟨h.hd, fun a ha => by
    have e2 : rowF H' W a = rowF H W a := by
      unfold rowF
      exact List.map_congr_left fun b hb => hH a b ha (List.mem_range.1 hb)
    rw [e2]; exact h.rows a ha⟩
/-- A table of which so many rows, and so much of the next one, are done. -/
def partF (G : Int → Int → Int) (k j : Nat) (a b : Int) : Int := if a < k ∨ (a = k ∧ b < j) then G a b else 0
theorem partF_put (G : Int → Int → Int) (k j a b : Nat) : partF G k (j + 1) a b = if a = k ∧ b = j then G k j else partF G k j a b := by
  unfold partF
  by_cases e : a = k ∧ b = j
  · obtain ⟨rfl, rfl⟩ := e
    rw [if_pos (.inr ⟨rfl, by omega⟩), if_pos ⟨rfl, rfl⟩]
  · rw [if_neg e]
    by_cases e2 : (a : Int) < k ∨ ((a : Int) = k ∧ (b : Int) < j)
    · rw [if_pos e2, if_pos (by omega)]
    · rw [if_neg e2, if_neg (by omega)]
theorem partF_same {G : Int → Int → Int} {k j : Nat} (h : G k j = 0) (a b : Nat) : partF G k (j + 1) a b = partF G k j a b := by
  rw [partF_put]
  by_cases e : a = k ∧ b = j
  · obtain ⟨rfl, rfl⟩ := e
    rw [if_pos ⟨rfl, rfl⟩, h]
    unfold partF
    rw [if_neg (by omega)]
  · rw [if_neg e]
/-- What a goal more makes of a tally. -/
def goalT (ks : List Int) (nv : Bool) (G : Int → Int → Int) (a b : Int) : Int := if stB nv a b = true then minO (sumK (pull2 G a b) ks) else 0


set_option maxHeartbeats 400000 in
theorem mayStandG_any (a b : Nat) (w : World) : Calls Try.prog 68 #[.agg #[.int .i64 a, .int .i64 b]] w fun e w' => e = .returned (.bool (stB false a b)) ∧ Below w.heap.size w w' := by
  have HB := Lib.hid (below_new w (.cells #[.int .i64 a, .int .i64 b] 86))
  go_enter Try.func68, Try.ntmps68
  go_wp2
  go_ret
  exact ⟨rfl, HB.out⟩
set_option maxHeartbeats 400000 in
theorem mayStandN_any (a b : Nat) (w : World) : Calls Try.prog 69 #[.agg #[.int .i64 a, .int .i64 b]] w fun e w' => e = .returned (.bool (stB true a b)) ∧ Below w.heap.size w w' := by
  obtain ⟨r0, r1⟩ := two_new w (.int .i64 a) (.int .i64 b) 86
  have HB := Lib.hid (below_new w (.cells #[.int .i64 a, .int .i64 b] 86))
  have e : stB true a b = decide ((b : Int) ≤ (a : Int)) := by simp [stB]
  rw [e]; clear e
  by_cases q : (b : Int) ≤ (a : Int)
  · rw [decide_eq_true q]
    go_enter Try.func69, Try.ntmps69
    go_wp2
    go_ret
    exact ⟨by first | rfl | simp [q], HB.out⟩
  · rw [decide_eq_false q]
    go_enter Try.func69, Try.ntmps69
    go_wp2
    go_ret
    exact ⟨by first | rfl | simp [q], HB.out⟩

set_option maxRecDepth 8000 in
set_option maxHeartbeats 3200000 in
theorem goalOnG_any (ks : List Int) (hk : ∀ x ∈ ks, 1 ≤ x ∧ x ≤ 20) (hl5 : ks.length ≤ 5) (G : Int → Int → Int) (hG : ∀ a b, 0 ≤ G a b ∧ G a b ≤ capG) (gh : Nat) (bk : Nat → Nat) (A B : Nat) (hA : A ≤ 200) (hB : B ≤ 200) (a : Option Addr) (c : Nat) (w : World) (h : TalF w gh bk A (B + 1) G) (hr : Reads w a (ints ks)) :
    Calls Try.prog 87 #[.slice (some ⟨gh, 0, none⟩) (A + 1) (A + 1), .slice a ks.length c, .agg #[.int .i64 A, .int .i64 B], .func (.func 68) #[] #[]] w fun e w' => ∃ gh' bk', e = .returned (.slice (some ⟨gh', 0, none⟩) (A + 1) (A + 1)) ∧ TalF w' gh' bk' A (B + 1) (goalT ks false G) ∧ TalO w.heap.size gh' bk' (A + 1) ∧ Below w.heap.size w w' := by
  have HS := Lib.hid (fun x y w' (hx : x ≤ A) (hy : y < B + 1) (h : TalF w' gh bk A (B + 1) G) (hr : Reads w' a (ints ks)) => gamesTo_any ks hk hl5 G hG gh bk A (B + 1) x y hx hy hA (by omega) a c w' h hr)
  have HSB := Lib.hid (fun x y => And.intro (sumK_nonneg (ks := ks) (fun p _ => (pull2_le G hG x y p).1)) (sumK_le (ks := ks) (m := 2000000000000002) (fun p _ => (pull2_le G hG x y p).2)))
  have HM := Lib.hid (fun a b W => mayStandG_any a b W)
  have HT := Lib.hid h; clear h
  have HR := Lib.hid hr; clear hr
  have HN := Lib.hid (fun w' => newTally_any A B hA hB w')
  clear hk hG
  obtain ⟨r0, r1⟩ := two_new w (.int .i64 A) (.int .i64 B) 86
  have HB0 := Lib.hid (below_new w (.cells #[.int .i64 A, .int .i64 B] 86))
  go_enter Try.func87, Try.ntmps87
  go_wp2_with fail
  refine (HN.out _).mono ?_; rintro e w1 ⟨g2, b2, rfl, t2, o2, bb2⟩
  have hb1 : Below w.heap.size w w1 := HB0.out.trans (bb2.mono HB0.out.size)
  have hto : TalO w.heap.size g2 b2 (A + 1) := ⟨by have := o2.gh; have := HB0.out.size; omega, fun a ha => by have := o2.lo a ha; have := HB0.out.size; omega, o2.ap⟩
  have HTO := Lib.hid hto
  have H0 : Hid (TalF w1 g2 b2 A (B + 1) (partF (goalT ks false G) 0 0) ∧ Below w.heap.size w w1) := ⟨t2.congr (fun a b _ _ => by unfold partF; rw [if_neg (by omega)]), hb1⟩
  clear t2 o2 bb2 hb1 hto r0 r1 HN HB0
  go_wp2_with fail
  go_loopw [16] (fun i wr => ∃ k : Nat, i = .int .i64 k ∧ k ≤ A + 1 ∧ Hid (TalF wr g2 b2 A (B + 1) (partF (goalT ks false G) k 0) ∧ Below w.heap.size w wr)) (fun i _ => A + 1 - (intOf i).toNat)
  case atStart => exact ⟨0, rfl, Nat.zero_le _, H0⟩
  case round =>
    clear H0
    obtain ⟨k, rfl, hk, hT⟩ := hrel
    by_cases hlt : k < A + 1
    · have d1 : (k : Int) < (A : Int) + 1 := by omega
      have c1 := hT.out.1.head (a := k) (by omega)
      go_wp2_with fail
      go_loopw [24] (fun i wr => ∃ j : Nat, i = .int .i64 j ∧ j ≤ B + 1 ∧ Hid (TalF wr g2 b2 A (B + 1) (partF (goalT ks false G) k j) ∧ Below w.heap.size w wr)) (fun i _ => B + 1 - (intOf i).toNat)
      case atStart => exact ⟨0, rfl, Nat.zero_le _, hT⟩
      case round =>
        clear hT c1
        obtain ⟨j, rfl, hj, hT⟩ := hrel
        by_cases hlj : j < B + 1
        · have d2 : (j : Int) < (B : Int) + 1 := by omega
          go_wp2_with fail
          refine (HM.out _ _ _).mono ?_; rintro e w3 ⟨rfl, b3⟩
          have H3 : Hid (TalF w3 g2 b2 A (B + 1) (partF (goalT ks false G) k j) ∧ Below w.heap.size w w3) := ⟨hT.out.1.keep b3, hT.out.2.trans (b3.mono hT.out.2.size)⟩
          clear hT b3
          cases hst : stB false k j
          · have H4 : Hid (TalF w3 g2 b2 A (B + 1) (partF (goalT ks false G) k (j + 1)) ∧ Below w.heap.size w w3) := ⟨H3.out.1.congr (fun a b _ _ => partF_same (by unfold goalT; rw [hst]; simp) a b), H3.out.2⟩
            clear H3 hst
            go_wp2_with fail
            go_roundw
            case rel => exact ⟨j + 1, by go_num, by omega, H4⟩
            case measure => simp [intOf]; omega
          · have HST := Lib.hid hst; clear hst
            have hgam := HS.out k j w3.drew (by omega) hlj (HT.out.keep H3.out.2.drew) (HR.out.old H3.out.2.drew)
            obtain ⟨s0, s1⟩ := HSB.out (k : Int) (j : Int)
            have s2 : sumK (pull2 G k j) ks ≤ 10000000000000010 := by omega
            have hval : goalT ks false G k j = minO (sumK (pull2 G k j) ks) := by unfold goalT; rw [if_pos HST.out]
            have HV := Lib.hid hval; clear hval s1
            generalize sumK (pull2 G k j) ks = sm at *
            have HGM := Lib.hid hgam; clear hgam
            have hhd := H3.out.1.head (a := k) (by omega)
            have hlg : g2 < w3.heap.size := (Array.getElem?_eq_some_iff.1 H3.out.1.hd).1
            go_wp2_with fail
            refine wp_region_held_drew (S := fun w' => w'.cell? ⟨g2, k, none⟩ = some (.slice (some ⟨b2 k, 0, none⟩) (B + 1) (B + 1)) ∧ w.heap.size ≤ w'.heap.size) (by kernel_rfl) ⟨hhd, H3.out.2.size⟩ (fun hHeld => ?_)
            clear hhd
            (refine wpAnyH_take (i := 0) (v := ?_) rfl (by kernel_rfl) (by kernel_rfl) (by kernel_rfl) (fun _ _ _ h => h) (Or.inl ⟨by kernel_rfl, ?_⟩) (by assumption) ?_; rotate_left; focus (intro w hSw; (try dsimp only at hSw); go_simp; try with_reducible rfl); (try simp only [List.getElem_toArray, List.getElem_cons_succ, List.getElem_cons_zero, Act.put, List.setIfInBounds_toArray, List.set_cons_zero, List.set_cons_succ])); (refine wpAnyH_take (i := 1) (v := ?_) rfl (by kernel_rfl) (by kernel_rfl) (by kernel_rfl) (fun _ _ _ h => h) (Or.inl ⟨by kernel_rfl, ?_⟩) (by assumption) ?_; rotate_left; focus (intro w hSw; (try dsimp only at hSw); go_simp; try with_reducible rfl); (try simp only [List.getElem_toArray, List.getElem_cons_succ, List.getElem_cons_zero, Act.put, List.setIfInBounds_toArray, List.set_cons_zero, List.set_cons_succ])); (refine wpAnyH_take (i := 2) (v := ?_) rfl (by kernel_rfl) (by kernel_rfl) (by kernel_rfl) (fun _ _ _ h => h) (Or.inl ⟨by kernel_rfl, ?_⟩) (by assumption) ?_; rotate_left; focus (intro w hSw; (try dsimp only at hSw); go_simp; try with_reducible rfl); (try simp only [List.getElem_toArray, List.getElem_cons_succ, List.getElem_cons_zero, Act.put, List.setIfInBounds_toArray, List.set_cons_zero, List.set_cons_succ])); (refine wpAnyH_take (i := 3) (v := ?_) rfl (by kernel_rfl) (by kernel_rfl) (by kernel_rfl) (fun _ _ _ h => h) (Or.inl ⟨by kernel_rfl, ?_⟩) (by assumption) ?_; rotate_left; focus (intro w hSw; (try dsimp only at hSw); go_simp; try with_reducible rfl); (try simp only [List.getElem_toArray, List.getElem_cons_succ, List.getElem_cons_zero, Act.put, List.setIfInBounds_toArray, List.set_cons_zero, List.set_cons_succ])); (refine wpAnyH_take (i := 4) (v := ?_) rfl (by kernel_rfl) (by kernel_rfl) (by kernel_rfl) (fun _ _ _ h => h) (Or.inl ⟨by kernel_rfl, ?_⟩) (by assumption) ?_; rotate_left; focus (intro w hSw; (try dsimp only at hSw); go_simp; try with_reducible rfl); (try simp only [List.getElem_toArray, List.getElem_cons_succ, List.getElem_cons_zero, Act.put, List.setIfInBounds_toArray, List.set_cons_zero, List.set_cons_succ])); (refine wpAnyH_take (i := 5) (v := ?_) rfl (by kernel_rfl) (by kernel_rfl) (by kernel_rfl) (fun _ _ _ h => h) (Or.inl ⟨by kernel_rfl, ?_⟩) (by assumption) ?_; rotate_left; focus (intro w hSw; (try dsimp only at hSw); go_simp; try with_reducible rfl); (try simp only [List.getElem_toArray, List.getElem_cons_succ, List.getElem_cons_zero, Act.put, List.setIfInBounds_toArray, List.set_cons_zero, List.set_cons_succ])); (refine wpAnyH_take (i := 6) (v := ?_) rfl (by kernel_rfl) (by kernel_rfl) (by kernel_rfl) (fun _ _ _ h => h) (Or.inl ⟨by kernel_rfl, ?_⟩) (by assumption) ?_; rotate_left; focus (intro w hSw; (try dsimp only at hSw); go_simp; try with_reducible rfl); (try simp only [List.getElem_toArray, List.getElem_cons_succ, List.getElem_cons_zero, Act.put, List.setIfInBounds_toArray, List.set_cons_zero, List.set_cons_succ])); (refine wpAnyH_take (i := 7) (v := ?_) rfl (by kernel_rfl) (by kernel_rfl) (by kernel_rfl) (fun _ _ _ h => h) (Or.inl ⟨by kernel_rfl, ?_⟩) (by assumption) ?_; rotate_left; focus (intro w hSw; (try dsimp only at hSw); go_simp; try with_reducible rfl); (try simp only [List.getElem_toArray, List.getElem_cons_succ, List.getElem_cons_zero, Act.put, List.setIfInBounds_toArray, List.set_cons_zero, List.set_cons_succ])); (refine wpAnyH_take (i := 8) (v := ?_) rfl (by kernel_rfl) (by kernel_rfl) (by kernel_rfl) (fun _ _ _ h => h) (Or.inl ⟨by kernel_rfl, ?_⟩) (by assumption) ?_; rotate_left; focus (intro w hSw; (try dsimp only at hSw); go_simp; try with_reducible rfl); (try simp only [List.getElem_toArray, List.getElem_cons_succ, List.getElem_cons_zero, Act.put, List.setIfInBounds_toArray, List.set_cons_zero, List.set_cons_succ]))
            refine wpAnyH_ready (rs := [9]) (by kernel_rfl) (by simp) ?_; refine AllReadyH.cons rfl (fun K hK => ?_) AllReadyH.nil
            go_simp
            go_at_call 97
            refine HGM.out.mono ?_; rintro e w5 ⟨rfl, b5⟩
            have hT5 : TalF w5 g2 b2 A (B + 1) (partF (goalT ks false G) k j) := (show TalF w3.drew g2 b2 A (B + 1) (partF (goalT ks false G) k j) from ⟨H3.out.1.hd, H3.out.1.rows⟩).keep b5
            have hB5 : Below w.heap.size w w5 := H3.out.2.drew.trans (b5.mono H3.out.2.drew.size)
            have H5 := Lib.hid (And.intro hT5 hB5)
            have KS := Lib.hid (show w5.cell? ⟨g2, k, none⟩ = some (.slice (some ⟨b2 k, 0, none⟩) (B + 1) (B + 1)) ∧ w.heap.size ≤ w5.heap.size from ⟨hT5.head (by omega), hB5.size⟩)
            clear hT5 hB5 b5 hHeld H3 HGM
            go_wp2_with fail
            refine hK.out _ _ KS.out (fun hHeld => ?_)
            clear hK K KS
            (try simp only [List.getElem_toArray, List.getElem_cons_succ, List.getElem_cons_zero, Act.put, List.setIfInBounds_toArray, List.set_cons_zero, List.set_cons_succ])
            have hmin : (min sm 1000000000000001 : Int) = goalT ks false G k j := by rw [HV.out]; unfold minO capG; split <;> omega
            have HMN := Lib.hid hmin
            have hmin2 : (if (1000000000000001 : Int) < sm then (1000000000000001 : Int) else sm) = min sm 1000000000000001 := by split <;> omega
            rw [hmin] at hmin2
            have HMN2 := Lib.hid hmin2; clear hmin hmin2
            have c6 := H5.out.1.cell (a := k) (b := j) (by omega) hlj
            have f6 := (H5.out.1.rows k (by omega)).free j
            (refine wpAnyH_take (i := 10) (v := ?_) rfl (by kernel_rfl) (by kernel_rfl) (by kernel_rfl) (fun _ _ _ h => h) (Or.inl ⟨by kernel_rfl, ?_⟩) (by assumption) ?_; rotate_left; focus (intro w hSw; (try dsimp only at hSw); go_simp; try with_reducible rfl); (try simp only [List.getElem_toArray, List.getElem_cons_succ, List.getElem_cons_zero, Act.put, List.setIfInBounds_toArray, List.set_cons_zero, List.set_cons_succ])); (refine wpAnyH_take (i := 11) (v := ?_) rfl (by kernel_rfl) (by kernel_rfl) (by kernel_rfl) (fun _ _ _ h => h) (Or.inl ⟨by kernel_rfl, ?_⟩) (by assumption) ?_; rotate_left; focus (intro w hSw; (try dsimp only at hSw); go_simp; try with_reducible rfl); (try simp only [List.getElem_toArray, List.getElem_cons_succ, List.getElem_cons_zero, Act.put, List.setIfInBounds_toArray, List.set_cons_zero, List.set_cons_succ]))
            first | rw [HMN.out] | rw [HMN2.out]
            have HPU := Lib.hid (H5.out.1.put HTO.out (x := k) (y := j) (by omega) hlj (v := goalT ks false G k j) (H' := partF (goalT ks false G) k (j + 1)) (fun a b _ _ => partF_put _ k j a b))
            have hlo := HTO.out.lo k (by omega)
            have HPB := Lib.hid (H5.out.2.setCell (p := ⟨b2 k, j, none⟩) hlo (.int .i64 (goalT ks false G k j)))
            have KS2 := Lib.hid (show (w5.setCell ⟨b2 k, j, none⟩ (.int .i64 (goalT ks false G k j))).cell? ⟨g2, k, none⟩ = some (.slice (some ⟨b2 k, 0, none⟩) (B + 1) (B + 1)) ∧ w.heap.size ≤ (w5.setCell ⟨b2 k, j, none⟩ (.int .i64 (goalT ks false G k j))).heap.size from ⟨HPU.out.head (by omega), HPB.out.size⟩)
            generalize goalT ks false G k j = gv at *
            clear hlo
            refine wpAnyH_ready (rs := [12]) (by kernel_rfl) (by simp) ?_; refine AllReadyH.cons rfl (fun K hK => ?_) AllReadyH.nil
            go_simp
            first
              | refine hK.out _ _ KS2.out (fun hHeld => ?_)
              | refine hK _ _ KS2.out (fun hHeld => ?_)
            clear hK K KS2
            refine wpAnyH_done (by kernel_rfl) ?_ _
            clear hHeld c6 f6
            go_wp2_with fail
            go_roundw
            case rel => exact ⟨j + 1, by go_num, by omega, Lib.hid ⟨HPU.out, HPB.out⟩⟩
            case measure => simp [intOf]; omega
        · obtain rfl : j = B + 1 := by omega
          have H4 : Hid (TalF wr g2 b2 A (B + 1) (partF (goalT ks false G) (k + 1) 0) ∧ Below w.heap.size w wr) := ⟨hT.out.1.congr (fun a b _ hb => by
            unfold partF
            by_cases e2 : (a : Int) < ((k + 1 : Nat) : Int) ∨ ((a : Int) = ((k + 1 : Nat) : Int) ∧ (b : Int) < ((0 : Nat) : Int))
            · rw [if_pos e2, if_pos (by omega)]
            · rw [if_neg e2, if_neg (by omega)]), hT.out.2⟩
          clear hT
          go_wp2_with fail
          go_roundw
          case rel => exact ⟨k + 1, by go_num, by omega, H4⟩
          case measure => simp [intOf]; omega
    · obtain rfl : k = A + 1 := by omega
      have HE := Lib.hid (And.intro (hT.out.1.congr (H' := goalT ks false G) (fun a b ha hb => by unfold partF; rw [if_pos (by omega)])) (And.intro HTO.out hT.out.2)); clear hT
      go_wp2_with fail
      go_ret
      exact ⟨g2, b2, rfl, HE.out⟩

set_option maxRecDepth 8000 in
set_option maxHeartbeats 3200000 in
theorem goalOnN_any (ks : List Int) (hk : ∀ x ∈ ks, 1 ≤ x ∧ x ≤ 20) (hl5 : ks.length ≤ 5) (G : Int → Int → Int) (hG : ∀ a b, 0 ≤ G a b ∧ G a b ≤ capG) (gh : Nat) (bk : Nat → Nat) (A B : Nat) (hA : A ≤ 200) (hB : B ≤ 200) (a : Option Addr) (c : Nat) (w : World) (h : TalF w gh bk A (B + 1) G) (hr : Reads w a (ints ks)) :
    Calls Try.prog 87 #[.slice (some ⟨gh, 0, none⟩) (A + 1) (A + 1), .slice a ks.length c, .agg #[.int .i64 A, .int .i64 B], .func (.func 69) #[] #[]] w fun e w' => ∃ gh' bk', e = .returned (.slice (some ⟨gh', 0, none⟩) (A + 1) (A + 1)) ∧ TalF w' gh' bk' A (B + 1) (goalT ks true G) ∧ TalO w.heap.size gh' bk' (A + 1) ∧ Below w.heap.size w w' := by
  have HS := Lib.hid (fun x y w' (hx : x ≤ A) (hy : y < B + 1) (h : TalF w' gh bk A (B + 1) G) (hr : Reads w' a (ints ks)) => gamesTo_any ks hk hl5 G hG gh bk A (B + 1) x y hx hy hA (by omega) a c w' h hr)
  have HSB := Lib.hid (fun x y => And.intro (sumK_nonneg (ks := ks) (fun p _ => (pull2_le G hG x y p).1)) (sumK_le (ks := ks) (m := 2000000000000002) (fun p _ => (pull2_le G hG x y p).2)))
  have HM := Lib.hid (fun a b W => mayStandN_any a b W)
  have HT := Lib.hid h; clear h
  have HR := Lib.hid hr; clear hr
  have HN := Lib.hid (fun w' => newTally_any A B hA hB w')
  clear hk hG
  obtain ⟨r0, r1⟩ := two_new w (.int .i64 A) (.int .i64 B) 86
  have HB0 := Lib.hid (below_new w (.cells #[.int .i64 A, .int .i64 B] 86))
  go_enter Try.func87, Try.ntmps87
  go_wp2_with fail
  refine (HN.out _).mono ?_; rintro e w1 ⟨g2, b2, rfl, t2, o2, bb2⟩
  have hb1 : Below w.heap.size w w1 := HB0.out.trans (bb2.mono HB0.out.size)
  have hto : TalO w.heap.size g2 b2 (A + 1) := ⟨by have := o2.gh; have := HB0.out.size; omega, fun a ha => by have := o2.lo a ha; have := HB0.out.size; omega, o2.ap⟩
  have HTO := Lib.hid hto
  have H0 : Hid (TalF w1 g2 b2 A (B + 1) (partF (goalT ks true G) 0 0) ∧ Below w.heap.size w w1) := ⟨t2.congr (fun a b _ _ => by unfold partF; rw [if_neg (by omega)]), hb1⟩
  clear t2 o2 bb2 hb1 hto r0 r1 HN HB0
  go_wp2_with fail
  go_loopw [16] (fun i wr => ∃ k : Nat, i = .int .i64 k ∧ k ≤ A + 1 ∧ Hid (TalF wr g2 b2 A (B + 1) (partF (goalT ks true G) k 0) ∧ Below w.heap.size w wr)) (fun i _ => A + 1 - (intOf i).toNat)
  case atStart => exact ⟨0, rfl, Nat.zero_le _, H0⟩
  case round =>
    clear H0
    obtain ⟨k, rfl, hk, hT⟩ := hrel
    by_cases hlt : k < A + 1
    · have d1 : (k : Int) < (A : Int) + 1 := by omega
      have c1 := hT.out.1.head (a := k) (by omega)
      go_wp2_with fail
      go_loopw [24] (fun i wr => ∃ j : Nat, i = .int .i64 j ∧ j ≤ B + 1 ∧ Hid (TalF wr g2 b2 A (B + 1) (partF (goalT ks true G) k j) ∧ Below w.heap.size w wr)) (fun i _ => B + 1 - (intOf i).toNat)
      case atStart => exact ⟨0, rfl, Nat.zero_le _, hT⟩
      case round =>
        clear hT c1
        obtain ⟨j, rfl, hj, hT⟩ := hrel
        by_cases hlj : j < B + 1
        · have d2 : (j : Int) < (B : Int) + 1 := by omega
          go_wp2_with fail
          refine (HM.out _ _ _).mono ?_; rintro e w3 ⟨rfl, b3⟩
          have H3 : Hid (TalF w3 g2 b2 A (B + 1) (partF (goalT ks true G) k j) ∧ Below w.heap.size w w3) := ⟨hT.out.1.keep b3, hT.out.2.trans (b3.mono hT.out.2.size)⟩
          clear hT b3
          cases hst : stB true k j
          · have H4 : Hid (TalF w3 g2 b2 A (B + 1) (partF (goalT ks true G) k (j + 1)) ∧ Below w.heap.size w w3) := ⟨H3.out.1.congr (fun a b _ _ => partF_same (by unfold goalT; rw [hst]; simp) a b), H3.out.2⟩
            clear H3 hst
            go_wp2_with fail
            go_roundw
            case rel => exact ⟨j + 1, by go_num, by omega, H4⟩
            case measure => simp [intOf]; omega
          · have HST := Lib.hid hst; clear hst
            have hgam := HS.out k j w3.drew (by omega) hlj (HT.out.keep H3.out.2.drew) (HR.out.old H3.out.2.drew)
            obtain ⟨s0, s1⟩ := HSB.out (k : Int) (j : Int)
            have s2 : sumK (pull2 G k j) ks ≤ 10000000000000010 := by omega
            have hval : goalT ks true G k j = minO (sumK (pull2 G k j) ks) := by unfold goalT; rw [if_pos HST.out]
            have HV := Lib.hid hval; clear hval s1
            generalize sumK (pull2 G k j) ks = sm at *
            have HGM := Lib.hid hgam; clear hgam
            have hhd := H3.out.1.head (a := k) (by omega)
            have hlg : g2 < w3.heap.size := (Array.getElem?_eq_some_iff.1 H3.out.1.hd).1
            go_wp2_with fail
            refine wp_region_held_drew (S := fun w' => w'.cell? ⟨g2, k, none⟩ = some (.slice (some ⟨b2 k, 0, none⟩) (B + 1) (B + 1)) ∧ w.heap.size ≤ w'.heap.size) (by kernel_rfl) ⟨hhd, H3.out.2.size⟩ (fun hHeld => ?_)
            clear hhd
            (refine wpAnyH_take (i := 0) (v := ?_) rfl (by kernel_rfl) (by kernel_rfl) (by kernel_rfl) (fun _ _ _ h => h) (Or.inl ⟨by kernel_rfl, ?_⟩) (by assumption) ?_; rotate_left; focus (intro w hSw; (try dsimp only at hSw); go_simp; try with_reducible rfl); (try simp only [List.getElem_toArray, List.getElem_cons_succ, List.getElem_cons_zero, Act.put, List.setIfInBounds_toArray, List.set_cons_zero, List.set_cons_succ])); (refine wpAnyH_take (i := 1) (v := ?_) rfl (by kernel_rfl) (by kernel_rfl) (by kernel_rfl) (fun _ _ _ h => h) (Or.inl ⟨by kernel_rfl, ?_⟩) (by assumption) ?_; rotate_left; focus (intro w hSw; (try dsimp only at hSw); go_simp; try with_reducible rfl); (try simp only [List.getElem_toArray, List.getElem_cons_succ, List.getElem_cons_zero, Act.put, List.setIfInBounds_toArray, List.set_cons_zero, List.set_cons_succ])); (refine wpAnyH_take (i := 2) (v := ?_) rfl (by kernel_rfl) (by kernel_rfl) (by kernel_rfl) (fun _ _ _ h => h) (Or.inl ⟨by kernel_rfl, ?_⟩) (by assumption) ?_; rotate_left; focus (intro w hSw; (try dsimp only at hSw); go_simp; try with_reducible rfl); (try simp only [List.getElem_toArray, List.getElem_cons_succ, List.getElem_cons_zero, Act.put, List.setIfInBounds_toArray, List.set_cons_zero, List.set_cons_succ])); (refine wpAnyH_take (i := 3) (v := ?_) rfl (by kernel_rfl) (by kernel_rfl) (by kernel_rfl) (fun _ _ _ h => h) (Or.inl ⟨by kernel_rfl, ?_⟩) (by assumption) ?_; rotate_left; focus (intro w hSw; (try dsimp only at hSw); go_simp; try with_reducible rfl); (try simp only [List.getElem_toArray, List.getElem_cons_succ, List.getElem_cons_zero, Act.put, List.setIfInBounds_toArray, List.set_cons_zero, List.set_cons_succ])); (refine wpAnyH_take (i := 4) (v := ?_) rfl (by kernel_rfl) (by kernel_rfl) (by kernel_rfl) (fun _ _ _ h => h) (Or.inl ⟨by kernel_rfl, ?_⟩) (by assumption) ?_; rotate_left; focus (intro w hSw; (try dsimp only at hSw); go_simp; try with_reducible rfl); (try simp only [List.getElem_toArray, List.getElem_cons_succ, List.getElem_cons_zero, Act.put, List.setIfInBounds_toArray, List.set_cons_zero, List.set_cons_succ])); (refine wpAnyH_take (i := 5) (v := ?_) rfl (by kernel_rfl) (by kernel_rfl) (by kernel_rfl) (fun _ _ _ h => h) (Or.inl ⟨by kernel_rfl, ?_⟩) (by assumption) ?_; rotate_left; focus (intro w hSw; (try dsimp only at hSw); go_simp; try with_reducible rfl); (try simp only [List.getElem_toArray, List.getElem_cons_succ, List.getElem_cons_zero, Act.put, List.setIfInBounds_toArray, List.set_cons_zero, List.set_cons_succ])); (refine wpAnyH_take (i := 6) (v := ?_) rfl (by kernel_rfl) (by kernel_rfl) (by kernel_rfl) (fun _ _ _ h => h) (Or.inl ⟨by kernel_rfl, ?_⟩) (by assumption) ?_; rotate_left; focus (intro w hSw; (try dsimp only at hSw); go_simp; try with_reducible rfl); (try simp only [List.getElem_toArray, List.getElem_cons_succ, List.getElem_cons_zero, Act.put, List.setIfInBounds_toArray, List.set_cons_zero, List.set_cons_succ])); (refine wpAnyH_take (i := 7) (v := ?_) rfl (by kernel_rfl) (by kernel_rfl) (by kernel_rfl) (fun _ _ _ h => h) (Or.inl ⟨by kernel_rfl, ?_⟩) (by assumption) ?_; rotate_left; focus (intro w hSw; (try dsimp only at hSw); go_simp; try with_reducible rfl); (try simp only [List.getElem_toArray, List.getElem_cons_succ, List.getElem_cons_zero, Act.put, List.setIfInBounds_toArray, List.set_cons_zero, List.set_cons_succ])); (refine wpAnyH_take (i := 8) (v := ?_) rfl (by kernel_rfl) (by kernel_rfl) (by kernel_rfl) (fun _ _ _ h => h) (Or.inl ⟨by kernel_rfl, ?_⟩) (by assumption) ?_; rotate_left; focus (intro w hSw; (try dsimp only at hSw); go_simp; try with_reducible rfl); (try simp only [List.getElem_toArray, List.getElem_cons_succ, List.getElem_cons_zero, Act.put, List.setIfInBounds_toArray, List.set_cons_zero, List.set_cons_succ]))
            refine wpAnyH_ready (rs := [9]) (by kernel_rfl) (by simp) ?_; refine AllReadyH.cons rfl (fun K hK => ?_) AllReadyH.nil
            go_simp
            go_at_call 97
            refine HGM.out.mono ?_; rintro e w5 ⟨rfl, b5⟩
            have hT5 : TalF w5 g2 b2 A (B + 1) (partF (goalT ks true G) k j) := (show TalF w3.drew g2 b2 A (B + 1) (partF (goalT ks true G) k j) from ⟨H3.out.1.hd, H3.out.1.rows⟩).keep b5
            have hB5 : Below w.heap.size w w5 := H3.out.2.drew.trans (b5.mono H3.out.2.drew.size)
            have H5 := Lib.hid (And.intro hT5 hB5)
            have KS := Lib.hid (show w5.cell? ⟨g2, k, none⟩ = some (.slice (some ⟨b2 k, 0, none⟩) (B + 1) (B + 1)) ∧ w.heap.size ≤ w5.heap.size from ⟨hT5.head (by omega), hB5.size⟩)
            clear hT5 hB5 b5 hHeld H3 HGM
            go_wp2_with fail
            refine hK.out _ _ KS.out (fun hHeld => ?_)
            clear hK K KS
            (try simp only [List.getElem_toArray, List.getElem_cons_succ, List.getElem_cons_zero, Act.put, List.setIfInBounds_toArray, List.set_cons_zero, List.set_cons_succ])
            have hmin : (min sm 1000000000000001 : Int) = goalT ks true G k j := by rw [HV.out]; unfold minO capG; split <;> omega
            have HMN := Lib.hid hmin
            have hmin2 : (if (1000000000000001 : Int) < sm then (1000000000000001 : Int) else sm) = min sm 1000000000000001 := by split <;> omega
            rw [hmin] at hmin2
            have HMN2 := Lib.hid hmin2; clear hmin hmin2
            have c6 := H5.out.1.cell (a := k) (b := j) (by omega) hlj
            have f6 := (H5.out.1.rows k (by omega)).free j
            (refine wpAnyH_take (i := 10) (v := ?_) rfl (by kernel_rfl) (by kernel_rfl) (by kernel_rfl) (fun _ _ _ h => h) (Or.inl ⟨by kernel_rfl, ?_⟩) (by assumption) ?_; rotate_left; focus (intro w hSw; (try dsimp only at hSw); go_simp; try with_reducible rfl); (try simp only [List.getElem_toArray, List.getElem_cons_succ, List.getElem_cons_zero, Act.put, List.setIfInBounds_toArray, List.set_cons_zero, List.set_cons_succ])); (refine wpAnyH_take (i := 11) (v := ?_) rfl (by kernel_rfl) (by kernel_rfl) (by kernel_rfl) (fun _ _ _ h => h) (Or.inl ⟨by kernel_rfl, ?_⟩) (by assumption) ?_; rotate_left; focus (intro w hSw; (try dsimp only at hSw); go_simp; try with_reducible rfl); (try simp only [List.getElem_toArray, List.getElem_cons_succ, List.getElem_cons_zero, Act.put, List.setIfInBounds_toArray, List.set_cons_zero, List.set_cons_succ]))
            first | rw [HMN.out] | rw [HMN2.out]
            have HPU := Lib.hid (H5.out.1.put HTO.out (x := k) (y := j) (by omega) hlj (v := goalT ks true G k j) (H' := partF (goalT ks true G) k (j + 1)) (fun a b _ _ => partF_put _ k j a b))
            have hlo := HTO.out.lo k (by omega)
            have HPB := Lib.hid (H5.out.2.setCell (p := ⟨b2 k, j, none⟩) hlo (.int .i64 (goalT ks true G k j)))
            have KS2 := Lib.hid (show (w5.setCell ⟨b2 k, j, none⟩ (.int .i64 (goalT ks true G k j))).cell? ⟨g2, k, none⟩ = some (.slice (some ⟨b2 k, 0, none⟩) (B + 1) (B + 1)) ∧ w.heap.size ≤ (w5.setCell ⟨b2 k, j, none⟩ (.int .i64 (goalT ks true G k j))).heap.size from ⟨HPU.out.head (by omega), HPB.out.size⟩)
            generalize goalT ks true G k j = gv at *
            clear hlo
            refine wpAnyH_ready (rs := [12]) (by kernel_rfl) (by simp) ?_; refine AllReadyH.cons rfl (fun K hK => ?_) AllReadyH.nil
            go_simp
            first
              | refine hK.out _ _ KS2.out (fun hHeld => ?_)
              | refine hK _ _ KS2.out (fun hHeld => ?_)
            clear hK K KS2
            refine wpAnyH_done (by kernel_rfl) ?_ _
            clear hHeld c6 f6
            go_wp2_with fail
            go_roundw
            case rel => exact ⟨j + 1, by go_num, by omega, Lib.hid ⟨HPU.out, HPB.out⟩⟩
            case measure => simp [intOf]; omega
        · obtain rfl : j = B + 1 := by omega
          have H4 : Hid (TalF wr g2 b2 A (B + 1) (partF (goalT ks true G) (k + 1) 0) ∧ Below w.heap.size w wr) := ⟨hT.out.1.congr (fun a b _ hb => by
            unfold partF
            by_cases e2 : (a : Int) < ((k + 1 : Nat) : Int) ∨ ((a : Int) = ((k + 1 : Nat) : Int) ∧ (b : Int) < ((0 : Nat) : Int))
            · rw [if_pos e2, if_pos (by omega)]
            · rw [if_neg e2, if_neg (by omega)]), hT.out.2⟩
          clear hT
          go_wp2_with fail
          go_roundw
          case rel => exact ⟨k + 1, by go_num, by omega, H4⟩
          case measure => simp [intOf]; omega
    · obtain rfl : k = A + 1 := by omega
      have HE := Lib.hid (And.intro (hT.out.1.congr (H' := goalT ks true G) (fun a b ha hb => by unfold partF; rw [if_pos (by omega)])) (And.intro HTO.out hT.out.2)); clear hT
      go_wp2_with fail
      go_ret
      exact ⟨g2, b2, rfl, HE.out⟩
end Go.Proofs.Ytooaeafnneikkab
