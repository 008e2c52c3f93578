/-
  Leagues: the points that two teams have got against each other: both sides.
-/
import Derived.Test.YtpfphjfpaoiicaaLgRing
namespace Go.Proofs.Ytpfphjfpaoiicaa
open Go.RowKit
set_option linter.unusedVariables false
set_option linter.unusedSimpArgs false

set_option maxHeartbeats 1600000 in
theorem against1_any (o p q b : Int) (t wn : Int) (lv : Value) (gb gl : Nat) (w : World) (cb : IntAt w gb b) (cl : ObAt w gl 29 #[.int .i64 t, .int .i64 wn, lv]) :
    Calls Try.prog 117 #[.agg #[.int .i64 o, .int .i64 p, .int .i64 q], .pointer (some ⟨gb, 0, none⟩), .pointer (some ⟨gl, 0, none⟩)] w fun e w' => e = .returned (.int .i64 (dirG wn b (o, p, q))) ∧ Below w.heap.size w w' := by
  have hb := Below.ofNew (w := w) (.cells #[.int .i64 o, .int .i64 p, .int .i64 q] 85)
  have c1 := (cb.keep hb).2
  have c2 := (cl.keep hb).cell 1
  have HB := Lib.hid hb; clear hb cb cl
  have hp : dirG wn b (o, p, q) = if o = b then ptsG wn (o, p, q) else 0 := rfl
  rw [hp]; clear hp
  by_cases e1 : o = b
  · have q1 : (o != b) = false := by simp [e1]
    rw [if_pos e1]; clear e1
    go_enter Try.func117, Try.ntmps117
    go_wp2_with fail
    refine (points_any _ _ _ _ _).mono ?_; rintro e w1 ⟨rfl, b1⟩
    have HB1 := Lib.hid (HB.out.trans (b1.mono HB.out.size)); clear b1
    go_wp2_with fail
    go_ret
    exact ⟨rfl, HB1.out⟩
  · have q1 : (o != b) = true := by rw [bne_iff_ne]; exact e1
    rw [if_neg e1]; clear e1
    go_enter Try.func117, Try.ntmps117
    go_wp2
    go_ret
    exact ⟨rfl, HB.out⟩

set_option maxHeartbeats 1600000 in
theorem sumGm_any (gs : List Gm) (h56 : gs.length ≤ 56) (ad : Option Addr) (c : Nat) (b t wn : Int) (hw : 2 ≤ wn ∧ wn ≤ 3) (lv : Value) (gb gl : Nat) (w : World) (hr : Reads w ad (gmc gs)) (cb : IntAt w gb b) (cl : ObAt w gl 29 #[.int .i64 t, .int .i64 wn, lv]) :
    Calls Try.prog 116 #[.slice ad gs.length c, .func (.func 117) #[] #[.pointer (some ⟨gb, 0, none⟩), .pointer (some ⟨gl, 0, none⟩)]] w fun e w' => e = .returned (.int .i64 (dirL wn b gs)) ∧ Below w.heap.size w w' := by
  have HC := Lib.hid (And.intro hr (And.intro cb cl)); clear hr cb cl
  go_enter Try.func116, Try.ntmps116
  go_wp2_with fail
  go_loopw [5, 10] (fun q i wr => ∃ (k : Nat) (m : Int), i = .int .i64 k ∧ k ≤ gs.length ∧ q = .int .i64 m ∧ 0 ≤ m ∧ m ≤ 3 * k ∧ Hid (m = dirL wn b (gs.take k) ∧ Below w.heap.size w wr)) (fun _ i _ => gs.length - (intOf i).toNat)
  case atStart => exact ⟨0, 0, rfl, Nat.zero_le _, rfl, by omega, by omega, rfl, Below.refl _ _⟩
  case round =>
    obtain ⟨k, m, rfl, hk, rfl, m0, m1, hH⟩ := hrel
    by_cases hlt : k < gs.length
    · have b1 : (k : Int) < (gs.length : Int) := by omega
      obtain ⟨bb, off, ha, _, hc⟩ := gcells_of_reads (HC.out.1.old hH.out.2) (by omega)
      subst ha
      obtain ⟨c0, c1, c2⟩ := hc k hlt
      clear hc
      have hs := dirL_snoc wn b (gs.take k) (gs.getD k zG)
      rw [← gtake_snoc gs k hlt, ← hH.out.1] at hs
      have HS := Lib.hid hs; clear hs
      have hpg := ptsG_bd (wn := wn) hw (gs.getD k zG)
      have hdb : 0 ≤ dirG wn b (gs.getD k zG) ∧ dirG wn b (gs.getD k zG) ≤ 3 := by unfold dirG; split <;> omega
      clear hpg
      have hb2 := hH.out.2
      generalize gs.getD k zG = g at *
      obtain ⟨x, y, z⟩ := g
      simp only at c0 c1 c2
      have hb3 := hb2.alloc hb2.size (.cells #[.int .i64 x, .int .i64 y, .int .i64 z] 85)
      have hcall := against1_any x y z b t wn lv gb gl _ (HC.out.2.1.keep hb3) (HC.out.2.2.keep hb3)
      have HCL := Lib.hid (And.intro hcall hb3); clear hcall hb3 hb2 hH
      generalize dirG wn b (x, y, z) = d at *
      go_wp2_with fail
      refine HCL.out.1.mono ?_; rintro e w2 ⟨rfl, b2⟩
      have HB := Lib.hid (HCL.out.2.trans (b2.mono HCL.out.2.size)); clear b2 c0 c1 c2 HCL
      go_wp2_with fail
      go_roundw
      case rel => exact ⟨k + 1, m + d, by go_num, by omega, rfl, by omega, by omega, Lib.hid ⟨HS.out.symm, HB.out⟩⟩
      case measure => simp [intOf]; omega
    · obtain rfl : k = gs.length := by omega
      have hn := hH.out
      rw [List.take_length] at hn
      have HN := Lib.hid hn; clear hn
      go_wp2
      go_ret
      exact ⟨ret_int HN.out.1, HN.out.2⟩

set_option maxHeartbeats 1600000 in
theorem against_any (t wn : Int) (l : List Rs) (hgd : goodL t wn l = true) (ad : Option Addr) (c : Nat) (a b : Int) (w : World) (hr : Reads w ad (ress l)) :
    Calls Try.prog 94 #[.agg #[.int .i64 t, .int .i64 wn, .slice ad l.length c], .int .i64 a, .int .i64 b] w fun e w' => e = .returned (.int .i64 (dirL wn b (gamesL l a))) ∧ Below w.heap.size w w' := by
  obtain ⟨-, -, hw2, hw3, h56⟩ := goodL_bd hgd
  have hb1 := Below.ofNew (w := w) (.cells #[.int .i64 t, .int .i64 wn, .slice ad l.length c] 29)
  have hb2 := hb1.alloc hb1.size (.cells #[.int .i64 b] 3)
  have a1 := (ObAt.new w 29 #[.int .i64 t, .int .i64 wn, .slice ad l.length c]).old (.cells #[.int .i64 b] 3)
  have a2 := ObAt.new (w.alloc (.cells #[.int .i64 t, .int .i64 wn, .slice ad l.length c] 29)) 3 #[.int .i64 b]
  rw [World.size_alloc] at a2
  have i2 : IntAt _ _ b := ⟨a2.lt, a2.cell 0⟩
  have HI := Lib.hid (And.intro i2 a1)
  have HGM := Lib.hid (gamesOfTeam_any t wn l ad c a _ (by omega) (hr.old hb2))
  have HB := Lib.hid hb2
  have hgl := gamesL_len l a
  clear hb1 hb2 a2 a1 i2 hr hgd
  go_enter Try.func94, Try.ntmps94
  go_wp2_with fail
  refine HGM.out.mono ?_; rintro e w2 ⟨v, rfl, hown, b2⟩
  obtain ⟨a2, c2, rfl, hrd, -, -, -⟩ := Reads.own hown
  have HCT := Lib.hid (sumGm_any (gamesL l a) (by omega) a2 c2 b t wn ⟨hw2, hw3⟩ _ _ _ w2 hrd (HI.out.1.keep b2) (HI.out.2.keep b2))
  have HB2 := Lib.hid (HB.out.trans (b2.mono HB.out.size))
  clear hown b2 hrd HGM HI HB
  go_wp2_with fail
  refine HCT.out.mono ?_; rintro e w3 ⟨rfl, b3⟩
  have HB3 := Lib.hid (HB2.out.trans (b3.mono HB2.out.size)); clear b3
  go_wp2_with fail
  go_ret
  exact ⟨rfl, HB3.out⟩

def dirB (t wn : Int) (l : List Rs) (a b : Int) : Bool := teamL t wn l a && (teamL t wn l b && !decide (a = b))
def dirV (t wn : Int) (l : List Rs) (a b : Int) : Int := if dirB t wn l a b then dirL wn b (gamesL l a) else 0

def dirV' (t wn : Int) (l : List Rs) (a b : Int) : Int := if dirB t wn l a b then dirL wn a (gamesL l b) else 0
/-- The league in its block. -/
def BoxS (w : World) (t wn : Int) (lv : Value) (Y : World) : Prop := ObAt Y w.heap.size 29 #[.int .i64 t, .int .i64 wn, lv] ∧ Below w.heap.size w Y
theorem BoxS.keep {w : World} {t wn : Int} {lv : Value} {Y Z : World} (h : BoxS w t wn lv Y) (hb : Below Y.heap.size Y Z) : BoxS w t wn lv Z := ⟨h.1.keep hb, h.2.trans (hb.mono h.2.size)⟩
theorem BoxS.full {w : World} {t wn : Int} {lv : Value} {Y : World} (h : BoxS w t wn lv Y) : Y.cell? ⟨w.heap.size, 0, none⟩ = some (.int .i64 t) ∧ Y.cell? ⟨w.heap.size, 1, none⟩ = some (.int .i64 wn) ∧ Y.cell? ⟨w.heap.size, 2, none⟩ = some lv ∧ BoxS w t wn lv Y :=
  ⟨h.1.cell 0, h.1.cell 1, h.1.cell 2, h⟩
theorem BoxS.new (w : World) (t wn : Int) (lv : Value) : BoxS w t wn lv (w.alloc (.cells #[.int .i64 t, .int .i64 wn, lv] 29)) := ⟨ObAt.new _ _ _, Below.ofNew _⟩
theorem BoxS.drew {w : World} {t wn : Int} {lv : Value} {Y : World} (h : BoxS w t wn lv Y) : BoxS w t wn lv Y.drew := h.keep (Below.drew (Below.refl _ _))

set_option maxHeartbeats 3200000 in
set_option maxRecDepth 100000 in
theorem implDir_any (t wn : Int) (l : List Rs) (ad : Option Addr) (c : Nat) (a b : Int) (w : World) (hl : (l.length : Int) ≤ 1000000000000) (hlc : l.length ≤ c) (hr : Reads w ad (ress l)) :
    Calls Try.prog 51 #[.agg #[.int .i64 t, .int .i64 wn, .slice ad l.length c], .int .i64 a, .int .i64 b] w fun e w' => e = .returned (.tuple #[.int .i64 (dirV t wn l a b), .int .i64 (dirV' t wn l a b), .bool (dirB t wn l a b)]) ∧ Below w.heap.size w w' := by
  have H0 := Lib.hid (BoxS.new w t wn (.slice ad l.length c))
  have HG := Lib.hid (fun x W (hb : Below w.heap.size w W) => isTeamOf_any t wn l ad c x W hl hlc (hr.old hb))
  have HR := Lib.hid hr; clear hr
  cases ga : teamL t wn l a
  · have hv : dirB t wn l a b = false := by unfold dirB; rw [ga]; rfl
    have hv1 : dirV t wn l a b = 0 := by unfold dirV; rw [hv]; rfl
    have hv2 : dirV' t wn l a b = 0 := by unfold dirV'; rw [hv]; rfl
    rw [hv, hv1, hv2]; clear hv hv1 hv2
    have GA := Lib.hid ga; clear ga
    go_enter Try.func51, Try.ntmps51
    go_wp2_with fail
    refine (HG.out _ _ H0.out.2).mono ?_; rintro e w1 ⟨rfl, b1⟩
    rw [GA.out]
    have H1 := Lib.hid (H0.out.keep b1); clear b1 H0
    go_wp2_with fail
    refine bodyPost_ret (v := .tuple #[.int .i64 0, .int .i64 0, .bool false]) (by simp [results, Try.results51, go_sem]) rfl ⟨rfl, H1.out.2⟩
  cases gb : teamL t wn l b
  · have hv : dirB t wn l a b = false := by unfold dirB; rw [ga, gb]; rfl
    have hv1 : dirV t wn l a b = 0 := by unfold dirV; rw [hv]; rfl
    have hv2 : dirV' t wn l a b = 0 := by unfold dirV'; rw [hv]; rfl
    rw [hv, hv1, hv2]; clear hv hv1 hv2
    have GA := Lib.hid ga; clear ga
    have GB := Lib.hid gb; clear gb
    go_enter Try.func51, Try.ntmps51
    go_wp2_with fail
    refine (HG.out _ _ H0.out.2).mono ?_; rintro e w1 ⟨rfl, b1⟩
    rw [GA.out]
    have H1 := Lib.hid (H0.out.keep b1); clear b1 H0
    obtain ⟨p0, p1, p2, -⟩ := H1.out.full
    go_wp2_with fail
    refine (HG.out _ _ H1.out.2).mono ?_; rintro e w2 ⟨rfl, b2⟩
    rw [GB.out]
    have H2 := Lib.hid (H1.out.keep b2); clear b2 H1 p0 p1 p2
    go_wp2_with fail
    refine bodyPost_ret (v := .tuple #[.int .i64 0, .int .i64 0, .bool false]) (by simp [results, Try.results51, go_sem]) rfl ⟨rfl, H2.out.2⟩
  by_cases hab : a = b
  · have hv : dirB t wn l a b = false := by unfold dirB; rw [ga, gb]; simp [hab]
    have hv1 : dirV t wn l a b = 0 := by unfold dirV; rw [hv]; rfl
    have hv2 : dirV' t wn l a b = 0 := by unfold dirV'; rw [hv]; rfl
    rw [hv, hv1, hv2]; clear hv hv1 hv2
    have GA := Lib.hid ga; clear ga
    have GB := Lib.hid gb; clear gb
    have qab : (a == b) = true := by simp [hab]
    clear hab
    go_enter Try.func51, Try.ntmps51
    go_wp2_with fail
    refine (HG.out _ _ H0.out.2).mono ?_; rintro e w1 ⟨rfl, b1⟩
    rw [GA.out]
    have H1 := Lib.hid (H0.out.keep b1); clear b1 H0
    obtain ⟨p0, p1, p2, -⟩ := H1.out.full
    go_wp2_with fail
    refine (HG.out _ _ H1.out.2).mono ?_; rintro e w2 ⟨rfl, b2⟩
    rw [GB.out]
    have H2 := Lib.hid (H1.out.keep b2); clear b2 H1 p0 p1 p2
    go_wp2_with fail
    refine bodyPost_ret (v := .tuple #[.int .i64 0, .int .i64 0, .bool false]) (by simp [results, Try.results51, go_sem]) rfl ⟨rfl, H2.out.2⟩
  have hv : dirB t wn l a b = true := by unfold dirB; rw [ga, gb]; simp [hab]
  have hv1 : dirV t wn l a b = dirL wn b (gamesL l a) := by unfold dirV; rw [hv]; rfl
  have hv2 : dirV' t wn l a b = dirL wn a (gamesL l b) := by unfold dirV'; rw [hv]; rfl
  rw [hv, hv1, hv2]; clear hv hv1 hv2
  obtain ⟨hgd, a0, a1⟩ := teamL_good ga
  obtain ⟨-, b0, b1⟩ := teamL_good gb
  obtain ⟨t2, t8, hw2, hw3, h56⟩ := goodL_bd hgd
  have GA := Lib.hid ga; clear ga
  have GB := Lib.hid gb; clear gb
  have qab : (a == b) = false := by simp [hab]
  have HP := Lib.hid (fun x y W (hb : Below w.heap.size w W) => against_any t wn l hgd ad c x y W (HR.out.old hb))
  clear hgd hab
  go_enter Try.func51, Try.ntmps51
  go_wp2_with fail
  refine (HG.out _ _ H0.out.2).mono ?_; rintro e w1 ⟨rfl, b1'⟩
  rw [GA.out]
  have H1 := Lib.hid (H0.out.keep b1'); clear b1' H0
  obtain ⟨p0, p1, p2, -⟩ := H1.out.full
  go_wp2_with fail
  refine (HG.out _ _ H1.out.2).mono ?_; rintro e w2 ⟨rfl, b2'⟩
  rw [GB.out]
  have H2 := Lib.hid (H1.out.keep b2'); clear b2' H1 p0 p1 p2 HG
  have H2d := Lib.hid H2.out.drew
  obtain ⟨p0, p1, p2, -⟩ := H2.out.full
  go_wp2_with fail
  clear p0 p1 p2
  refine wp_region_held_drew (S := fun w' => w'.cell? ⟨w.heap.size, 0, none⟩ = some (.int .i64 t) ∧ w'.cell? ⟨w.heap.size, 1, none⟩ = some (.int .i64 wn) ∧ w'.cell? ⟨w.heap.size, 2, none⟩ = some (.slice ad l.length c) ∧ BoxS w t wn (.slice ad l.length c) w') (by kernel_rfl) H2d.out.full (fun hHeld => ?_)
  (refine wpAnyH_take (i := 0) (v := ?_) rfl (by kernel_rfl) (by kernel_rfl) (by kernel_rfl) (fun _ _ _ h => h) (Or.inl ⟨by kernel_rfl, ?_⟩) (by assumption) ?_; rotate_left; focus (intro w hSw; (try dsimp only at hSw); go_simp; try with_reducible rfl); (try simp only [List.getElem_toArray, List.getElem_cons_succ, List.getElem_cons_zero, Act.put, List.setIfInBounds_toArray, List.set_cons_zero, List.set_cons_succ])); (refine wpAnyH_take (i := 1) (v := ?_) rfl (by kernel_rfl) (by kernel_rfl) (by kernel_rfl) (fun _ _ _ h => h) (Or.inl ⟨by kernel_rfl, ?_⟩) (by assumption) ?_; rotate_left; focus (intro w hSw; (try dsimp only at hSw); go_simp; try with_reducible rfl); (try simp only [List.getElem_toArray, List.getElem_cons_succ, List.getElem_cons_zero, Act.put, List.setIfInBounds_toArray, List.set_cons_zero, List.set_cons_succ])); (refine wpAnyH_take (i := 2) (v := ?_) rfl (by kernel_rfl) (by kernel_rfl) (by kernel_rfl) (fun _ _ _ h => h) (Or.inl ⟨by kernel_rfl, ?_⟩) (by assumption) ?_; rotate_left; focus (intro w hSw; (try dsimp only at hSw); go_simp; try with_reducible rfl); (try simp only [List.getElem_toArray, List.getElem_cons_succ, List.getElem_cons_zero, Act.put, List.setIfInBounds_toArray, List.set_cons_zero, List.set_cons_succ])); (refine wpAnyH_take (i := 4) (v := ?_) rfl (by kernel_rfl) (by kernel_rfl) (by kernel_rfl) (fun _ _ _ h => h) (Or.inl ⟨by kernel_rfl, ?_⟩) (by assumption) ?_; rotate_left; focus (intro w hSw; (try dsimp only at hSw); go_simp; try with_reducible rfl); (try simp only [List.getElem_toArray, List.getElem_cons_succ, List.getElem_cons_zero, Act.put, List.setIfInBounds_toArray, List.set_cons_zero, List.set_cons_succ])); (refine wpAnyH_take (i := 5) (v := ?_) rfl (by kernel_rfl) (by kernel_rfl) (by kernel_rfl) (fun _ _ _ h => h) (Or.inl ⟨by kernel_rfl, ?_⟩) (by assumption) ?_; rotate_left; focus (intro w hSw; (try dsimp only at hSw); go_simp; try with_reducible rfl); (try simp only [List.getElem_toArray, List.getElem_cons_succ, List.getElem_cons_zero, Act.put, List.setIfInBounds_toArray, List.set_cons_zero, List.set_cons_succ])); (refine wpAnyH_take (i := 6) (v := ?_) rfl (by kernel_rfl) (by kernel_rfl) (by kernel_rfl) (fun _ _ _ h => h) (Or.inl ⟨by kernel_rfl, ?_⟩) (by assumption) ?_; rotate_left; focus (intro w hSw; (try dsimp only at hSw); go_simp; try with_reducible rfl); (try simp only [List.getElem_toArray, List.getElem_cons_succ, List.getElem_cons_zero, Act.put, List.setIfInBounds_toArray, List.set_cons_zero, List.set_cons_succ]))
  refine wpAnyH_ready (rs := [3]) (by kernel_rfl) (by simp) ?_; refine AllReadyH.cons rfl (fun K hK => ?_) AllReadyH.nil
  go_simp
  go_at_call 94
  refine (HP.out _ _ _ H2d.out.2).mono ?_; rintro e w5 ⟨rfl, b5⟩
  have H3 := Lib.hid (H2d.out.keep b5); clear b5 H2d H2 hHeld
  go_wp2_with fail
  first
    | refine hK.out _ _ H3.out.full (fun hHeld => ?_)
    | refine hK _ _ H3.out.full (fun hHeld => ?_)
  clear hK K
  (try simp only [List.getElem_toArray, List.getElem_cons_succ, List.getElem_cons_zero, Act.put, List.setIfInBounds_toArray, List.set_cons_zero, List.set_cons_succ])
  refine wpAnyH_ready (rs := [7]) (by kernel_rfl) (by simp) ?_; refine AllReadyH.cons rfl (fun K hK => ?_) AllReadyH.nil
  go_simp
  go_at_call 94
  refine (HP.out _ _ _ H3.out.2).mono ?_; rintro e w6 ⟨rfl, b6⟩
  have H4 := Lib.hid (H3.out.keep b6); clear b6 H3 hHeld
  go_wp2_with fail
  first
    | refine hK.out _ _ H4.out.full (fun hHeld => ?_)
    | refine hK _ _ H4.out.full (fun hHeld => ?_)
  clear hK K
  (try simp only [List.getElem_toArray, List.getElem_cons_succ, List.getElem_cons_zero, Act.put, List.setIfInBounds_toArray, List.set_cons_zero, List.set_cons_succ])
  (refine wpAnyH_take (i := 8) (v := ?_) rfl (by kernel_rfl) (by kernel_rfl) (by kernel_rfl) (fun _ _ _ h => h) (Or.inl ⟨by kernel_rfl, ?_⟩) (by assumption) ?_; rotate_left; focus (intro w hSw; (try dsimp only at hSw); go_simp; try with_reducible rfl); (try simp only [List.getElem_toArray, List.getElem_cons_succ, List.getElem_cons_zero, Act.put, List.setIfInBounds_toArray, List.set_cons_zero, List.set_cons_succ])); (refine wpAnyH_take (i := 9) (v := ?_) rfl (by kernel_rfl) (by kernel_rfl) (by kernel_rfl) (fun _ _ _ h => h) (Or.inl ⟨by kernel_rfl, ?_⟩) (by assumption) ?_; rotate_left; focus (intro w hSw; (try dsimp only at hSw); go_simp; try with_reducible rfl); (try simp only [List.getElem_toArray, List.getElem_cons_succ, List.getElem_cons_zero, Act.put, List.setIfInBounds_toArray, List.set_cons_zero, List.set_cons_succ])); (refine wpAnyH_take (i := 10) (v := ?_) rfl (by kernel_rfl) (by kernel_rfl) (by kernel_rfl) (fun _ _ _ h => h) (Or.inl ⟨by kernel_rfl, ?_⟩) (by assumption) ?_; rotate_left; focus (intro w hSw; (try dsimp only at hSw); go_simp; try with_reducible rfl); (try simp only [List.getElem_toArray, List.getElem_cons_succ, List.getElem_cons_zero, Act.put, List.setIfInBounds_toArray, List.set_cons_zero, List.set_cons_succ]))
  refine wpAnyH_done (by kernel_rfl) ?_ _
  clear hHeld
  go_wp2_with fail
  refine bodyPost_ret (v := .tuple #[.int .i64 (dirL wn b (gamesL l a)), .int .i64 (dirL wn a (gamesL l b)), .bool true]) (by simp [results, Try.results51, go_sem]) rfl ⟨rfl, H4.out.2⟩

/-- The row that the model keeps. -/
def dirF (wn a b : Int) (l : List Rs) (i : Int) : Int := if i = a then dirL wn b (gamesL l a) else if i = b then dirL wn a (gamesL l b) else 0
theorem dirF_bd {wn : Int} (hw : 2 ≤ wn ∧ wn ≤ 3) (a b : Int) (l : List Rs) (h : l.length ≤ 56) (i : Int) : 0 ≤ dirF wn a b l i ∧ dirF wn a b l i ≤ 100000 := by
  have h1 := dirL_bd hw b (gamesL l a)
  have h2 := dirL_bd hw a (gamesL l b)
  have h3 := gamesL_len l a
  have h4 := gamesL_len l b
  unfold dirF
  split
  · omega
  · split <;> omega
theorem dirF_snoc {t wn : Int} (l : List Rs) (k : Nat) (hk : k < l.length) (hg : goodR t (l.getD k zR) = true) (a b : Int) (hab : a ≠ b) (i : Int) :
    dirF wn a b (l.take (k + 1)) i = dirF wn a b (l.take k) i + if ((l.getD k zR).1 = a ∧ (l.getD k zR).2.1 = b) ∨ ((l.getD k zR).1 = b ∧ (l.getD k zR).2.1 = a) then addG wn (l.getD k zR).1 (l.getD k zR).2.1 ((l.getD k zR).2.2.1 - (l.getD k zR).2.2.2) i else 0 := by
  unfold dirF
  by_cases e1 : i = a
  · rw [if_pos e1, if_pos e1, dir_step l k hk hg a b hab, e1]
  · rw [if_neg e1, if_neg e1]
    by_cases e2 : i = b
    · rw [if_pos e2, if_pos e2, dir_step l k hk hg b a (fun e => hab e.symm), e2]
      congr 1
      by_cases c : ((l.getD k zR).1 = a ∧ (l.getD k zR).2.1 = b) ∨ ((l.getD k zR).1 = b ∧ (l.getD k zR).2.1 = a)
      · rw [if_pos c, if_pos c.symm]
      · rw [if_neg c, if_neg (fun h => c h.symm)]
    · rw [if_neg e2, if_neg e2]
      have : (if ((l.getD k zR).1 = a ∧ (l.getD k zR).2.1 = b) ∨ ((l.getD k zR).1 = b ∧ (l.getD k zR).2.1 = a) then addG wn (l.getD k zR).1 (l.getD k zR).2.1 ((l.getD k zR).2.2.1 - (l.getD k zR).2.2.2) i else 0) = 0 := by
        split
        · rename_i c
          unfold addG
          rcases c with ⟨c1, c2⟩ | ⟨c1, c2⟩
          · rw [if_neg (by omega), if_neg (by omega)]
          · rw [if_neg (by omega), if_neg (by omega)]
        · rfl
      rw [this]; rfl

set_option maxHeartbeats 3200000 in
set_option maxRecDepth 100000 in
theorem specDir_any (t wn : Int) (l : List Rs) (ad : Option Addr) (c : Nat) (a b : Int) (w : World) (hl : (l.length : Int) ≤ 1000000000000) (hlc : l.length ≤ c) (hr : Reads w ad (ress l)) :
    Calls Try.prog 50 #[.agg #[.int .i64 t, .int .i64 wn, .slice ad l.length c], .int .i64 a, .int .i64 b] w fun e w' => e = .returned (.tuple #[.int .i64 (dirV t wn l a b), .int .i64 (dirV' t wn l a b), .bool (dirB t wn l a b)]) ∧ Below w.heap.size w w' := by
  have H0 := Lib.hid (BoxS.new w t wn (.slice ad l.length c))
  have HG := Lib.hid (fun x W (hb : Below w.heap.size w W) => lgTeam_any t wn l ad c x W hl hlc (hr.old hb))
  have HR := Lib.hid hr; clear hr
  cases ga : teamL t wn l a
  · have hv : dirB t wn l a b = false := by unfold dirB; rw [ga]; rfl
    have hv1 : dirV t wn l a b = 0 := by unfold dirV; rw [hv]; rfl
    have hv2 : dirV' t wn l a b = 0 := by unfold dirV'; rw [hv]; rfl
    rw [hv, hv1, hv2]; clear hv hv1 hv2
    have GA := Lib.hid ga; clear ga
    go_enter Try.func50, Try.ntmps50
    go_wp2_with fail
    refine (HG.out _ _ H0.out.2).mono ?_; rintro e w1 ⟨rfl, b1⟩
    rw [GA.out]
    have H1 := Lib.hid (H0.out.keep b1); clear b1 H0
    go_wp2_with fail
    refine bodyPost_ret (v := .tuple #[.int .i64 0, .int .i64 0, .bool false]) (by simp [results, Try.results50, go_sem]) rfl ⟨rfl, H1.out.2⟩
  cases gb : teamL t wn l b
  · have hv : dirB t wn l a b = false := by unfold dirB; rw [ga, gb]; rfl
    have hv1 : dirV t wn l a b = 0 := by unfold dirV; rw [hv]; rfl
    have hv2 : dirV' t wn l a b = 0 := by unfold dirV'; rw [hv]; rfl
    rw [hv, hv1, hv2]; clear hv hv1 hv2
    have GA := Lib.hid ga; clear ga
    have GB := Lib.hid gb; clear gb
    go_enter Try.func50, Try.ntmps50
    go_wp2_with fail
    refine (HG.out _ _ H0.out.2).mono ?_; rintro e w1 ⟨rfl, b1⟩
    rw [GA.out]
    have H1 := Lib.hid (H0.out.keep b1); clear b1 H0
    obtain ⟨p0, p1, p2, -⟩ := H1.out.full
    go_wp2_with fail
    refine (HG.out _ _ H1.out.2).mono ?_; rintro e w2 ⟨rfl, b2⟩
    rw [GB.out]
    have H2 := Lib.hid (H1.out.keep b2); clear b2 H1 p0 p1 p2
    go_wp2_with fail
    refine bodyPost_ret (v := .tuple #[.int .i64 0, .int .i64 0, .bool false]) (by simp [results, Try.results50, go_sem]) rfl ⟨rfl, H2.out.2⟩
  by_cases hab : a = b
  · have hv : dirB t wn l a b = false := by unfold dirB; rw [ga, gb]; simp [hab]
    have hv1 : dirV t wn l a b = 0 := by unfold dirV; rw [hv]; rfl
    have hv2 : dirV' t wn l a b = 0 := by unfold dirV'; rw [hv]; rfl
    rw [hv, hv1, hv2]; clear hv hv1 hv2
    have GA := Lib.hid ga; clear ga
    have GB := Lib.hid gb; clear gb
    have qab : (a == b) = true := by simp [hab]
    clear hab
    go_enter Try.func50, Try.ntmps50
    go_wp2_with fail
    refine (HG.out _ _ H0.out.2).mono ?_; rintro e w1 ⟨rfl, b1⟩
    rw [GA.out]
    have H1 := Lib.hid (H0.out.keep b1); clear b1 H0
    obtain ⟨p0, p1, p2, -⟩ := H1.out.full
    go_wp2_with fail
    refine (HG.out _ _ H1.out.2).mono ?_; rintro e w2 ⟨rfl, b2⟩
    rw [GB.out]
    have H2 := Lib.hid (H1.out.keep b2); clear b2 H1 p0 p1 p2
    go_wp2_with fail
    refine bodyPost_ret (v := .tuple #[.int .i64 0, .int .i64 0, .bool false]) (by simp [results, Try.results50, go_sem]) rfl ⟨rfl, H2.out.2⟩
  have hv : dirB t wn l a b = true := by unfold dirB; rw [ga, gb]; simp [hab]
  have hv1 : dirV t wn l a b = dirL wn b (gamesL l a) := by unfold dirV; rw [hv]; rfl
  have hv2 : dirV' t wn l a b = dirL wn a (gamesL l b) := by unfold dirV'; rw [hv]; rfl
  rw [hv, hv1, hv2]; clear hv hv1 hv2
  obtain ⟨hgd, a0, a1⟩ := teamL_good ga
  obtain ⟨-, b0, b1⟩ := teamL_good gb
  obtain ⟨t2, t8, hw2, hw3, h56⟩ := goodL_bd hgd
  have GA := Lib.hid ga; clear ga
  have GB := Lib.hid gb; clear gb
  have qab : (a == b) = false := by simp [hab]
  obtain ⟨T, rfl⟩ : ∃ T : Nat, t = T := ⟨t.toNat, by omega⟩
  obtain ⟨A, rfl⟩ : ∃ A : Nat, a = A := ⟨a.toNat, by omega⟩
  obtain ⟨B, rfl⟩ : ∃ B : Nat, b = B := ⟨b.toNat, by omega⟩
  obtain ⟨i0, hi, hz0, hz1, hz2⟩ := info_parts infoInt
  have HI := Lib.hid (And.intro hi (And.intro hz0 (And.intro hz1 hz2))); clear hi hz0 hz1 hz2
  have HGD := Lib.hid (goodL_get hgd); clear hgd
  have HAB := Lib.hid hab; clear hab
  have hT8 : T ≤ 8 := by omega
  go_enter Try.func50, Try.ntmps50
  go_wp2_with fail
  refine (HG.out _ _ H0.out.2).mono ?_; rintro e w1 ⟨rfl, b1'⟩
  rw [GA.out]
  have H1 := Lib.hid (H0.out.keep b1'); clear b1' H0
  obtain ⟨p0, p1, p2, -⟩ := H1.out.full
  go_wp2_with fail
  refine (HG.out _ _ H1.out.2).mono ?_; rintro e w2 ⟨rfl, b2'⟩
  rw [GB.out]
  have H2 := Lib.hid (H1.out.keep b2'); clear b2' H1 p0 p1 p2 HG
  obtain ⟨p0, p1, p2, -⟩ := H2.out.full
  go_wp2_with (at_make; refine wpList_make_full _ rfl _ _ _ rfl w2.heap.size _ i0 _ 1 Try.underlying33 HI.out.1 HI.out.2.1 HI.out.2.2.1 .i64 .i64 _ _ T rfl rfl rfl rfl ?_ ?_ (Nat.le_refl _) ?_)
  · rw [HI.out.2.2.2]; omega
  · unfold maxLen; omega
  intro w3 hown hgrow
  have hrow := (RowAt.made (e := 3) hown).1
  rw [rowF_zero] at hrow
  have hbA : Below w2.heap.size w2 w3 := (Below.refl _ _).grown hgrow (Nat.le_refl _) (fun k hk => by cases hk)
  obtain ⟨g, hg⟩ : ∃ g, g = w2.heap.size := ⟨_, rfl⟩
  have hgw : w.heap.size < g := by rw [hg]; exact H2.out.1.lt
  have H3 : Hid (RowAt w3 g 3 (rowF T (dirF wn A B (l.take 0))) ∧ BoxS w T wn (.slice ad l.length c) w3) := ⟨by
    rw [hg, rowF_congr (g := fun _ => 0) (fun i _ _ => by unfold dirF; simp [gamesL, dirL])]; exact hrow, H2.out.keep hbA⟩
  clear hown hgrow hrow hbA H2 p0 p1 p2
  rw [← hg]
  clear hg
  obtain ⟨p0, p1, p2, -⟩ := H3.out.2.full
  go_wp2_with fail
  clear p0 p1 p2
  go_loopw [33] (fun i wr => ∃ k : Nat, i = .int .i64 k ∧ k ≤ l.length ∧ Hid (RowAt wr g 3 (rowF T (dirF wn A B (l.take k))) ∧ BoxS w T wn (.slice ad l.length c) wr)) (fun i _ => l.length - (intOf i).toNat)
  case atStart => exact ⟨0, rfl, Nat.zero_le _, H3.out⟩
  case round =>
    clear H3
    obtain ⟨k, rfl, hk, hH⟩ := hrel
    by_cases hlt : k < l.length
    · have b1' : (k : Int) < (l.length : Int) := by omega
      obtain ⟨bb, off, ha, _, hc⟩ := rcells_of_reads (HR.out.old hH.out.2.2) (by omega)
      subst ha
      obtain ⟨c0, c1, c2, c3⟩ := hc k hlt
      clear hc
      have hgr := HGD.out k hlt
      have hsn := fun i => dirF_snoc (wn := wn) l k hlt hgr A B HAB.out i
      obtain ⟨⟨x0, xT⟩, ⟨y0, yT⟩, hne, g1, g2⟩ := goodR_bd hgr
      have HSN := Lib.hid hsn; clear hsn hgr
      generalize l.getD k zR = r at *
      obtain ⟨x, y, z, u⟩ := r
      simp only at c0 c1 c2 c3 g1 g2 x0 xT y0 yT hne
      obtain ⟨X, rfl⟩ : ∃ X : Nat, x = X := ⟨x.toNat, by omega⟩
      obtain ⟨Y, rfl⟩ : ∃ Y : Nat, y = Y := ⟨y.toNat, by omega⟩
      have hbR := hH.out.2.keep (Below.ofNew (w := wr) (.cells #[.int .i64 X, .int .i64 Y, .int .i64 z, .int .i64 u] 64))
      have hrow2 := hH.out.1.keep (Below.ofNew (w := wr) (.cells #[.int .i64 X, .int .i64 Y, .int .i64 z, .int .i64 u] 64))
      have hcall := lgAdd_any T hT8 (dirF wn A B (l.take k)) (fun i _ _ => dirF_bd ⟨hw2, hw3⟩ A B (l.take k) (by rw [List.length_take]; omega) i) g wn ⟨hw2, hw3⟩ X Y (by omega) (by omega) (by omega) (z - u) _ hrow2
      have HC := Lib.hid (And.intro hcall (And.intro hrow2 hbR)); clear hcall hbR hrow2
      obtain ⟨p0, p1, p2, -⟩ := hH.out.2.full
      have hlt0 := hH.out.2.1.lt
      clear hH hne
      by_cases e1 : (X : Int) = A
      · by_cases e2 : (Y : Int) = B
        · have q1 : ((X : Int) == A) = true := by rw [beq_iff_eq]; exact e1
          have q2 : ((Y : Int) == B) = true := by rw [beq_iff_eq]; exact e2
          have HS2 := Lib.hid (fun i => (HSN.out i).trans (by rw [if_pos (show ((X : Int) = A ∧ (Y : Int) = B) ∨ ((X : Int) = B ∧ (Y : Int) = A) from Or.inl ⟨e1, e2⟩)]))
          clear HSN e1 e2
          go_wp2_with fail
          refine HC.out.1.mono ?_; rintro e w4 ⟨rfl, r4, o4⟩
          have H4 : Hid (RowAt w4 g 3 (rowF T (dirF wn A B (l.take (k + 1)))) ∧ BoxS w T wn (.slice (some ⟨bb, off, none⟩) l.length c) w4) :=
            ⟨by rw [rowF_congr (fun i _ _ => HS2.out i)]; exact r4, HC.out.2.2.1.only o4 (by omega), o4.2.2 _ _ (by omega) HC.out.2.2.2⟩
          clear r4 o4 HC HS2 p0 p1 p2
          go_wp2_with fail
          go_roundw
          case rel => exact ⟨k + 1, by go_num, by omega, H4⟩
          case measure => simp [intOf]; omega
        · by_cases e4 : (X : Int) = B
          · by_cases e5 : (Y : Int) = A
            · have q1 : ((X : Int) == A) = true := by rw [beq_iff_eq]; exact e1
              have q2 : ((Y : Int) == B) = false := by rw [beq_eq_false_iff_ne]; exact e2
              have q4 : ((X : Int) == B) = true := by rw [beq_iff_eq]; exact e4
              have q5 : ((Y : Int) == A) = true := by rw [beq_iff_eq]; exact e5
              have HS2 := Lib.hid (fun i => (HSN.out i).trans (by rw [if_pos (show ((X : Int) = A ∧ (Y : Int) = B) ∨ ((X : Int) = B ∧ (Y : Int) = A) from Or.inr ⟨e4, e5⟩)]))
              clear HSN e1 e2 e4 e5
              go_wp2_with fail
              refine HC.out.1.mono ?_; rintro e w4 ⟨rfl, r4, o4⟩
              have H4 : Hid (RowAt w4 g 3 (rowF T (dirF wn A B (l.take (k + 1)))) ∧ BoxS w T wn (.slice (some ⟨bb, off, none⟩) l.length c) w4) :=
                ⟨by rw [rowF_congr (fun i _ _ => HS2.out i)]; exact r4, HC.out.2.2.1.only o4 (by omega), o4.2.2 _ _ (by omega) HC.out.2.2.2⟩
              clear r4 o4 HC HS2 p0 p1 p2
              go_wp2_with fail
              go_roundw
              case rel => exact ⟨k + 1, by go_num, by omega, H4⟩
              case measure => simp [intOf]; omega
            · have q1 : ((X : Int) == A) = true := by rw [beq_iff_eq]; exact e1
              have q2 : ((Y : Int) == B) = false := by rw [beq_eq_false_iff_ne]; exact e2
              have q4 : ((X : Int) == B) = true := by rw [beq_iff_eq]; exact e4
              have q5 : ((Y : Int) == A) = false := by rw [beq_eq_false_iff_ne]; exact e5
              have HS2 := Lib.hid (fun i => (HSN.out i).trans (by rw [if_neg (show ¬ (((X : Int) = A ∧ (Y : Int) = B) ∨ ((X : Int) = B ∧ (Y : Int) = A)) from by rintro (⟨h1, h2⟩ | ⟨h1, h2⟩) <;> first | exact e2 h2 | exact e5 h2), Int.add_zero]))
              have H4 : Hid (RowAt (wr.alloc (.cells #[.int .i64 X, .int .i64 Y, .int .i64 z, .int .i64 u] 64)) g 3 (rowF T (dirF wn A B (l.take (k + 1)))) ∧ BoxS w T wn (.slice (some ⟨bb, off, none⟩) l.length c) (wr.alloc (.cells #[.int .i64 X, .int .i64 Y, .int .i64 z, .int .i64 u] 64))) := ⟨by rw [rowF_congr (fun i _ _ => HS2.out i)]; exact HC.out.2.1, HC.out.2.2⟩
              clear HSN HS2 HC e1 e2 e4 e5
              go_wp2_with fail
              go_roundw
              case rel => exact ⟨k + 1, by go_num, by omega, H4⟩
              case measure => simp [intOf]; omega
          · have q1 : ((X : Int) == A) = true := by rw [beq_iff_eq]; exact e1
            have q2 : ((Y : Int) == B) = false := by rw [beq_eq_false_iff_ne]; exact e2
            have q4 : ((X : Int) == B) = false := by rw [beq_eq_false_iff_ne]; exact e4
            have HS2 := Lib.hid (fun i => (HSN.out i).trans (by rw [if_neg (show ¬ (((X : Int) = A ∧ (Y : Int) = B) ∨ ((X : Int) = B ∧ (Y : Int) = A)) from by rintro (⟨h1, h2⟩ | ⟨h1, h2⟩) <;> first | exact e2 h2 | exact e4 h1), Int.add_zero]))
            have H4 : Hid (RowAt (wr.alloc (.cells #[.int .i64 X, .int .i64 Y, .int .i64 z, .int .i64 u] 64)) g 3 (rowF T (dirF wn A B (l.take (k + 1)))) ∧ BoxS w T wn (.slice (some ⟨bb, off, none⟩) l.length c) (wr.alloc (.cells #[.int .i64 X, .int .i64 Y, .int .i64 z, .int .i64 u] 64))) := ⟨by rw [rowF_congr (fun i _ _ => HS2.out i)]; exact HC.out.2.1, HC.out.2.2⟩
            clear HSN HS2 HC e1 e2 e4
            go_wp2_with fail
            go_roundw
            case rel => exact ⟨k + 1, by go_num, by omega, H4⟩
            case measure => simp [intOf]; omega
      · by_cases e4 : (X : Int) = B
        · by_cases e5 : (Y : Int) = A
          · have q1 : ((X : Int) == A) = false := by rw [beq_eq_false_iff_ne]; exact e1
            have q4 : ((X : Int) == B) = true := by rw [beq_iff_eq]; exact e4
            have q5 : ((Y : Int) == A) = true := by rw [beq_iff_eq]; exact e5
            have HS2 := Lib.hid (fun i => (HSN.out i).trans (by rw [if_pos (show ((X : Int) = A ∧ (Y : Int) = B) ∨ ((X : Int) = B ∧ (Y : Int) = A) from Or.inr ⟨e4, e5⟩)]))
            clear HSN e1 e4 e5
            go_wp2_with fail
            refine HC.out.1.mono ?_; rintro e w4 ⟨rfl, r4, o4⟩
            have H4 : Hid (RowAt w4 g 3 (rowF T (dirF wn A B (l.take (k + 1)))) ∧ BoxS w T wn (.slice (some ⟨bb, off, none⟩) l.length c) w4) :=
              ⟨by rw [rowF_congr (fun i _ _ => HS2.out i)]; exact r4, HC.out.2.2.1.only o4 (by omega), o4.2.2 _ _ (by omega) HC.out.2.2.2⟩
            clear r4 o4 HC HS2 p0 p1 p2
            go_wp2_with fail
            go_roundw
            case rel => exact ⟨k + 1, by go_num, by omega, H4⟩
            case measure => simp [intOf]; omega
          · have q1 : ((X : Int) == A) = false := by rw [beq_eq_false_iff_ne]; exact e1
            have q4 : ((X : Int) == B) = true := by rw [beq_iff_eq]; exact e4
            have q5 : ((Y : Int) == A) = false := by rw [beq_eq_false_iff_ne]; exact e5
            have HS2 := Lib.hid (fun i => (HSN.out i).trans (by rw [if_neg (show ¬ (((X : Int) = A ∧ (Y : Int) = B) ∨ ((X : Int) = B ∧ (Y : Int) = A)) from by rintro (⟨h1, h2⟩ | ⟨h1, h2⟩) <;> first | exact e1 h1 | exact e5 h2), Int.add_zero]))
            have H4 : Hid (RowAt (wr.alloc (.cells #[.int .i64 X, .int .i64 Y, .int .i64 z, .int .i64 u] 64)) g 3 (rowF T (dirF wn A B (l.take (k + 1)))) ∧ BoxS w T wn (.slice (some ⟨bb, off, none⟩) l.length c) (wr.alloc (.cells #[.int .i64 X, .int .i64 Y, .int .i64 z, .int .i64 u] 64))) := ⟨by rw [rowF_congr (fun i _ _ => HS2.out i)]; exact HC.out.2.1, HC.out.2.2⟩
            clear HSN HS2 HC e1 e4 e5
            go_wp2_with fail
            go_roundw
            case rel => exact ⟨k + 1, by go_num, by omega, H4⟩
            case measure => simp [intOf]; omega
        · have q1 : ((X : Int) == A) = false := by rw [beq_eq_false_iff_ne]; exact e1
          have q4 : ((X : Int) == B) = false := by rw [beq_eq_false_iff_ne]; exact e4
          have HS2 := Lib.hid (fun i => (HSN.out i).trans (by rw [if_neg (show ¬ (((X : Int) = A ∧ (Y : Int) = B) ∨ ((X : Int) = B ∧ (Y : Int) = A)) from by rintro (⟨h1, h2⟩ | ⟨h1, h2⟩) <;> first | exact e1 h1 | exact e4 h1), Int.add_zero]))
          have H4 : Hid (RowAt (wr.alloc (.cells #[.int .i64 X, .int .i64 Y, .int .i64 z, .int .i64 u] 64)) g 3 (rowF T (dirF wn A B (l.take (k + 1)))) ∧ BoxS w T wn (.slice (some ⟨bb, off, none⟩) l.length c) (wr.alloc (.cells #[.int .i64 X, .int .i64 Y, .int .i64 z, .int .i64 u] 64))) := ⟨by rw [rowF_congr (fun i _ _ => HS2.out i)]; exact HC.out.2.1, HC.out.2.2⟩
          clear HSN HS2 HC e1 e4
          go_wp2_with fail
          go_roundw
          case rel => exact ⟨k + 1, by go_num, by omega, H4⟩
          case measure => simp [intOf]; omega
    · obtain rfl : k = l.length := by omega
      have hh := hH.out
      rw [List.take_length] at hh
      have c4 := hh.1.cell (j := A) (by rw [rowF_len]; omega)
      have c5 := hh.1.cell (j := B) (by rw [rowF_len]; omega)
      rw [rowF_get (by omega)] at c4 c5
      have e4 : dirF wn A B l A = dirL wn B (gamesL l A) := by unfold dirF; rw [if_pos rfl]
      have e5 : dirF wn A B l B = dirL wn A (gamesL l B) := by unfold dirF; rw [if_neg (fun e => HAB.out e.symm), if_pos rfl]
      rw [e4] at c4; rw [e5] at c5
      have HH := Lib.hid hh.2; clear hh hH e4 e5
      have d4 : (A : Int) < (T : Int) := by omega
      have d5 : (B : Int) < (T : Int) := by omega
      generalize hX : dirL wn B (gamesL l A) = X at *
      generalize hY : dirL wn A (gamesL l B) = Y at *
      have HXY := Lib.hid (And.intro hX hY); clear hX hY
      go_wp2
      go_quiet (fail)
      go_wp2
      refine bodyPost_ret (v := .tuple #[.int .i64 X, .int .i64 Y, .bool true]) (by simp [results, Try.results50, go_sem]) rfl ⟨by rw [HXY.out.1, HXY.out.2], ?_⟩
      first | exact HH.out.2 | exact HH.out.2.drew | exact below_drewN HH.out.2 _
end Go.Proofs.Ytpfphjfpaoiicaa
