/-
  Pins: the model's counts of games.
-/
import Derived.Test.YthbkclgdoopbpaaPtTab
import Derived.Test.YthbkclgdoopbpaaPtMost
import Derived.BigQuiet
namespace Go.Proofs.Ythbkclgdoopbpaa
open Go.RowKit
set_option linter.unusedVariables false
set_option linter.unusedSimpArgs false

theorem inQ_any (n a b : Int) (w : World) : Calls Try.prog 58 #[.int .i64 n, .int .i64 a, .int .i64 b] w fun e w' => e = .returned (.bool (inQ n a b)) ∧ w = w' := by
  by_cases h1 : a ≤ n <;> by_cases h2 : n ≤ b
  all_goals
    go_enter Try.func58, Try.ntmps58
    go_wp2
    go_ret
    exact ⟨ret_bool (by simp [inQ, *]), rfl⟩
theorem boFrames_q (f : Int) (w : World) :
    Calls Try.prog 45 #[.int .i64 f] w fun e w' => e = .returned (.bool (moB f)) ∧ w = w' := by
  have e : moB f = inQ f 1 10 := by unfold moB inQ; simp
  rw [e]
  go_enter Try.func45, Try.ntmps45
  go_wp2_with fail
  refine (inQ_any _ _ _ _).mono ?_; rintro e w1 ⟨rfl, rfl⟩
  go_wp2_with fail
  go_ret
  exact ⟨rfl, rfl⟩
theorem boTotal_q (f t : Int) (w : World) :
    Calls Try.prog 31 #[.int .i64 f, .int .i64 t] w fun e w' => e = .returned (.bool (gmB f t)) ∧ w = w' := by
  have e : gmB f t = (moB f && inQ t 0 300) := rfl
  rw [e]
  cases hm : moB f
  · have HB := Lib.hid (fun W => boFrames_q f W)
    rw [hm] at HB; clear hm e
    go_enter Try.func31, Try.ntmps31
    go_wp2_with fail
    refine (HB.out _).mono ?_; rintro e w1 ⟨rfl, rfl⟩
    go_wp2_with fail
    go_ret
    exact ⟨rfl, rfl⟩
  · have HB := Lib.hid (fun W => boFrames_q f W)
    rw [hm] at HB; clear hm e
    have HQ := Lib.hid (fun W => inQ_any t 0 300 W)
    generalize inQ t 0 300 = q at *
    go_enter Try.func31, Try.ntmps31
    go_wp2_with fail
    refine (HB.out _).mono ?_; rintro e w1 ⟨rfl, rfl⟩
    go_wp2_with fail
    refine (HQ.out _).mono ?_; rintro e w1 ⟨rfl, rfl⟩
    go_wp2_with fail
    go_ret
    exact ⟨rfl, rfl⟩
theorem boStart_q (w : World) :
    Calls Try.prog 38 #[] w fun e w' => e = .returned (.agg #[.int .i64 0, .slice none 0 0, .int .i64 10, .bool false]) ∧ Below w.heap.size w w' := by
  go_enter Try.func38, Try.ntmps38
  go_wp2
  refine bodyPost_ret (v := .agg #[.int .i64 0, .slice none 0 0, .int .i64 10, .bool false]) (by simp [results, Try.results38, go_sem]) rfl ⟨rfl, ?_⟩
  (repeat (first | exact Below.refl _ _ | exact ‹Below _ _ _› | refine Below.drew ?_ | refine Below.alloc ?_ (by first | omega | (simp; done) | (simp; omega)) _ | refine Below.setCell ?_ (by first | omega | (simp; done) | (simp; omega)) _ | refine Below.trans ?_ (Below.mono ‹Below _ _ _› (by first | omega | (simp; done) | (simp; omega)))))

theorem belowN {B : Nat} {a w : World} (h : Below B a w) (n : Nat) : Below B a (w.drewN n) := h.trans ⟨rfl, rfl, rfl, Nat.le_refl _, fun _ _ => rfl⟩
set_option maxRecDepth 100000 in
set_option maxHeartbeats 3200000 in
theorem boWays_nil (F b c h cS : Nat) (r : Nat → Nat) (hF1 : 1 ≤ F) (hF2 : F ≤ 10) (w : World) (h1 : w.cell? ⟨b, F, none⟩ = some (.slice (some ⟨h, 0, none⟩) 4 cS)) (h2 : StAt w h F r) :
    Calls Try.prog 64 #[.int .i64 F, .slice (some ⟨b, 0, none⟩) (F + 1) c, .agg #[.int .i64 0, .slice none 0 0, .int .i64 10, .bool false], .int .i64 1, .int .i64 1] w fun e w' => e = .returned (.slice (some ⟨r 0, 0, none⟩) 301 301) ∧ Below w.heap.size w w' := by
  have HBS := Lib.hid (fun W => boState_any 0 0 W (by omega) (by omega))
  rw [if_pos rfl] at HBS
  have c0 := h2.cell (s := 0) (by omega)
  have hz : b < w.heap.size := World.block_lt_of_cell? w ⟨b, F, none⟩ h1
  have hz2 := h2.lt
  have H := Lib.hid (And.intro h1 c0); clear h1 h2 c0
  obtain ⟨c1, c2⟩ := H.out
  have b1 : (F : Int) < (F : Int) + 1 := by omega
  have hn1 : b ≠ w.heap.size := by omega
  have hn2 : h ≠ w.heap.size := by omega
  have ew : IntKind.i64.wrap (F : Int) = (F : Int) := by rw [IntKind.wrap_i64]; omega
  go_enter Try.func64, Try.ntmps64
  go_wp2_with fail
  go_quiet ((go_at_call 81; exact (HBS.out _).mono (fun _ _ h => ⟨h.1, _, h.2.symm⟩)))
  go_wp2_with fail
  go_ret
  exact ⟨rfl, belowN ((Below.refl _ _).alloc (Nat.le_refl _) _) _⟩

/-- The block in which the place lies, while no ball is rolled. -/
def FmW (w : World) (F : Nat) (b h c : Nat) (r : Nat → Nat) (wr : World) : Prop := ObAt wr w.heap.size 65 #[.int .i64 0, .slice none 0 0, .int .i64 10, .bool false] ∧ wr.cell? ⟨b, F, none⟩ = some (.slice (some ⟨h, 0, none⟩) 4 c) ∧ StAt wr h F r ∧ Below w.heap.size w wr
theorem FmW.keep {w : World} {F b h c : Nat} {r : Nat → Nat} {wr w' : World} (hw : FmW w F b h c r wr) (hb : Below wr.heap.size wr w') : FmW w F b h c r w' :=
  ⟨hw.1.keep hb, by rw [hb.cell (World.block_lt_of_cell? _ _ hw.2.1)]; exact hw.2.1, hw.2.2.1.keep hb, hw.2.2.2.trans (hb.mono hw.2.2.2.size)⟩
theorem FmW.new {w : World} {F b h c : Nat} {r : Nat → Nat} (h1 : w.cell? ⟨b, F, none⟩ = some (.slice (some ⟨h, 0, none⟩) 4 c)) (h2 : StAt w h F r) : FmW w F b h c r (w.alloc (.cells #[.int .i64 0, .slice none 0 0, .int .i64 10, .bool false] 65)) :=
  ⟨ObAt.new w _ _, by rw [(below_newT w _).cell (World.block_lt_of_cell? _ _ h1)]; exact h1, h2.keep (below_newT w _), below_newT w _⟩
theorem addS_zero (G : Nat → Nat) : rowN301 (addS (fun _ => 0) G 0) = rowN301 G := rowN301_congr (fun i _ => by simp [addS])

set_option maxRecDepth 100000 in
set_option maxHeartbeats 6400000 in
theorem boFrom_nil (F : Nat) (hF1 : 1 ≤ F) (hF2 : F ≤ 10) (v : Value) (w : World) (ht : TabAt w F v) :
    Calls Try.prog 32 #[.int .i64 F, v, .slice none 0 0] w fun e w' => ∃ g, e = .returned (.slice (some ⟨g, 0, none⟩) 301 301) ∧ RowAt w' g 3 (rowN301 (tl F 0)) ∧ Below w.heap.size w w' := by
  obtain ⟨i1, j1, jz0, jz1, jz2⟩ := info_parts infoIntT
  have HJ := Lib.hid (And.intro j1 (And.intro jz0 (And.intro jz1 jz2))); clear j1 jz0 jz1 jz2
  obtain ⟨b, c, cur, rfl, hh, hall⟩ := ht
  obtain ⟨h, cS, r, hc, hst⟩ := hall F hF1 (Nat.le_refl _)
  have h1 : w.cell? ⟨b, F, none⟩ = some (.slice (some ⟨h, 0, none⟩) 4 cS) := by rw [cell_of_row _ _ _ _ _ _ hh]; exact hc
  have HNEW := Lib.hid (fun w1 (hb : Below w.heap.size w w1) => And.intro (show w1.cell? ⟨b, F, none⟩ = some (.slice (some ⟨h, 0, none⟩) 4 cS) by rw [hb.cell (World.block_lt_of_cell? _ _ h1)]; exact h1) (hst.keep hb))
  have hlow : ∀ w1, Below w.heap.size w w1 → h < w1.heap.size ∧ r 0 < w1.heap.size := fun w1 hb => ⟨Nat.lt_of_lt_of_le hst.lt hb.size, Nat.lt_of_lt_of_le (hst.row (s := 0) (by omega)).lt hb.size⟩
  have HLOW := Lib.hid hlow
  clear hh hall hc hst h1 hlow
  have HWY := Lib.hid (fun W q1 q2 => boWays_nil F b c h cS r hF1 hF2 W q1 q2)
  have HAD := Lib.hid (fun gx W hne q1 q2 => boAdd_any (fun _ => 0) (tl F 0) 0 gx (r 0) hne (by omega) (fun n => ⟨by omega, by
    have h1 := tl_big F 0 n
    have h2 := bigT_le hF2
    unfold addS; simp; omega⟩) W q1 q2)
  go_enter Try.func32, Try.ntmps32
  go_wp2_with fail
  refine (boStart_q _).mono ?_; rintro e w1 ⟨rfl, b1⟩
  obtain ⟨q1, q2⟩ := HNEW.out w1 b1
  have H1 := Lib.hid (And.intro (FmW.new q1 q2) b1); clear q1 q2 b1
  go_upto_region 4 with fail
  have hg7 : Hid (w1.heap.size = w1.heap.size) := Lib.hid rfl
  generalize hW2 : w1.alloc (.cells #[.int .i64 0, .slice none 0 0, .int .i64 10, .bool false] 65) = W2 at *
  clear hW2
  go_loopw [19, 8, 9, 10] (fun i s o t wr => i = .int .i64 0 ∧ s = .int .i64 0 ∧ o = .int .i64 1 ∧ t = .int .i64 1 ∧ Hid (FmW w1 F b h cS r wr ∧ Below w.heap.size w w1)) (fun i _ _ _ _ => 0)
  case atStart => exact ⟨rfl, rfl, rfl, rfl, H1⟩
  case round =>
    clear H1
    obtain ⟨rfl, rfl, rfl, rfl, hH⟩ := hrel
    go_wp2_with (at_make; refine wpList_make_full _ rfl _ _ _ rfl wr.heap.size _ i1 _ 1 Try.underlying25 HJ.out.1 HJ.out.2.1 HJ.out.2.2.1 .i64 .i64 _ _ 301 rfl rfl rfl rfl ?_ ?_ (Nat.le_refl _) ?_)
    · rw [HJ.out.2.2.2]; omega
    · unfold maxLen; omega
    intro w3 hown hgrow
    have hr := (RowAt.made (e := 3) hown).1
    have hbel : Below wr.heap.size wr w3 := (Below.refl _ _).grown hgrow (Nat.le_refl _) (fun k hk => by cases hk)
    have hF3 := hH.out.1.keep hbel
    obtain ⟨d0, d1, d2, d3, -, -, -, -⟩ := hF3.1.four
    have hlo := HLOW.out wr (hH.out.2.trans (hH.out.1.2.2.2.mono hH.out.2.size))
    have hbw : Below w.heap.size w w3 := (hH.out.2.trans (hH.out.1.2.2.2.mono hH.out.2.size)).trans (hbel.mono (hH.out.2.trans (hH.out.1.2.2.2.mono hH.out.2.size)).size)
    have hsz := (hH.out.2.trans (hH.out.1.2.2.2.mono hH.out.2.size)).size
    have H3 := Lib.hid (And.intro hF3 (And.intro hr (And.intro hlo (And.intro hbw hsz)))); clear hF3 hr hlo hbw hbel hown hgrow hH hsz
    obtain ⟨gx, hgx⟩ : ∃ gx, gx = wr.heap.size := ⟨_, rfl⟩
    rw [← hgx] at H3 ⊢
    clear hgx
    go_wp2_with fail
    refine (HWY.out _ H3.out.1.2.1 H3.out.1.2.2.1).mono ?_; rintro e w4 ⟨rfl, b4⟩
    have hrow : RowAt w4 (r 0) 3 (rowN301 (tl F 0)) := (H3.out.1.2.2.1.row (s := 0) (by omega)).keep b4
    have H4 := Lib.hid (And.intro hrow (And.intro (H3.out.2.1.keep b4) (And.intro (show gx ≠ r 0 by have := H3.out.2.2.1.2; omega) (And.intro (H3.out.2.2.2.1.trans (b4.mono H3.out.2.2.2.1.size)) H3.out.2.2.2.2)))); clear hrow b4 H3
    clear d0 d1 d2 d3
    go_wp2_with fail
    refine (HAD.out gx _ H4.out.2.2.1 (by rw [show rowN301 (fun _ => 0) = List.replicate 301 (0 : Int) from rowN301_zero (fun _ => rfl)]; exact H4.out.2.1) H4.out.1).mono ?_; rintro e w5 ⟨rfl, hr5, ho5⟩
    have H5 := Lib.hid (And.intro hr5 (ho5.2.2 _ w H4.out.2.2.2.2 H4.out.2.2.2.1)); clear hr5 ho5 H4
    go_wp2_with fail
    go_ret
    exact ⟨gx, rfl, by rw [← addS_zero]; exact H5.out.1, H5.out.2⟩

set_option maxRecDepth 100000 in
set_option maxHeartbeats 3200000 in
theorem specCountGamesOf_any (f t : Int) (w : World) :
    Calls Try.prog 9 #[.int .i64 f, .int .i64 t] w fun e w' => e = .returned (.tuple #[.int .i64 (gmV f t), .bool (gmB f t)]) ∧ Below w.heap.size w w' := by
  have HT := Lib.hid (fun W => boTotal_q f t W)
  cases hb : gmB f t
  · rw [gmB_no hb]
    rw [hb] at HT; clear hb
    go_enter Try.func9, Try.ntmps9
    go_wp2_with fail
    refine (HT.out _).mono ?_; rintro e w1 ⟨rfl, rfl⟩
    go_wp2_with fail
    refine bodyPost_ret (v := .tuple #[.int .i64 0, .bool false]) (by simp [results, Try.results9, go_sem]) rfl ⟨rfl, Below.refl _ _⟩
  · have hq : (1 ≤ f ∧ f ≤ 10) ∧ 0 ≤ t ∧ t ≤ 300 := by simpa [gmB, inQ] using hb
    obtain ⟨F, rfl⟩ : ∃ F : Nat, f = (F : Int) := ⟨f.toNat, by omega⟩
    obtain ⟨n, rfl⟩ : ∃ n : Nat, t = (n : Int) := ⟨t.toNat, by omega⟩
    have hv : gmV (F : Int) (n : Int) = (tl F 0 n : Nat) := by unfold gmV; rw [hb]; simp
    rw [hv]
    rw [hb] at HT; clear hb hv
    have hn : n < 301 := by omega
    have hn2 : (n : Int) < 301 := by omega
    have HTB := Lib.hid (fun W => boTable_any F (by omega) (by omega) W)
    have HFM := Lib.hid (fun v W h => boFrom_nil F (by omega) (by omega) v W h)
    clear hq
    have HG := Lib.hid (fun (W : World) g (h : RowAt W g 3 (rowN301 (tl F 0))) => (show W.cell? ⟨g, n, none⟩ = some (.int .i64 ((tl F 0 n : Nat) : Int)) by
      have := h.cell (j := n) (by rw [rowN301_len]; exact hn)
      rw [rowN301_get _ hn] at this; exact this))
    generalize (tl F 0 n : Nat) = X at *
    go_enter Try.func9, Try.ntmps9
    go_wp2_with fail
    refine (HT.out _).mono ?_; rintro e w1 ⟨rfl, rfl⟩
    go_wp2_with fail
    refine (HTB.out _).mono ?_; rintro e w2 ⟨v, rfl, ht2, b2⟩
    have H2 := Lib.hid (And.intro ht2 b2); clear ht2 b2
    go_wp2_with fail
    refine (HFM.out _ _ H2.out.1).mono ?_; rintro e w3 ⟨g, rfl, hr3, b3⟩
    have c1 := HG.out w3 g hr3
    have H3 := Lib.hid (H2.out.2.trans (b3.mono H2.out.2.size)); clear hr3 b3
    go_wp2_with fail
    refine bodyPost_ret (v := .tuple #[.int .i64 X, .bool true]) (by simp [results, Try.results9, go_sem]) rfl ⟨rfl, H3.out⟩

set_option maxRecDepth 100000 in
set_option maxHeartbeats 3200000 in
theorem specMostGames_any (f : Int) (w : World) :
    Calls Try.prog 16 #[.int .i64 f] w fun e w' => e = .returned (.tuple #[.int .i64 (moV f).1, .int .i64 (moV f).2, .bool (moB f)]) ∧ Below w.heap.size w w' := by
  have HT := Lib.hid (fun W => boFrames_q f W)
  cases hb : moB f
  · have hv : moV f = (0, 0) := by unfold moV; rw [hb]; rfl
    rw [hv]
    rw [hb] at HT; clear hb hv
    go_enter Try.func16, Try.ntmps16
    go_wp2_with fail
    refine (HT.out _).mono ?_; rintro e w1 ⟨rfl, rfl⟩
    go_wp2_with fail
    refine bodyPost_ret (v := .tuple #[.int .i64 0, .int .i64 0, .bool false]) (by simp [results, Try.results16, go_sem]) rfl ⟨rfl, Below.refl _ _⟩
  · have hf : 1 ≤ f ∧ f ≤ 10 := of_decide_eq_true hb
    obtain ⟨F, rfl⟩ : ∃ F : Nat, f = (F : Int) := ⟨f.toNat, by omega⟩
    have hv : moV (F : Int) = bestP (tl F 0) 301 := by unfold moV; rw [hb]; simp
    rw [hv]
    rw [hb] at HT; clear hb hv
    have HTB := Lib.hid (fun W => boTable_any F (by omega) (by omega) W)
    have HFM := Lib.hid (fun v W h => boFrom_nil F (by omega) (by omega) v W h)
    clear hf
    generalize tl F 0 = T at *
    go_enter Try.func16, Try.ntmps16
    go_wp2_with fail
    refine (HT.out _).mono ?_; rintro e w1 ⟨rfl, rfl⟩
    go_wp2_with fail
    refine (HTB.out _).mono ?_; rintro e w2 ⟨v, rfl, ht2, b2⟩
    have H2 := Lib.hid (And.intro ht2 b2); clear ht2 b2
    go_wp2_with fail
    refine (HFM.out _ _ H2.out.1).mono ?_; rintro e w3 ⟨g, rfl, hr3, b3⟩
    have H3 : Hid (RowAt w3 g 3 (rowN301 T) ∧ Below w.heap.size w w3) := Lib.hid (And.intro hr3 (H2.out.2.trans (b3.mono H2.out.2.size))); clear hr3 b3 H2
    go_wp2_with fail
    go_loopw [17, 5, 6] (fun i best most wr => ∃ k : Nat, i = .int .i64 k ∧ k ≤ 301 ∧ best = .int .i64 ((bestP T k).1 : Nat) ∧ most = .int .i64 ((bestP T k).2 : Nat) ∧ Hid (RowAt wr g 3 (rowN301 T) ∧ Below w.heap.size w wr)) (fun i _ _ _ => 301 - (intOf i).toNat)
    case atStart => exact ⟨0, rfl, Nat.zero_le _, rfl, rfl, H3⟩
    case round =>
      clear H3
      obtain ⟨k, rfl, hk, rfl, rfl, hH⟩ := hrel
      by_cases hlt : k < 301
      · have b1 : (k : Int) < 301 := by omega
        have c1 := hH.out.1.cell (j := k) (by rw [rowN301_len]; exact hlt)
        rw [rowN301_get _ hlt] at c1
        have hs : bestP T (k + 1) = if (bestP T k).2 < T k then (k, T k) else bestP T k := rfl
        obtain ⟨p, hp⟩ : ∃ p, p = bestP T k := ⟨_, rfl⟩
        rw [← hp] at hs ⊢
        by_cases hgt : p.2 < T k
        · rw [if_pos hgt] at hs
          have HS := Lib.hid hs; clear hs hp
          have b2 : ((p.2 : Nat) : Int) < ((T k : Nat) : Int) := by omega
          clear hgt
          go_wp2_with fail
          go_roundw
          case rel => exact ⟨k + 1, by go_num, by omega, by rw [HS.out], by rw [HS.out], hH⟩
          case measure => simp [intOf]; omega
        · rw [if_neg hgt] at hs
          have HS := Lib.hid hs; clear hs hp
          have b2 : ¬ (((p.2 : Nat) : Int) < ((T k : Nat) : Int)) := by omega
          clear hgt
          go_wp2_with fail
          go_roundw
          case rel => exact ⟨k + 1, by go_num, by omega, by rw [HS.out], by rw [HS.out], hH⟩
          case measure => simp [intOf]; omega
      · obtain rfl : k = 301 := by omega
        go_wp2_with fail
        refine bodyPost_ret (v := .tuple #[.int .i64 (((bestP T 301).1 : Nat) : Int), .int .i64 (((bestP T 301).2 : Nat) : Int), .bool true]) (by simp [results, Try.results16, go_sem]) rfl ⟨rfl, hH.out.2⟩
end Go.Proofs.Ythbkclgdoopbpaa
