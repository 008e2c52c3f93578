/-
  Leagues: the points of each team: both sides.
-/
import Derived.Test.YtpfphjfpaoiicaaLgStand
import Derived.Test.YtpfphjfpaoiicaaLgLawS
namespace Go.Proofs.Ytpfphjfpaoiicaa
open Go.RowKit
set_option linter.unusedVariables false
set_option linter.unusedSimpArgs false

theorem field_pts (a b c d : Value) (w : World) : (Instr.field 76 (.agg #[a, b, c, d]) 1).run Try.prog w = .ok b w := by kernel_rfl
theorem rowF_snoc (k : Nat) (f : Int → Int) : rowF (k + 1) f = rowF k f ++ [f k] := by simp [rowF, List.range_succ]
/-- The points that a league's teams have: none if it is no league. -/
def ptsV (t wn : Int) (l : List Rs) : List Int := if goodL t wn l then rowF t.toNat (fun i => ptsT wn l i) else []
theorem ptsV_len (t wn : Int) (l : List Rs) : (ptsV t wn l).length ≤ 8 := by
  unfold ptsV
  by_cases h : goodL t wn l = true
  · rw [if_pos h, rowF_len]; have := goodL_bd h; omega
  · rw [if_neg h]; simp

set_option maxHeartbeats 1600000 in
theorem specPts_any (t wn : Int) (l : List Rs) (ad : Option Addr) (c : Nat) (w : World) (hl : (l.length : Int) ≤ 1000000000000) (hlc : l.length ≤ c) (hr : Reads w ad (ress l)) :
    Calls Try.prog 25 #[.agg #[.int .i64 t, .int .i64 wn, .slice ad l.length c]] w fun e w' => RowR (ptsV t wn l) (goodL t wn l) w e w' := by
  have HB0 := Lib.hid (Below.ofNew (w := w) (.cells #[.int .i64 t, .int .i64 wn, .slice ad l.length c] 29))
  have HA := Lib.hid (ObAt.new w 29 #[.int .i64 t, .int .i64 wn, .slice ad l.length c])
  have HG := Lib.hid (lgGood_any t wn l ad c _ hl hlc (hr.old HB0.out))
  have HR := Lib.hid hr; clear hr
  cases hg : goodL t wn l
  · have hv : ptsV t wn l = [] := by unfold ptsV; rw [hg]; rfl
    rw [hg] at HG; rw [hv]; clear hg hv
    go_enter Try.func25, Try.ntmps25
    go_wp2_with fail
    refine HG.out.mono ?_; rintro e w1 ⟨rfl, b1⟩
    have HB1 := Lib.hid (HB0.out.trans (b1.mono HB0.out.size)); clear b1
    go_wp2_with fail
    refine bodyPost_ret (v := .tuple #[.slice none 0 0, .bool false]) (by simp [results, Try.results25, go_sem]) rfl ⟨_, rfl, owns_nil _ _ _, HB1.out⟩
  · obtain ⟨t2, t8, -⟩ := goodL_bd hg
    obtain ⟨T, rfl⟩ : ∃ T : Nat, t = T := ⟨t.toNat, by omega⟩
    have hv : ptsV T wn l = ptsRow T wn l := by unfold ptsV ptsRow; rw [if_pos hg, Int.toNat_natCast]
    have HP := Lib.hid (fun W (hb : Below w.heap.size w W) => lgPoints_any T wn l hg ad c W (HR.out.old hb))
    rw [hg] at HG; rw [hv]; clear hg hv
    go_enter Try.func25, Try.ntmps25
    go_wp2_with fail
    refine HG.out.mono ?_; rintro e w1 ⟨rfl, b1⟩
    have HB1 := Lib.hid (And.intro (HA.out.keep b1) (HB0.out.trans (b1.mono HB0.out.size))); clear b1
    obtain ⟨p0, p1, p2, -, -, -⟩ := HB1.out.1.three
    go_wp2_with fail
    refine (HP.out _ HB1.out.2).mono ?_; rintro e w2 ⟨g, rfl, hge, hrow, b2⟩
    have hown := hrow.own (base := w.heap.size) (Nat.le_trans HB1.out.2.size hge) (by rw [ptsRow, rowF_len]; unfold maxLen; omega)
    have hlen : (ptsRow T wn l).length = T := by rw [ptsRow, rowF_len]
    rw [hlen] at hown
    have HO := Lib.hid (And.intro hown (HB1.out.2.trans (b2.mono HB1.out.2.size)))
    clear hown hrow b2 hge
    go_wp2_with fail
    refine bodyPost_ret (v := .tuple #[.slice (some ⟨g, 0, none⟩) T T, .bool true]) (by simp [results, Try.results25, go_sem]) rfl ⟨_, rfl, by rw [hlen]; exact HO.out.1, HO.out.2⟩

def PtAt (w : World) (T : Nat) (wn : Int) (l : List Rs) (ad : Option Addr) (c : Nat) (k : Nat) (v : Value) (wr : World) : Prop :=
  ObAt wr w.heap.size 29 #[.int .i64 T, .int .i64 wn, .slice ad l.length c] ∧ wr.ownsRow w.heap.size 3 1 v k (ints (rowF k (fun i => ptsT wn l i))) ∧ Below w.heap.size w wr

set_option maxHeartbeats 3200000 in
set_option maxRecDepth 100000 in
theorem implPts_any (t wn : Int) (l : List Rs) (ad : Option Addr) (c : Nat) (w : World) (hl : (l.length : Int) ≤ 1000000000000) (hlc : l.length ≤ c) (hr : Reads w ad (ress l)) :
    Calls Try.prog 26 #[.agg #[.int .i64 t, .int .i64 wn, .slice ad l.length c]] w fun e w' => RowR (ptsV t wn l) (goodL t wn l) w e w' := by
  have HB0 := Lib.hid (Below.ofNew (w := w) (.cells #[.int .i64 t, .int .i64 wn, .slice ad l.length c] 29))
  have HA := Lib.hid (ObAt.new w 29 #[.int .i64 t, .int .i64 wn, .slice ad l.length c])
  have HG := Lib.hid (isLeague_any t wn l ad c _ hl hlc (hr.old HB0.out))
  have HR := Lib.hid hr; clear hr
  cases hg : goodL t wn l
  · have hv : ptsV t wn l = [] := by unfold ptsV; rw [hg]; rfl
    rw [hg] at HG; rw [hv]; clear hg hv
    go_enter Try.func26, Try.ntmps26
    go_wp2_with fail
    refine HG.out.mono ?_; rintro e w1 ⟨rfl, b1⟩
    have HB1 := Lib.hid (HB0.out.trans (b1.mono HB0.out.size)); clear b1
    go_wp2_with fail
    refine bodyPost_ret (v := .tuple #[.slice none 0 0, .bool false]) (by simp [results, Try.results26, go_sem]) rfl ⟨_, rfl, owns_nil _ _ _, HB1.out⟩
  · obtain ⟨t2, t8, hw2, hw3, h56⟩ := goodL_bd hg
    obtain ⟨T, rfl⟩ : ∃ T : Nat, t = T := ⟨t.toNat, by omega⟩
    have hv : ptsV T wn l = rowF T (fun i => ptsT wn l i) := by unfold ptsV; rw [if_pos hg, Int.toNat_natCast]
    obtain ⟨i0, hi, hz0, hz1, hz2⟩ := info_parts infoInt
    have HI := Lib.hid (And.intro hi (And.intro hz0 (And.intro hz1 hz2))); clear hi hz0 hz1 hz2
    have HST := Lib.hid (fun team W (hb : Below w.heap.size w W) => standingOf_any T wn l hg ad c team W (HR.out.old hb))
    rw [hg] at HG; rw [hv]; clear hg hv
    go_enter Try.func26, Try.ntmps26
    go_wp2_with fail
    refine HG.out.mono ?_; rintro e w1 ⟨rfl, b1⟩
    have H0 : Hid (PtAt w T wn l ad c 0 (.slice none 0 0) w1) := ⟨HA.out.keep b1, ⟨rfl, .inl ⟨rfl, rfl⟩⟩, HB0.out.trans (b1.mono HB0.out.size)⟩
    clear b1 HG HA HB0
    obtain ⟨p0, p1, p2, -, -, -⟩ := H0.out.1.three
    go_wp2_with fail
    clear p0 p1 p2
    go_loopw [4, 11] (fun v i wr => ∃ k : Nat, i = .int .i64 k ∧ k ≤ T ∧ Hid (PtAt w T wn l ad c k v wr)) (fun _ i _ => T - (intOf i).toNat)
    case atStart => exact ⟨0, rfl, Nat.zero_le _, H0⟩
    case round =>
      clear H0
      obtain ⟨k, rfl, hk, hH⟩ := hrel
      by_cases hlt : k < T
      · have b1 : (k : Int) < (T : Int) := by omega
        have hs := HST.out k wr hH.out.2.2
        have hpt : ptsL wn (gamesL l (k : Int)) = ptsT wn l k := rfl
        rw [hpt] at hs
        have HS := Lib.hid hs; clear hs hpt
        generalize forL (gamesL l (k : Int)) = F at *
        generalize agL (gamesL l (k : Int)) = A at *
        have hsn := rowF_snoc k (fun i => ptsT wn l i)
        have HSN := Lib.hid hsn; clear hsn
        generalize ptsT wn l (k : Int) = P at *
        obtain ⟨p0, p1, p2, -, -, -⟩ := hH.out.1.three
        go_wp2_with fail
        refine HS.out.mono ?_; rintro e w3 ⟨rfl, b3⟩
        have HO : Hid (ObAt w3 w.heap.size 29 #[.int .i64 T, .int .i64 wn, .slice ad l.length c] ∧ w3.ownsRow w.heap.size 3 1 u4 k (ints (rowF k (fun i => ptsT wn l i))) ∧ Below w.heap.size w w3) := ⟨hH.out.1.keep b3, owns_below hH.out.2.1 b3, hH.out.2.2.trans (b3.mono hH.out.2.2.size)⟩
        have HC := Lib.hid (cells_new w3 #[.int .i64 P] 3)
        clear hH b3 HS p0 p1 p2
        have hz3 := HO.out.2.2.size
        have hfd := field_pts (.int .i64 k) (.int .i64 P) (.int .i64 F) (.int .i64 A)
        go_wp2_with (at_builtin; refine wpList_append_own_at _ rfl _ _ 33 rfl w.heap.size 3 i0 (.int .i64 0) 1 8 Try.underlying33 HI.out.1 HI.out.2.1 HI.out.2.2.1 HI.out.2.2.2 rfl (by decide) _ _ _ rfl (HO.out.2.1.alloc _) ⟨w3.heap.size, 0, none⟩ 1 1 [.int .i64 P] rfl rfl HC.out ?_ ?_ ?_ ?_ ?_)
        · intro q hu; simp at hu; subst hu; rfl
        · unfold maxLen; omega
        · omega
        · first | omega | (simp; omega)
        intro v' w4 hown4 hgrow _ _
        have hbel4 : Below w.heap.size w w4 := (HO.out.2.2.alloc hz3 _).grown hgrow (by simp; omega) (fun g hg => by
          obtain ⟨_, h | ⟨g', cap, cur, hv, hb', _⟩⟩ := HO.out.2.1
          · rw [h.1] at hg; cases hg
          · rw [hv] at hg; simp [Value.ownBlock] at hg; omega)
        have hA4 := (HO.out.1.old (.cells #[.int .i64 P] 3)).grow (T' := 3) (by decide) (HO.out.2.1.alloc _) hgrow
        have hown5 : w4.ownsRow w.heap.size 3 1 v' (k + 1) (ints (rowF (k + 1) (fun i => ptsT wn l i))) := by
          rw [HSN.out]; simp only [ints, List.map_append, List.map_cons, List.map_nil]; exact hown4
        have H3 : Hid (PtAt w T wn l ad c (k + 1) v' w4) := ⟨hA4, hown5, hbel4⟩
        clear hown4 hgrow hown5 hbel4 hA4 HO HC HSN
        go_wp2
        go_roundw
        case rel => exact ⟨k + 1, by go_num, by omega, H3⟩
        case measure => simp [intOf]; omega
      · obtain rfl : k = T := by omega
        obtain ⟨hA, hown, hbel⟩ := hH.out
        have hlen : (rowF k (fun i => ptsT wn l i)).length = k := rowF_len _ _
        obtain ⟨a2, c2, rfl, -⟩ := Reads.own hown
        have HH := Lib.hid (And.intro hown hbel); clear hown hbel hH hA
        go_wp2_with fail
        refine bodyPost_ret (v := .tuple #[.slice a2 k c2, .bool true]) (by simp [results, Try.results26, go_sem]) rfl ⟨_, rfl, by rw [hlen]; exact HH.out.1, HH.out.2⟩
end Go.Proofs.Ytpfphjfpaoiicaa
