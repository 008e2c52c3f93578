/-
  Pins: the model's scores.
-/
import Derived.Test.YteippgbaaipiiaaPnB
import Derived.Deep.CutRange
namespace Go.Proofs.Yteippgbaaipiiaa
open Go.RowKit
set_option linter.unusedVariables false
set_option linter.unusedSimpArgs false

theorem infoI : ∃ i, Try.prog.info? 3 = some i := by
  have h : (Try.prog.info? 3).isSome = true := by kernel_rfl
  exact Option.isSome_iff_exists.1 h
theorem cellsI : Try.prog.cellsOf 3 = 1 := by kernel_rfl
theorem elemI : Try.prog.elem 22 = 3 := by kernel_rfl
theorem underI : Try.prog.underlying 22 = some (.slice (Try.prog.elem 22)) := by rw [elemI]; exact Try.underlying22
theorem sliced_int (b off l m n c : Nat) (hl : l < c) : sliced (some ⟨b, off, none⟩) l (l + m) c 1 = .slice (some ⟨b, off + l, none⟩) m (c - l) := by
  have hne : ¬ c = l := by omega
  have e : (⟨b, off, none⟩ : Addr).add (l * 1) = ⟨b, off + l, none⟩ := by unfold Addr.add; split <;> simp_all
  unfold sliced
  rw [if_neg hne, Option.map_some, e]
  congr 1; omega
/-- 'x[l:l+m]'. -/
theorem slice_part (b off n c l m : Nat) (h : Int) (hh : h = (l : Int) + (m : Int)) (h1 : l + m ≤ n) (h2 : n ≤ c) (h3 : 0 < m) (w : World) :
    (Instr.slice 22 (.slice (some ⟨b, off, none⟩) n c) (some (.int .i64 (l : Int))) (some (.int .i64 h)) none).run Try.prog w = .ok (.slice (some ⟨b, off + l, none⟩) m (c - l)) w := by
  obtain ⟨i, hi⟩ := infoI
  rw [run_slice_lh (P := Try.prog) (w := w) 22 (some ⟨b, off, none⟩) n c underI .i64 .i64 (l : Int) h (by omega) (by omega) (by omega)]
  rw [elemI, run_sizeOf (P := Try.prog) (w := w) hi, cellsI, Result.andThen_ok, hh]
  rw [show ((l : Int) + (m : Int)).toNat = l + m from by omega, Int.toNat_natCast, sliced_int b off l m n c (by omega)]

theorem cnt_x {bs : List Int} (hx : bs.getD 0 (-1) = 10) : cntF bs = 3 := by simp only [cntF, strikeB, hx]; rfl
theorem cnt_s {bs : List Int} (hx : ¬ bs.getD 0 (-1) = 10) (hs : bs.getD 0 (-1) + bs.getD 1 (-1) = 10) : cntF bs = 3 := by
  have : (bs.getD 0 (-1) == 10) = false := by simpa using hx
  simp only [cntF, strikeB, spareB, this, hs]; rfl
theorem cnt_n {bs : List Int} (hx : ¬ bs.getD 0 (-1) = 10) (hs : ¬ bs.getD 0 (-1) + bs.getD 1 (-1) = 10) : cntF bs = 2 := by
  have h1 : (bs.getD 0 (-1) == 10) = false := by simpa using hx
  have h2 : (bs.getD 0 (-1) + bs.getD 1 (-1) == 10) = false := by simpa using hs
  simp only [cntF, strikeB, spareB, h1, h2]; rfl

/-- What a round of the scores has: the scores so far, and those to come. -/
def ScA (L : List (List Int)) (R : List Int) (w : World) (k : Nat) (v fr : Value) (wr : World) : Prop :=
  ∃ out : List Int, fr = .int .i64 (((L.take k).flatten.length : Nat) : Int) ∧ out.length = k ∧ out ++ scoreL (L.drop k) (R.drop (L.take k).flatten.length) = scoreL L R ∧ wr.ownsRow w.heap.size 3 1 v out.length (ints out) ∧ Below w.heap.size w wr
theorem owns_base {w : World} {B B' T n size : Nat} {v : Value} {xs : List Value} (h : w.ownsRow B' T size v n xs) (hb : B ≤ B') : w.ownsRow B T size v n xs := by
  obtain ⟨hl, ⟨rfl, h2⟩ | ⟨g', cap, cur, rfl, hbb, r⟩⟩ := h
  · exact ⟨hl, .inl ⟨rfl, h2⟩⟩
  · exact ⟨hl, .inr ⟨g', cap, cur, rfl, Nat.le_trans hb hbb, r⟩⟩
theorem part_sum (R : List Int) (fr j : Nat) (h : fr + j < R.length) : ((R.drop fr).take (j + 1)).sum = ((R.drop fr).take j).sum + R.getD (fr + j) 0 := by
  rw [sum_take _ _ (by rw [List.length_drop]; omega)]
  congr 1
  simp
theorem part_bd (R : List Int) (fr j : Nat) (hb : ∀ x ∈ R, 0 ≤ x ∧ x ≤ 10) : 0 ≤ ((R.drop fr).take j).sum ∧ ((R.drop fr).take j).sum ≤ 10 * (j : Int) :=
  sum_take_bd _ _ (fun x hx => hb x (List.mem_of_mem_drop hx))
theorem getD_in (R : List Int) (i : Nat) (hi : i < R.length) (hb : ∀ x ∈ R, 0 ≤ x ∧ x ≤ 10) : 0 ≤ R.getD i 0 ∧ R.getD i 0 ≤ 10 := by
  have := hb R[i] (List.getElem_mem hi)
  simp [hi]; omega
theorem cnt_cases (bs : List Int) : cntF bs = 3 ∨ cntF bs = 2 := by unfold cntF; split <;> omega
theorem out_bd {L : List (List Int)} {R out rest : List Int} (h : out ++ rest = scoreL L R) : out.length ≤ L.length := by
  have := congrArg List.length h
  have h2 := score_len L R
  rw [List.length_append] at this
  omega

set_option maxHeartbeats 6400000 in
set_option maxRecDepth 100000 in
theorem boScores_any (F : Nat) (h1 : 1 ≤ F) (h2 : F ≤ 10) (rolls : List Int) (sf : St) (hg : gameG F ([], []) rolls = some sf) (a : Option Addr) (c : Nat) (hc : rolls.length ≤ c) (w : World) (h : Reads w a (ints rolls)) :
    Calls Try.prog 65 #[.int .i64 F, .slice a rolls.length c] w fun e w' => ∃ v, e = .returned v ∧ w'.ownsRow w.heap.size 3 1 v (scoresG sf).length (ints (scoresG sf)) ∧ Below w.heap.size w w' := by
  have hi := game_inv _ _ _ (inv_start h1) hg
  have hro : rollsG sf = rolls := by simpa [rollsG] using game_rolls _ _ _ hg
  have hrl := flat_len hi
  rw [hro] at hrl
  have hb10 := game_fits _ _ _ hg
  have hfl : (begunG sf).flatten = rolls := by rw [rolls_begun]; exact hro
  have hsc : scoresG sf = scoreL (begunG sf) rolls := by unfold scoresG; rw [hro]
  have hopen := fun ho hk => score_open hi ho hk h1
  have hL10 := begun_len hi
  have hat := fun k hk => begun_at hi (k := k) hk
  rw [hro] at hopen
  have hov := fun w' (hr : Reads w' a (ints rolls)) => boOver_any F h1 h2 rolls sf hg a c w' (by omega) hr
  have hsp := fun w' (hr : Reads w' a (ints rolls)) => boSplit_any F h1 h2 rolls sf hg a c w' (by omega) hr
  rw [hsc]
  have HSP := Lib.hid hsp; clear hsp
  have HOV := Lib.hid hov; clear hov
  have HAT := Lib.hid hat; clear hat hi hsc hro
  have HOP := Lib.hid hopen; clear hopen
  have HFL := Lib.hid hfl; clear hfl
  have HB10 := Lib.hid hb10; clear hb10 hg
  have HR := Lib.hid h; clear h
  obtain ⟨i0, hi0, hz0, hz1, hz2⟩ := info_parts infoInt
  have HI := Lib.hid (And.intro hi0 (And.intro hz0 (And.intro hz1 hz2))); clear hi0 hz0 hz1 hz2
  generalize begunG sf = L at *
  generalize overG F sf = ov at *
  go_enter Try.func65, Try.ntmps65
  go_wp2_with fail
  refine (HSP.out _ HR.out).mono ?_; rintro e w2 ⟨v, rfl, hsd, b2⟩
  obtain ⟨va, vc, rfl, hm, hrow⟩ := split_row hsd
  have HROW := Lib.hid (And.intro hsd hrow); clear hrow hsd hm
  have h0 : ScA L rolls w2 0 (.slice none 0 0) (.int .i64 0) w2 := ⟨[], by simp, rfl, by simp, ⟨rfl, .inl ⟨rfl, rfl⟩⟩, Below.refl _ _⟩
  have H0 := Lib.hid h0; clear h0
  have B2 := Lib.hid b2; clear b2
  go_wp2_with fail
  go_loopw [5, 6, 17] (fun v fr i wr => ∃ k : Nat, i = .int .i64 k ∧ k ≤ L.length ∧ Hid (ScA L rolls w2 k v fr wr)) (fun _ _ i _ => L.length - (intOf i).toNat)
  case atStart => exact ⟨0, rfl, Nat.zero_le _, H0⟩
  case round =>
    clear H0
    obtain ⟨k, rfl, hk, hA⟩ := hrel
    obtain ⟨out, hfr, hol, hout, hown, hbel⟩ := hA.out
    subst hfr
    clear hA
    by_cases hlt : k < L.length
    · obtain ⟨b, off, aj, cj, e1, hcell, hrd⟩ := HROW.out.2 k hlt
      subst e1
      obtain ⟨hsm, hln⟩ := HAT.out k hlt
      obtain ⟨b', o', e2, hblt, hcs⟩ := cells_of_reads hrd hln
      subst e2
      have hblo := World.block_lt_of_cell? w2 _ hcell
      have e0 : ∀ i, i < (L.getD k []).length → (L.getD k []).getD i 0 = (L.getD k []).getD i (-1) := fun i hi => getD_dflt _ _ hi _ _
      have x0 : wr.cell? ⟨b', o', none⟩ = some (.int .i64 ((L.getD k []).getD 0 (-1))) := by
        have := hcs 0 hln
        rw [Nat.add_zero, e0 0 hln] at this
        rw [hbel.cell (p := ⟨b', o', none⟩) hblt]; exact this
      have x1 : 1 < (L.getD k []).length → wr.cell? ⟨b', o' + 1, none⟩ = some (.int .i64 ((L.getD k []).getD 1 (-1))) := fun hh => by
        have := hcs 1 hh
        rw [e0 1 hh] at this
        rw [hbel.cell (p := ⟨b', o' + 1, none⟩) hblt]; exact this
      have hcw : wr.cell? ⟨b, off + k, none⟩ = some (.slice (some ⟨b', o', none⟩) (L.getD k []).length cj) := by
        rw [hbel.cell (p := ⟨b, off + k, none⟩) hblo]; exact hcell
      have y1 : ¬ 1 < (L.getD k []).length → (L.getD k []).getD 1 (-1) = -1 := fun hh => getD_past _ _ (by omega) _
      obtain ⟨xb0, xb1⟩ := getD_bd hsm 0
      obtain ⟨yb0, yb1⟩ := getD_bd hsm 1
      have hkL : (k : Int) < (L.length : Int) := by omega
      have hn3 := hsm.1
      have hcx := cnt_x (bs := L.getD k [])
      have hcs2 := cnt_s (bs := L.getD k [])
      have hcn := cnt_n (bs := L.getD k [])
      have hstep := score_step (L := L) (R := rolls) (k := k) (from' := (L.take k).flatten.length) hlt (by rw [← HFL.out]; exact take_flat_le L k)
      have htf := take_flat L k hlt
      have hfle : (L.take (k + 1)).flatten.length ≤ rolls.length := by rw [← HFL.out]; exact take_flat_le L (k + 1)
      have hcc := cnt_cases (L.getD k [])
      have HSTEP := Lib.hid (And.intro hstep (And.intro htf (And.intro hout (And.intro hown (And.intro hbel (And.intro hol hfle)))))); clear hstep htf hout hown hbel hol
      clear hcell hrd hcs hsm e0 hblt hblo
      have hn0 : 0 < (L.getD k []).length := by omega
      generalize hm : cntF (L.getD k []) = m at *
      have HM := Lib.hid hm; clear hm
      generalize hnn : (L.getD k []).length = nn at *
      have HNN := Lib.hid hnn; clear hnn
      generalize (L.getD k []).getD 0 (-1) = x at *
      generalize (L.getD k []).getD 1 (-1) = y at *
      have hwx : IntKind.i64.wrap (x + y) = x + y := IntWalk.i64_in _ (by omega)
      generalize hfr : (L.take k).flatten.length = fr at *
      have HFR := Lib.hid hfr; clear hfr
      have HCC := Lib.hid hcc; clear hcc
      go_upto_region 7 with (fail)
      go_cut [17, 40] from 17 to 82 (fun s17 s40 wx => s17 = .int .i64 (k : Int) ∧ s40 = .bool (decide (m = 3)) ∧ ∃ nq, wx = wr.drewN nq)
      case first =>
        by_cases hx : x = 10
        · have hm3 : decide (m = 3) = true := by simp [hcx hx]
          have HM3 := Lib.hid hm3
          have hx' : (x == 10) = true := by simp [hx]
          clear hcx hcs2 hcn x1 y1 hx hm3
          go_quiet (fail)
          go_wp2_with fail
          go_meet
          exact ⟨rfl, by rw [HM3.out], _, rfl⟩
        · have hx' : (x == 10) = false := by simp [hx]
          by_cases hn1 : 1 < nn
          · have x1' := x1 hn1
            have hn1' : decide ((1 : Int) < (nn : Int)) = true := by simp; omega
            by_cases hs : x + y = 10
            · have hm3 : decide (m = 3) = true := by simp [hcs2 hx hs]
              have HM3 := Lib.hid hm3
              have hs' : (x + y == 10) = true := by simp [hs]
              clear hcx hcs2 hcn x1 y1 hx hm3 hs
              go_quiet (fail)
              go_wp2_with fail
              go_meet
              exact ⟨rfl, by rw [HM3.out], _, rfl⟩
            · have hm3 : decide (m = 3) = false := by simp [hcn hx hs]
              have HM3 := Lib.hid hm3
              have hs' : (x + y == 10) = false := by simp [hs]
              clear hcx hcs2 hcn x1 y1 hx hm3 hs
              go_quiet (fail)
              go_wp2_with fail
              go_meet
              exact ⟨rfl, by rw [HM3.out], _, rfl⟩
          · have hn1' : decide ((1 : Int) < (nn : Int)) = false := by simp; omega
            have hy := y1 hn1
            have hm3 : decide (m = 3) = false := by simp [hcn hx (by omega)]
            have HM3 := Lib.hid hm3
            clear hcx hcs2 hcn x1 y1 hx hm3 hy
            go_quiet (fail)
            go_wp2_with fail
            go_meet
            exact ⟨rfl, by rw [HM3.out], _, rfl⟩
      case rest =>
        obtain ⟨ha17, ha40, nq, hwc⟩ := hcut
        subst ha17 ha40
        clear hcx hcs2 hcn x0 x1 y1 hcw xb0 xb1 yb0 yb1 hwx HAT
        have hbw : Below w2.heap.size w2 wc := by rw [hwc]; exact below_drewN HSTEP.out.2.2.2.2.1 nq
        have how : wc.ownsRow w2.heap.size 3 1 u5 out.length (ints out) := by rw [hwc]; exact HSTEP.out.2.2.2.1
        have HW := Lib.hid (And.intro hbw how); clear hbw how hwc
        rcases HCC.out with hm3 | hm3
        · subst hm3
          have hd3 : decide ((3 : Nat) = 3) = true := by decide
          rw [hd3]
          clear hd3
          have hfi : (fr : Int) ≤ 30 := by have := HSTEP.out.2.1; omega
          go_upto_region 9 with (fail)
          go_cut [17, 58] from 17 to 82 (fun s17 s58 wx => s17 = .int .i64 (k : Int) ∧ s58 = .bool (decide (rolls.length < fr + 3)) ∧ Hid (Below wc.heap.size wc wx))
          case first =>
            have hB0 := Lib.hid (Below.refl wc.heap.size wc)
            by_cases hkF : k + 1 = F
            · have hk1 : ((k : Int) == (F : Int) - 1) = true := by simp; omega
              have hFk : F - 1 = k := by omega
              have hop := HOP.out
              rw [hFk, HM.out, HFR.out] at hop
              have HOP2 := Lib.hid hop; clear hop hFk hkF
              have hrw := HR.out.old (B2.out.trans (HW.out.1.mono B2.out.size))
              have HOV2 := Lib.hid (HOV.out _ hrw); clear hrw
              go_wp2_with fail
              refine HOV2.out.mono ?_; rintro e w5 ⟨rfl, b5⟩
              have B5 := Lib.hid b5; clear b5
              cases ov
              · have hbr : decide (rolls.length < fr + 3) = true := by simp; exact HOP2.out rfl hlt
                have HBR := Lib.hid hbr; clear hbr
                go_wp2_with fail
                go_meet
                exact ⟨rfl, by rw [HBR.out], B5⟩
              · by_cases hbr : rolls.length < fr + 3
                · have hbi : decide ((rolls.length : Int) < (fr : Int) + 3) = true := by simp; omega
                  have HBR := Lib.hid (show decide (rolls.length < fr + 3) = true by simp; omega); clear hbr
                  go_wp2_with fail
                  go_meet
                  exact ⟨rfl, by rw [HBR.out], B5⟩
                · have hbi : decide ((rolls.length : Int) < (fr : Int) + 3) = false := by simp; omega
                  have HBR := Lib.hid (show decide (rolls.length < fr + 3) = false by simp; omega); clear hbr
                  go_wp2_with fail
                  go_meet
                  exact ⟨rfl, by rw [HBR.out], B5⟩
            · have hk1 : ((k : Int) == (F : Int) - 1) = false := by simp; omega
              by_cases hbr : rolls.length < fr + 3
              · have hbi : decide ((rolls.length : Int) < (fr : Int) + 3) = true := by simp; omega
                have HBR := Lib.hid (show decide (rolls.length < fr + 3) = true by simp; omega); clear hbr
                go_wp2_with fail
                go_meet
                exact ⟨rfl, by rw [HBR.out], hB0⟩
              · have hbi : decide ((rolls.length : Int) < (fr : Int) + 3) = false := by simp; omega
                have HBR := Lib.hid (show decide (rolls.length < fr + 3) = false by simp; omega); clear hbr
                go_wp2_with fail
                go_meet
                exact ⟨rfl, by rw [HBR.out], hB0⟩
          case rest =>
            obtain ⟨ha17, ha58, hbw⟩ := hcut
            subst ha17 ha58
            have hbel := HW.out.1.trans (hbw.out.mono HW.out.1.size)
            have how := owns_below HW.out.2 hbw.out
            clear hbw
            by_cases hbr : rolls.length < fr + 3
            · have hd : decide (rolls.length < fr + 3) = true := by simp; omega
              rw [hd]
              have hend : out = scoreL L rolls := by
                have h1 := HSTEP.out.2.2.1
                have h2 := HSTEP.out.1
                rw [if_pos (by omega)] at h2
                rw [h2, List.append_nil] at h1; exact h1
              have HE := Lib.hid (And.intro hend (And.intro how hbel)); clear hend how hbel hd
              go_wp2_with fail
              go_ret
              refine ⟨_, rfl, ?_, B2.out.trans (HE.out.2.2.mono B2.out.size)⟩
              rw [← HE.out.1]
              exact owns_base HE.out.2.1 B2.out.size
            · have hd : decide (rolls.length < fr + 3) = false := by simp; omega
              rw [hd]
              obtain ⟨b1, o1, ea, hlt1, hcells⟩ := cells_of_reads (HR.out.old (B2.out.trans (hbel.mono B2.out.size))) (by omega)
              subst ea
              have hsl := fun w => slice_part b1 o1 rolls.length c fr 3 ((fr : Int) + 3) rfl (by omega) hc (by omega) w
              have HCE := Lib.hid hcells; clear hcells
              have HE := Lib.hid (And.intro how hbel); clear how hbel hd
              generalize wc = W at *
              have hlen := out_bd HSTEP.out.2.2.1
              have hol10 : out.length ≤ 10 := by omega
              clear hlen
              go_wp2_with fail
              go_loop [10, 66] (fun sm j => ∃ jn : Nat, j = .int .i64 jn ∧ jn ≤ 3 ∧ sm = .int .i64 ((rolls.drop fr).take jn).sum) (fun _ j => 3 - (intOf j).toNat)
              case atStart => exact ⟨0, rfl, Nat.zero_le _, by simp⟩
              case round =>
                obtain ⟨j, rfl, hj, rfl⟩ := hrel
                have hbd := part_bd rolls fr j HB10.out
                by_cases hjm : j < 3
                · have hc1 := HCE.out (fr + j) (by omega)
                  rw [← Nat.add_assoc] at hc1
                  have hx := getD_in rolls (fr + j) (by omega) HB10.out
                  have hps := part_sum rolls fr j (by omega)
                  have HPS := Lib.hid hps; clear hps
                  have hjm' : (j : Int) < 3 := by omega
                  generalize rolls.getD (fr + j) 0 = x at *
                  generalize ((rolls.drop fr).take j).sum = sj at *
                  go_wp2_with fail
                  go_round
                  case rel => exact ⟨j + 1, by go_num, by omega, by rw [HPS.out]⟩
                  case measure => simp [intOf]; omega
                · obtain rfl : j = 3 := by omega
                  have hsum : (rolls.drop fr).take 3 = (rolls.drop fr).take 3 := rfl
                  generalize hsj : ((rolls.drop fr).take 3).sum = sj at *
                  have HSJ := Lib.hid hsj; clear hsj hsum
                  go_wp2_with (at_builtin; refine wpList_append_own_at _ rfl _ _ 22 rfl w2.heap.size 3 i0 (.int .i64 0) 1 8 Try.underlying22 HI.out.1 HI.out.2.1 HI.out.2.2.1 HI.out.2.2.2 rfl (by decide) _ _ _ rfl (HE.out.1.alloc _) ⟨W.heap.size, 0, none⟩ 1 1 [.int .i64 sj] rfl rfl (cell_one_new _ _ _) ?_ ?_ ?_ ?_ ?_)
                  · first | (intro u hu; simp at hu; subst hu; rfl) | rfl | simp
                  · unfold maxLen; omega
                  · omega
                  · have := HE.out.2.size; simp; omega
                  intro v7 w7 hown7 hgrow _ _
                  have hbel7 : Below w2.heap.size w2 w7 := below_grown (HE.out.2.alloc HE.out.2.size _) (HE.out.1.alloc _) hgrow (by have := HE.out.2.size; simp; omega)
                  have hrel7 : ScA L rolls w2 (k + 1) v7 (.int .i64 ((fr : Int) + (nn : Int))) w7 := by
                    refine ⟨out ++ [sj], ?_, by simp [HSTEP.out.2.2.2.2.2.1], ?_, ?_, hbel7⟩
                    · rw [HSTEP.out.2.1]; push_cast; rfl
                    · have h1 := HSTEP.out.2.2.1
                      have h2 := HSTEP.out.1
                      rw [if_neg (by omega)] at h2
                      rw [HSTEP.out.2.1]
                      try rw [HSJ.out] at h2
                      rw [h2] at h1
                      rw [List.append_assoc]; exact h1
                    · rw [List.length_append, show ints (out ++ [sj]) = ints out ++ [.int .i64 sj] from by simp [ints]]; exact hown7
                  have H7 := Lib.hid hrel7; clear hrel7 hown7 hgrow hbel7
                  have hnn3 : (nn : Int) ≤ 3 := by omega
                  go_wp2_with fail
                  go_roundw
                  case rel => first | exact ⟨k + 1, by go_num, by omega, H7⟩ | ((repeat apply Exists.intro); exact ⟨⟨k + 1, by go_num, by omega, H7⟩, rfl⟩)
                  case measure => simp [intOf]; omega
        · subst hm3
          have hd3 : decide ((2 : Nat) = 3) = false := by decide
          rw [hd3]
          clear hd3
          have hfi : (fr : Int) ≤ 30 := by have := HSTEP.out.2.1; omega
          go_upto_region 9 with (fail)
          go_cut [17, 58] from 17 to 82 (fun s17 s58 wx => s17 = .int .i64 (k : Int) ∧ s58 = .bool (decide (rolls.length < fr + 2)) ∧ Hid (Below wc.heap.size wc wx))
          case first =>
            have hB0 := Lib.hid (Below.refl wc.heap.size wc)
            by_cases hkF : k + 1 = F
            · have hk1 : ((k : Int) == (F : Int) - 1) = true := by simp; omega
              have hFk : F - 1 = k := by omega
              have hop := HOP.out
              rw [hFk, HM.out, HFR.out] at hop
              have HOP2 := Lib.hid hop; clear hop hFk hkF
              have hrw := HR.out.old (B2.out.trans (HW.out.1.mono B2.out.size))
              have HOV2 := Lib.hid (HOV.out _ hrw); clear hrw
              go_wp2_with fail
              refine HOV2.out.mono ?_; rintro e w5 ⟨rfl, b5⟩
              have B5 := Lib.hid b5; clear b5
              cases ov
              · have hbr : decide (rolls.length < fr + 2) = true := by simp; exact HOP2.out rfl hlt
                have HBR := Lib.hid hbr; clear hbr
                go_wp2_with fail
                go_meet
                exact ⟨rfl, by rw [HBR.out], B5⟩
              · by_cases hbr : rolls.length < fr + 2
                · have hbi : decide ((rolls.length : Int) < (fr : Int) + 2) = true := by simp; omega
                  have HBR := Lib.hid (show decide (rolls.length < fr + 2) = true by simp; omega); clear hbr
                  go_wp2_with fail
                  go_meet
                  exact ⟨rfl, by rw [HBR.out], B5⟩
                · have hbi : decide ((rolls.length : Int) < (fr : Int) + 2) = false := by simp; omega
                  have HBR := Lib.hid (show decide (rolls.length < fr + 2) = false by simp; omega); clear hbr
                  go_wp2_with fail
                  go_meet
                  exact ⟨rfl, by rw [HBR.out], B5⟩
            · have hk1 : ((k : Int) == (F : Int) - 1) = false := by simp; omega
              by_cases hbr : rolls.length < fr + 2
              · have hbi : decide ((rolls.length : Int) < (fr : Int) + 2) = true := by simp; omega
                have HBR := Lib.hid (show decide (rolls.length < fr + 2) = true by simp; omega); clear hbr
                go_wp2_with fail
                go_meet
                exact ⟨rfl, by rw [HBR.out], hB0⟩
              · have hbi : decide ((rolls.length : Int) < (fr : Int) + 2) = false := by simp; omega
                have HBR := Lib.hid (show decide (rolls.length < fr + 2) = false by simp; omega); clear hbr
                go_wp2_with fail
                go_meet
                exact ⟨rfl, by rw [HBR.out], hB0⟩
          case rest =>
            obtain ⟨ha17, ha58, hbw⟩ := hcut
            subst ha17 ha58
            have hbel := HW.out.1.trans (hbw.out.mono HW.out.1.size)
            have how := owns_below HW.out.2 hbw.out
            clear hbw
            by_cases hbr : rolls.length < fr + 2
            · have hd : decide (rolls.length < fr + 2) = true := by simp; omega
              rw [hd]
              have hend : out = scoreL L rolls := by
                have h1 := HSTEP.out.2.2.1
                have h2 := HSTEP.out.1
                rw [if_pos (by omega)] at h2
                rw [h2, List.append_nil] at h1; exact h1
              have HE := Lib.hid (And.intro hend (And.intro how hbel)); clear hend how hbel hd
              go_wp2_with fail
              go_ret
              refine ⟨_, rfl, ?_, B2.out.trans (HE.out.2.2.mono B2.out.size)⟩
              rw [← HE.out.1]
              exact owns_base HE.out.2.1 B2.out.size
            · have hd : decide (rolls.length < fr + 2) = false := by simp; omega
              rw [hd]
              obtain ⟨b1, o1, ea, hlt1, hcells⟩ := cells_of_reads (HR.out.old (B2.out.trans (hbel.mono B2.out.size))) (by omega)
              subst ea
              have hsl := fun w => slice_part b1 o1 rolls.length c fr 2 ((fr : Int) + 2) rfl (by omega) hc (by omega) w
              have HCE := Lib.hid hcells; clear hcells
              have HE := Lib.hid (And.intro how hbel); clear how hbel hd
              generalize wc = W at *
              have hlen := out_bd HSTEP.out.2.2.1
              have hol10 : out.length ≤ 10 := by omega
              clear hlen
              go_wp2_with fail
              go_loop [10, 66] (fun sm j => ∃ jn : Nat, j = .int .i64 jn ∧ jn ≤ 2 ∧ sm = .int .i64 ((rolls.drop fr).take jn).sum) (fun _ j => 2 - (intOf j).toNat)
              case atStart => exact ⟨0, rfl, Nat.zero_le _, by simp⟩
              case round =>
                obtain ⟨j, rfl, hj, rfl⟩ := hrel
                have hbd := part_bd rolls fr j HB10.out
                by_cases hjm : j < 2
                · have hc1 := HCE.out (fr + j) (by omega)
                  rw [← Nat.add_assoc] at hc1
                  have hx := getD_in rolls (fr + j) (by omega) HB10.out
                  have hps := part_sum rolls fr j (by omega)
                  have HPS := Lib.hid hps; clear hps
                  have hjm' : (j : Int) < 2 := by omega
                  generalize rolls.getD (fr + j) 0 = x at *
                  generalize ((rolls.drop fr).take j).sum = sj at *
                  go_wp2_with fail
                  go_round
                  case rel => exact ⟨j + 1, by go_num, by omega, by rw [HPS.out]⟩
                  case measure => simp [intOf]; omega
                · obtain rfl : j = 2 := by omega
                  have hsum : (rolls.drop fr).take 2 = (rolls.drop fr).take 2 := rfl
                  generalize hsj : ((rolls.drop fr).take 2).sum = sj at *
                  have HSJ := Lib.hid hsj; clear hsj hsum
                  go_wp2_with (at_builtin; refine wpList_append_own_at _ rfl _ _ 22 rfl w2.heap.size 3 i0 (.int .i64 0) 1 8 Try.underlying22 HI.out.1 HI.out.2.1 HI.out.2.2.1 HI.out.2.2.2 rfl (by decide) _ _ _ rfl (HE.out.1.alloc _) ⟨W.heap.size, 0, none⟩ 1 1 [.int .i64 sj] rfl rfl (cell_one_new _ _ _) ?_ ?_ ?_ ?_ ?_)
                  · first | (intro u hu; simp at hu; subst hu; rfl) | rfl | simp
                  · unfold maxLen; omega
                  · omega
                  · have := HE.out.2.size; simp; omega
                  intro v7 w7 hown7 hgrow _ _
                  have hbel7 : Below w2.heap.size w2 w7 := below_grown (HE.out.2.alloc HE.out.2.size _) (HE.out.1.alloc _) hgrow (by have := HE.out.2.size; simp; omega)
                  have hrel7 : ScA L rolls w2 (k + 1) v7 (.int .i64 ((fr : Int) + (nn : Int))) w7 := by
                    refine ⟨out ++ [sj], ?_, by simp [HSTEP.out.2.2.2.2.2.1], ?_, ?_, hbel7⟩
                    · rw [HSTEP.out.2.1]; push_cast; rfl
                    · have h1 := HSTEP.out.2.2.1
                      have h2 := HSTEP.out.1
                      rw [if_neg (by omega)] at h2
                      rw [HSTEP.out.2.1]
                      try rw [HSJ.out] at h2
                      rw [h2] at h1
                      rw [List.append_assoc]; exact h1
                    · rw [List.length_append, show ints (out ++ [sj]) = ints out ++ [.int .i64 sj] from by simp [ints]]; exact hown7
                  have H7 := Lib.hid hrel7; clear hrel7 hown7 hgrow hbel7
                  have hnn3 : (nn : Int) ≤ 3 := by omega
                  go_wp2_with fail
                  go_roundw
                  case rel => first | exact ⟨k + 1, by go_num, by omega, H7⟩ | ((repeat apply Exists.intro); exact ⟨⟨k + 1, by go_num, by omega, H7⟩, rfl⟩)
                  case measure => simp [intOf]; omega
    · obtain rfl : k = L.length := by omega
      rw [List.drop_length] at hout
      simp only [scoreL, List.append_nil] at hout
      subst hout
      have H := Lib.hid (And.intro hown hbel); clear hown hbel
      go_wp2_with fail
      go_ret
      exact ⟨_, rfl, owns_base H.out.1 B2.out.size, B2.out.trans (H.out.2.mono B2.out.size)⟩
end Go.Proofs.Yteippgbaaipiiaa
