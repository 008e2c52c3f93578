/-
  Pins: the program's FrameScores.
-/
import Derived.Test.YteippgbaaipiiaaPnFs
namespace Go.Proofs.Yteippgbaaipiiaa
open Go.RowKit
set_option linter.unusedVariables false
set_option linter.unusedSimpArgs false

theorem sliced_part (b off l m n c : Nat) (hm : 0 < m) : sliced (some ⟨b, off, none⟩) l (l + m) (l + m) 1 = .slice (some ⟨b, off + l, none⟩) m m := by
  have hne : ¬ l + m = l := by omega
  have e : (⟨b, off, none⟩ : Addr).add (l * 1) = ⟨b, off + l, none⟩ := by unfold Addr.add; split <;> simp_all
  unfold sliced
  rw [if_neg hne, Option.map_some, e]
  congr 1 <;> omega
/-- 'x[l:l+m:l+m]'. -/
theorem slice_part3 (b off n c l m : Nat) (h : Int) (hh : h = (l : Int) + (m : Int)) (h1 : l + m ≤ n) (h2 : n ≤ c) (h3 : 0 < m) (w : World) :
    (Instr.slice 22 (.slice (some ⟨b, off, none⟩) n c) (some (.int .i64 (l : Int))) (some (.int .i64 h)) (some (.int .i64 h))).run Try.prog w = .ok (.slice (some ⟨b, off + l, none⟩) m m) w := by
  obtain ⟨i, hi⟩ := infoI
  rw [run_slice_lhm (P := Try.prog) (w := w) 22 (some ⟨b, off, none⟩) n c underI .i64 .i64 .i64 (l : Int) h h (by omega) (by omega) (by omega) (by omega)]
  rw [elemI, run_sizeOf (P := Try.prog) (w := w) hi, cellsI, Result.andThen_ok, hh]
  rw [show ((l : Int) + (m : Int)).toNat = l + m from by omega, Int.toNat_natCast, sliced_part b off l m n c h3]
theorem reads_part {w : World} {b off : Nat} {R : List Int} (hlt : b < w.heap.size) (h : ∀ j, j < R.length → w.cell? ⟨b, off + j, none⟩ = some (.int .i64 (R.getD j 0))) (l m : Nat) (hm : l + m ≤ R.length) : ((R.drop l).take m).length = m ∧ Reads w (some ⟨b, off + l, none⟩) (ints ((R.drop l).take m)) := by
  have hl : ((R.drop l).take m).length = m := by rw [List.length_take, List.length_drop]; omega
  refine ⟨hl, .inr ⟨b, off + l, rfl, hlt, fun j hj => ?_⟩⟩
  rw [ints_len, hl] at hj
  rw [Nat.add_assoc, h (l + j) (by omega), ints_get _ _ (by rw [hl]; exact hj)]
  congr 2
  rw [List.getD_eq_getElem?_getD, List.getD_eq_getElem?_getD, List.getElem?_take_of_lt hj, List.getElem?_drop]

def FsA (S : List (List Int)) (R : List Int) (w1 : World) (g k : Nat) (fr : Value) (wr : World) : Prop :=
  ∃ (out : List Int) (a : Option Addr) (c : Nat), fr = .int .i64 (((S.take k).flatten.length : Nat) : Int) ∧ out.length = k ∧ out ++ scoreL (S.drop k) (R.drop (S.take k).flatten.length) = scoreL S R ∧ CapAt wr g (.slice a out.length c) ∧ wr.ownsRow w1.heap.size 3 1 (.slice a out.length c) out.length (ints out) ∧ Below w1.heap.size w1 wr
def ScoR (o : Option St) (w : World) (e : Ending) (w' : World) : Prop :=
  (∀ s, o = some s → ∃ a c, e = .returned (.tuple #[.slice a (scoresG s).length c, .bool true]) ∧ w'.ownsRow w.heap.size 3 1 (.slice a (scoresG s).length c) (scoresG s).length (ints (scoresG s))) ∧
  (o = none → e = .returned (.tuple #[.slice none 0 0, .bool false])) ∧ Below w.heap.size w w'

set_option maxHeartbeats 6400000 in
set_option maxRecDepth 100000 in
theorem implFrameScores_any (f : Int) (rolls : List Int) (a : Option Addr) (c : Nat) (hc : rolls.length ≤ c) (w : World) (hl : (rolls.length : Int) ≤ 1000000000000) (h : Reads w a (ints rolls)) :
    Calls Try.prog 32 #[.int .i64 f, .slice a rolls.length c] w fun e w' => ScoR (goodR f rolls) w e w' := by
  have hs := sheetOf_any f rolls a c w hl h
  cases hg : goodR f rolls with
  | none =>
    rw [hg] at hs
    have HS := Lib.hid hs; clear hs hg h
    go_enter Try.func32, Try.ntmps32
    go_wp2_with fail
    refine HS.out.mono ?_; rintro e w1 ⟨-, hn, b1⟩
    obtain rfl := hn rfl
    have z1 := b1.size
    have B1 := Lib.hid b1; clear hn b1
    go_wp2_with fail
    refine wp_loop_rounds 1 ?_
    rw [rounds_succ]
    go_wp2_with fail
    go_ret2
    exact ⟨(fun s hs => by cases hs), (fun _ => rfl), B1.out.alloc z1 _⟩
  | some s =>
    rw [hg] at hs
    obtain ⟨F, rfl, h1, h2, hgm, hi, hro⟩ := goodR_some hg
    have HS : Hid (Calls Try.prog 59 #[.int .i64 (F : Int), .slice a rolls.length c] w fun e w' => (∃ g, e = .returned (.tuple #[.slice (some ⟨g, 0, none⟩) F F, .bool true]) ∧ ShAt w' g (sheetG F s)) ∧ Below w.heap.size w w') := Lib.hid (hs.mono (fun e w' hh => by
      obtain ⟨g, e1, e2, -⟩ := hh.1 s rfl
      rw [show ((F : Nat) : Int).toNat = F from by simp] at e1 e2
      exact ⟨⟨g, e1, e2⟩, hh.2.2⟩))
    have hrl := flat_len hi
    rw [hro] at hrl
    have hb10 := game_fits _ _ _ hgm
    have hsc : scoresG s = scoreL (sheetG F s) rolls := by rw [← scores_sheet hi, hro]
    have hfl : (sheetG F s).flatten = rolls := by
      obtain ⟨k, hk⟩ := sheet_begun hi
      rw [hk, List.flatten_append, rolls_begun, hro]
      simp
    have hsl := sheet_len hi.1
    have hsm := sheet_small hi
    have HSC := Lib.hid hsc; clear hsc
    have HFL := Lib.hid hfl; clear hfl
    have HSL := Lib.hid hsl; clear hsl
    have HSM := Lib.hid hsm; clear hsm
    have HB10 := Lib.hid hb10; clear hb10
    have HR := Lib.hid h; clear h hs hg hgm hi hro
    generalize sheetG F s = S at *
    go_enter Try.func32, Try.ntmps32
    go_wp2_with fail
    refine HS.out.mono ?_; rintro e w1 ⟨⟨g, rfl, hsh⟩, b1⟩
    have H1 := Lib.hid (And.intro hsh b1)
    have h0 : FsA S rolls w1 w1.heap.size 0 (.int .i64 0) (w1.alloc (.cells #[.slice none 0 0] 22)) :=
      ⟨[], none, 0, by simp, rfl, by simp, heap_alloc_last w1 _, ⟨rfl, .inl ⟨rfl, rfl⟩⟩, below_new _ _⟩
    have H0 := Lib.hid h0; clear h0 hsh b1
    go_wp2_with fail
    generalize w1.alloc (.cells #[.slice none 0 0] 22) = X at *
    go_loopw [10, 23] (fun fr i wr => ∃ k : Nat, i = .int .i64 k ∧ k ≤ F ∧ Hid (FsA S rolls w1 w1.heap.size k fr wr)) (fun _ i _ => F - (intOf i).toNat)
    case atStart => exact ⟨0, rfl, Nat.zero_le _, H0⟩
    case round =>
      clear H0
      obtain ⟨k, rfl, hk, hA⟩ := hrel
      obtain ⟨out, oa, oc, hfr, hol, hout, hcap, hown, hbel⟩ := hA.out
      subst hfr
      clear hA
      by_cases hlt : k < F
      · have hkF : (k : Int) < (F : Int) := by omega
        have hkS : k < S.length := by rw [HSL.out]; exact hlt
        obtain ⟨c0, c1, c2⟩ := (H1.out.1.keep hbel).cells hkS
        have hcnt := fun w => ballsCounted_any (S.getD k []) (HSM.out k) w
        have hbal := fun w => balls_any (S.getD k []) (HSM.out k) w
        rw [show frV (S.getD k []) = .agg #[.int .i64 ((S.getD k []).getD 0 (-1)), .int .i64 ((S.getD k []).getD 1 (-1)), .int .i64 ((S.getD k []).getD 2 (-1))] from rfl] at hcnt hbal
        have hstep := score_step (L := S) (R := rolls) (k := k) (from' := (S.take k).flatten.length) hkS (by rw [← HFL.out]; exact take_flat_le S k)
        have htf := take_flat S k hkS
        have hfle : (S.take (k + 1)).flatten.length ≤ rolls.length := by rw [← HFL.out]; exact take_flat_le S (k + 1)
        have hcb := cntF_bd (S.getD k [])
        have hn3 := (HSM.out k).1
        have HSTEP := Lib.hid (And.intro hstep (And.intro htf (And.intro hout (And.intro hol hfle)))); clear hstep htf hout hol
        have HCAP := Lib.hid (And.intro hcap (And.intro hown hbel)); clear hcap hown
        generalize cntF (S.getD k []) = m at *
        generalize hnn : (S.getD k []).length = nn at *
        have HCN := Lib.hid hcnt; clear hcnt
        have HBA := Lib.hid hbal; clear hbal
        have HNN := Lib.hid hnn; clear hnn
        generalize (S.getD k []).getD 0 (-1) = x at *
        generalize (S.getD k []).getD 1 (-1) = y at *
        generalize (S.getD k []).getD 2 (-1) = z at *
        generalize hfr : (S.take k).flatten.length = fr at *
        have HFR := Lib.hid hfr; clear hfr
        have hfi : (fr : Int) ≤ 30 := by have := HSTEP.out.2.1; omega
        have hsz := hbel.size
        have hmi : (m : Int) ≤ 3 := by omega
        go_wp2_with fail
        refine (HCN.out _).mono ?_; rintro e w3 ⟨rfl, b3⟩
        have hP3 : PnAt (wr.alloc (.cells #[.int .i64 x, .int .i64 y, .int .i64 z] 55)) wr.heap.size [] → True := fun _ => trivial
        have hfc := three_cells (w := wr.alloc (.cells #[.int .i64 x, .int .i64 y, .int .i64 z] 55)) (heap_alloc_last wr _)
        have hcap3 := (HCAP.out.1.keep (below_new _ _)).keep b3
        have hown3 := owns_below (owns_below HCAP.out.2.1 (below_new _ _)) b3
        have hbel3 := (HCAP.out.2.2.alloc hsz _).trans (b3.mono (by simp; omega))
        have hf3 : w3.heap[wr.heap.size]? = some (.cells #[.int .i64 x, .int .i64 y, .int .i64 z] 55 (0, 0)) := by
          rw [b3.block _ (by simp)]; exact heap_alloc_last wr _
        have H3 := Lib.hid (And.intro hcap3 (And.intro hown3 (And.intro hbel3 hf3))); clear hP3 hfc hcap3 hown3 hbel3 hf3 b3 hbel c0 c1 c2
        by_cases hbr : rolls.length < fr + m
        · have hbi : decide ((rolls.length : Int) < (fr : Int) + (m : Int)) = true := by simp; omega
          have hend : out = scoreL S rolls := by
            have e1 := HSTEP.out.2.2.1
            have e2 := HSTEP.out.1
            rw [if_pos (by omega)] at e2
            rw [e2, List.append_nil] at e1; exact e1
          have HE := Lib.hid hend; clear hend
          have hce := H3.out.1.cell
          go_wp2_with fail
          go_ret2
          refine ⟨(fun s' hs' => ?_), (fun hn => by cases hn), H1.out.2.trans (H3.out.2.2.1.mono H1.out.2.size)⟩
          injection hs' with hs'
          subst hs'
          rw [HSC.out, ← HE.out]
          exact ⟨oa, oc, rfl, owns_base H3.out.2.1 H1.out.2.size⟩
        · have hbi : decide ((rolls.length : Int) < (fr : Int) + (m : Int)) = false := by simp; omega
          have hrd3 := HR.out.old (H1.out.2.trans (H3.out.2.2.1.mono H1.out.2.size))
          obtain ⟨b, off, ea, hltb, hcells⟩ := cells_of_reads hrd3 (by omega)
          subst ea
          have hsl := fun w => slice_part3 b off rolls.length c fr m ((fr : Int) + (m : Int)) rfl (by omega) hc (by omega) w
          obtain ⟨hpl, hpr⟩ := reads_part hltb hcells fr m (by omega)
          have hlen := out_bd HSTEP.out.2.2.1
          have hcl := count_any w1.heap.size w1.heap.size (Nat.le_refl _) (.slice oa out.length oc) out ((rolls.drop fr).take m) (by have := HSL.out; omega) (by omega) (fun x hx => by have := HB10.out x (List.mem_of_mem_drop (List.mem_of_mem_take hx)); omega) (some ⟨b, off + fr, none⟩) m w3 H3.out.1 H3.out.2.1 hpr
          rw [hpl] at hcl
          have HCL := Lib.hid hcl; clear hcl hpl hpr hcells hrd3 hlen
          generalize hsj : ((rolls.drop fr).take m).sum = sj at *
          have HSJ := Lib.hid hsj; clear hsj
          have hm0 : (2 : Int) ≤ (m : Int) := by omega
          go_wp2_with fail
          refine HCL.out.mono ?_; rintro e w5 ⟨rfl, ⟨a5, c5, hcap5, hown5⟩, hbel5, hk5⟩
          have hf5 := hk5 _ _ H3.out.2.2.2
          have hb5 := H3.out.2.2.1.trans (hbel5.mono (Nat.le_refl _))
          have hz5 := (Array.getElem?_eq_some_iff.1 hf5).1
          have hsz5 := hb5.size
          have H5 := Lib.hid (And.intro hcap5 (And.intro hown5 hb5))
          obtain ⟨c0, c1, c2, -, -, -⟩ := three_cells hf5
          clear hcap5 hown5 hbel5 hk5 hb5 hf5 hsl
          go_wp2_with fail
          refine (HBA.out _).mono ?_; rintro e w6 ⟨rfl, -, b6⟩
          have hrel : FsA S rolls w1 w1.heap.size (k + 1) (.int .i64 ((fr : Int) + (nn : Int))) w6 := by
            refine ⟨out ++ [sj], a5, c5, ?_, by simp [HSTEP.out.2.2.2.1], ?_, H5.out.1.keep b6, owns_below H5.out.2.1 b6, H5.out.2.2.trans (b6.mono hsz5)⟩
            · rw [HSTEP.out.2.1]; push_cast; rfl
            · have e1 := HSTEP.out.2.2.1
              have e2 := HSTEP.out.1
              rw [if_neg (by omega)] at e2
              try rw [HSJ.out] at e2
              rw [HSTEP.out.2.1]
              rw [e2] at e1
              rw [List.append_assoc]; exact e1
          have HREL := Lib.hid hrel; clear hrel b6 c0 c1 c2
          have hnn3 : (nn : Int) ≤ 3 := by omega
          go_wp2_with fail
          go_roundw
          case rel => exact ⟨k + 1, by go_num, by omega, HREL⟩
          case measure => simp [intOf]; omega
      · obtain rfl : k = F := by omega
        have hend : out = scoreL S rolls := by
          rw [List.drop_of_length_le (by rw [HSL.out]; exact Nat.le_refl _)] at hout
          simpa [scoreL] using hout
        have HOL := Lib.hid hol; clear hol
        have HE := Lib.hid (And.intro hend (And.intro hcap (And.intro hown hbel))); clear hend hout
        have hce := hcap.cell
        clear hown hbel hcap
        go_wp2_with fail
        go_ret2
        refine ⟨(fun s' hs' => ?_), (fun hn => by cases hn), H1.out.2.trans (HE.out.2.2.2.mono H1.out.2.size)⟩
        injection hs' with hs'
        subst hs'
        rw [HSC.out, ← HE.out.1]
        exact ⟨oa, oc, rfl, owns_base HE.out.2.2.1 H1.out.2.size⟩
end Go.Proofs.Yteippgbaaipiiaa
