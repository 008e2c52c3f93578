/-
  Goals: ScoresOn: the program's.
-/
import Derived.Test.YthbhhcpkilckkaaGoOnL
import Derived.Deep.CutRange
namespace Go.Proofs.Ythbhhcpkilckkaa
open Go.RowKit
set_option linter.unusedVariables false
set_option linter.unusedSimpArgs false

set_option maxHeartbeats 3200000 in
theorem implOn_any (ks : List Int) (game : ByteArray) (a : Option Addr) (c : Nat) (w : World) (hl : (ks.length : Int) ≤ 1000000000000) (hs : (game.size : Int) ≤ 1048576) (h : Reads w a (ints ks)) :
    Calls Try.prog 45 #[.slice a ks.length c, .string game] w fun e w' => PrR (onV (playG ks game.data.toList)) (playG ks game.data.toList).isSome w e w' := by
  have HS := Lib.hid (scoresOf_any ks game a c w hl hs h); clear h
  cases hp : playG ks game.data.toList with
  | none =>
    have HP := Lib.hid hp; clear hp
    go_enter Try.func45, Try.ntmps45
    go_wp2_with fail
    refine HS.out.mono ?_; rintro e w1 ⟨-, hn, b1⟩
    obtain rfl := hn HP.out
    clear hn
    go_wp2_with fail
    refine wp_loop_rounds 1 ?_
    rw [rounds_succ]
    go_wp2_with fail
    refine bodyPost_ret (v := .tuple #[.slice none 0 0, .bool false]) (by simp [results, Try.results45, go_sem]) rfl ⟨_, rfl, FrC.nil _ _, b1⟩
  | some L =>
    obtain ⟨hg, hgm, hL60⟩ := playG_some hp
    have HP := Lib.hid hp; clear hp
    have hsl := scoresG_len L
    have hv : onV (some L) = rows2 (scoresG L) := rfl
    rw [hv]; clear hv
    rw [HP.out] at HS
    have HRW : Hid (∀ w' e, ScoresR (some L) w e w' → ∃ v, e = .returned (.tuple #[v, .bool true]) ∧ w'.ownsRow w.heap.size 62 2 v (L.length + 1) (prs (scoresG L)) ∧ Below w.heap.size w w') := fun w' e ⟨h1, _, h3⟩ => by obtain ⟨v, e1, e2⟩ := h1 L rfl; exact ⟨v, e1, e2, h3⟩
    clear hgm hg
    generalize scoresG L = sc at *
    have HSL := Lib.hid hsl
    generalize hn : L.length + 1 = n at *
    have HNL := Lib.hid hn; clear hn hsl
    have hn61 : (n : Int) ≤ 61 := by have := HNL.out; omega
    have hn1 : 0 < n := by have := HNL.out; omega
    simp only [Option.isSome]
    obtain ⟨i0, hi, hz0, hz1, hz2⟩ := info_parts infoSlice
    have HI := Lib.hid (And.intro hi (And.intro hz0 (And.intro hz1 hz2))); clear hi hz0 hz1 hz2
    go_enter Try.func45, Try.ntmps45
    go_wp2_with fail
    refine HS.out.mono ?_; rintro e w1 hsr
    obtain ⟨v, rfl, hrow, b1⟩ := HRW.out _ _ hsr
    clear hsr
    obtain ⟨g, cap, rfl, hlt, hc⟩ := prs_cells hrow HSL.out hn1
    have HC := Lib.hid (And.intro hlt (And.intro hc b1)); clear hc b1 hrow hlt
    go_wp2_with fail
    go_loopw [8, 19] (fun v i wr => ∃ (k : Nat) (vv : Value), vv = v ∧ i = .int .i64 k ∧ k ≤ n ∧ Hid (PairD w1.heap.size (sc.take k) vv wr ∧ Below w1.heap.size w1 wr)) (fun _ i _ => n - (intOf i).toNat)
    case atStart => exact ⟨0, _, rfl, rfl, Nat.zero_le _, Lib.hid ⟨PairD.nil _ _, Below.refl _ _⟩⟩
    case round =>
      obtain ⟨k, vv, hvv, rfl, hk, hG⟩ := hrel
      subst hvv
      by_cases hkn : k < n
      · have b1 : (k : Int) < (n : Int) := by omega
        have hkl : k < sc.length := by rw [HSL.out]; exact hkn
        obtain ⟨c0, c1⟩ := HC.out.2.1 k hkn
        rw [← hG.out.2.cell (p := ⟨g, k * 2, none⟩) HC.out.1] at c0
        rw [← hG.out.2.cell (p := ⟨g, k * 2 + 1, none⟩) HC.out.1] at c1
        have htk : sc.take (k + 1) = sc.take k ++ [((sc.getD k (0, 0)).1, (sc.getD k (0, 0)).2)] := by rw [List.take_succ_eq_append_getElem hkl, List.getD_eq_getElem?_getD, List.getElem?_eq_getElem hkl]; rfl
        have hrl : (sc.take k).length = k := by rw [List.length_take]; omega
        generalize (sc.getD k (0, 0)).1 = x at *
        generalize (sc.getD k (0, 0)).2 = y at *
        have HTK := Lib.hid htk; clear htk
        obtain ⟨r0, r1⟩ := two_new wr (.int .i64 x) (.int .i64 y) 62
        have hb2 := below_new wr (.cells #[.int .i64 x, .int .i64 y] 62)
        have hP2 := hG.out.1.keep hb2
        have hB2 := hG.out.2.trans (hb2.mono hG.out.2.size)
        obtain ⟨vs, ho, hrest⟩ := hP2
        rw [hrl] at ho
        have HP2 := Lib.hid (And.intro ho (And.intro hrest hB2))
        have HRL := Lib.hid hrl
        clear ho hrest hB2 hb2 hG hrl
        go_upto_region 6 with fail
        clear c0 c1
        generalize wr.alloc (.cells #[.int .i64 x, .int .i64 y] 62) = w2 at *
        generalize wr.heap.size = gq at *
        have hbs := HP2.out.2.2.size
        have HN := Lib.hid (fun o v => new_head w2 o v 22)
        have fin : ∀ (v' : Value) (w5 : World), w5.ownsRow w1.heap.size 22 1 v' (k + 1) (vs ++ [.slice (some ⟨w2.heap.size, 0, none⟩) 2 2]) → ((w2.alloc (.cells #[.int .i64 x, .int .i64 y] 3)).alloc (.cells #[.slice (some ⟨w2.heap.size, 0, none⟩) 2 2] 22)).grownBy w5 vv.ownBlock → PairD w1.heap.size (sc.take (k + 1)) v' w5 ∧ Below w1.heap.size w1 w5 := by
          intro v' w5 hown5 hgrow
          have hb5 := pair_grown HP2.out.1 hbs HP2.out.2.2 hgrow
          have hp : PairD w1.heap.size (sc.take k) vv w2 := ⟨vs, by rw [HRL.out]; exact HP2.out.1, HP2.out.2.1⟩
          refine ⟨?_, hb5⟩
          rw [HTK.out]
          refine hp.snoc' hbs ?_ hgrow
          exact ⟨vs, by rw [HRL.out]; exact HP2.out.1, HP2.out.2.1, by rw [HRL.out]; exact hown5⟩
        have HF := Lib.hid fin; clear fin
        go_wp2_with (at_builtin; refine wpList_append_own_at _ rfl _ _ 39 rfl w1.heap.size 22 i0 (.slice none 0 0) 1 24 Try.underlying39 HI.out.1 HI.out.2.1 HI.out.2.2.1 HI.out.2.2.2 rfl (by decide) _ _ _ rfl ((HP2.out.1.alloc _).alloc _) ⟨w2.heap.size + 1, 0, none⟩ 1 1 [.slice (some ⟨w2.heap.size, 0, none⟩) 2 2] rfl rfl (HN.out _ _) ?_ ?_ ?_ ?_ ?_)
        · first | rfl | (intro u hu; simp at hu; subst hu; rfl)
        · unfold maxLen; omega
        · omega
        · first | omega | (simp; omega)
        intro v' w5 hown5 hgrow _ _
        have H5 := Lib.hid (HF.out v' w5 hown5 hgrow)
        clear hown5 hgrow HP2 HN HF
        go_wp2_with fail
        go_roundw
        case rel => exact ⟨k + 1, _, rfl, by go_num, by omega, H5⟩
        case measure => simp [intOf]; omega
      · obtain rfl : k = n := by omega
        have hfin := hG.out.1
        rw [List.take_of_length_le (by rw [HSL.out]; exact Nat.le_refl _)] at hfin
        have HE := Lib.hid (And.intro (hfin.base HC.out.2.2.size).c (HC.out.2.2.trans (hG.out.2.mono HC.out.2.2.size))); clear hfin hG
        go_wp2_with fail
        refine bodyPost_ret (v := .tuple #[vv, .bool true]) (by simp [results, Try.results45, go_sem]) rfl ⟨_, rfl, HE.out.1, HE.out.2⟩
end Go.Proofs.Ythbhhcpkilckkaa
