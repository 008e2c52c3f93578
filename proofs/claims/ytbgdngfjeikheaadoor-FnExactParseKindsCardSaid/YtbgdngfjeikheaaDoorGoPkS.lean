/-
  Kinds out of a text: the model.
-/
import Derived.Test.YtbgdngfjeikheaaDoorGoPk
namespace Go.Proofs.YtbgdngfjeikheaaDoor
open Go.RowKit
set_option linter.unusedVariables false
set_option linter.unusedSimpArgs false

set_option maxHeartbeats 3200000 in
set_option maxRecDepth 100000 in
theorem specParseKinds_any (s : ByteArray) (hs : (s.size : Int) ≤ 1048576) (w : World) :
    Calls Tryd.prog 33 #[.string s] w fun e w' => RowR (valMk s) (okMk s) w e w' := by
  by_cases h20 : s.size ≤ 20
  · have hsp := fun w => l1Split_any s 45 hs w
    rw [show (((45 : UInt8).toNat : Nat) : Int) = 45 from rfl] at hsp
    have hps := fun p (hp : p ∈ pcs s) => cutP_size s 45 s.size 0 p hp
    have hpl := cutP_len s 45 s.size 0
    change (pcs s).length ≤ _ at hpl
    change ∀ w : World, Calls _ _ _ _ (fun e w' => ∃ v, e = .returned v ∧ w'.ownsRow w.heap.size _ 1 v (pcs s).length (strS (pcs s)) ∧ _) at hsp
    have hks : ksM s = (pcs s).map fun p => readL p.data.toList := rfl
    have hv : valMk s = if okMk s then ksM s else [] := rfl
    have hok : okMk s = (decide (s.size ≤ 20) && (goodK (ksM s) && decide (textsK (ksM s) = s.data.toList))) := rfl
    rw [decide_eq_true h20, Bool.true_and] at hok
    generalize okMk s = o at *
    generalize valMk s = V at *
    have hkl : (ksM s).length = (pcs s).length := by rw [hks]; simp
    generalize ksM s = ks at *
    generalize pcs s = ps at *
    have HAT := Lib.hid (fun p (hp : p ∈ ps) w => l1Read_any p (by have := hps p hp; omega) w)
    have HKT := Lib.hid (fun a c w h => goKinds_any ks a c w (by omega) h)
    have HSP := Lib.hid hsp
    have HK := Lib.hid (And.intro hks hkl)
    have HVO := Lib.hid (And.intro hv hok)
    have hpn : (ps.length : Int) ≤ 21 := by omega
    have d20 : ¬ (20 : Int) < (s.size : Int) := by omega
    clear hsp hks hkl hv hok hps hpl h20
    obtain ⟨i0, hi, hz0, hz1, hz2⟩ := info_parts infoInt
    have HI := Lib.hid (And.intro hi (And.intro hz0 (And.intro hz1 hz2))); clear hi hz0 hz1 hz2
    go_enter Tryd.func33, Tryd.ntmps33
    go_wp2_with fail
    refine (HSP.out _).mono ?_; rintro e w1 ⟨v0, rfl, hown, hbel⟩
    obtain ⟨a0, c0', rfl, hrd, -, -, -⟩ := Reads.own hown
    clear hown
    have HB0 := Lib.hid hbel; clear hbel
    have HR0 := Lib.hid hrd; clear hrd
    have H0 : Hid (PkAt w1.heap.size w1 (fun p => readL p.data.toList) ps 0 (.slice none 0 0) w1) := ⟨⟨rfl, .inl ⟨rfl, rfl⟩⟩, Below.refl _ _⟩
    go_wp2_with fail
    go_loopw [4, 13] (fun v i wr => ∃ k : Nat, i = .int .i64 k ∧ k ≤ ps.length ∧ Hid (PkAt w1.heap.size w1 (fun p => readL p.data.toList) ps k v wr)) (fun _ i _ => ps.length - (intOf i).toNat)
    case atStart => exact ⟨0, rfl, Nat.zero_le _, H0⟩
    case round =>
      clear H0
      obtain ⟨k, rfl, hk, hH⟩ := hrel
      by_cases hlt : k < ps.length
      · have hb : (k : Int) < (ps.length : Int) := by omega
        rcases HR0.out.old hH.out.2 with hr | ⟨b, off, rfl, hlb2, hc⟩
        · have := congrArg List.length hr; simp [strS] at this; rw [this] at hlt; simp at hlt
        have c0 := hc k (by simp [strS]; omega)
        rw [show (strS ps)[k]? = some (.string ps[k]) from by simp [strS, hlt]] at c0
        clear hc
        have hst : (ps.take (k + 1)).map (fun p => readL p.data.toList) = (ps.take k).map (fun p => readL p.data.toList) ++ [readL (ps[k]).data.toList] := pk_step (fun p => readL p.data.toList) ps k hlt
        have HS := Lib.hid hst; clear hst
        have hat := fun w => HAT.out ps[k] (List.getElem_mem hlt) w
        generalize ps[k] = p at *
        have HA := Lib.hid hat; clear hat
        generalize readL p.data.toList = x at *
        go_wp2_with fail
        refine (HA.out _).mono ?_; rintro e w2 ⟨rfl, rfl⟩
        have hO := Lib.hid (And.intro hH.out.1 hH.out.2)
        have hbs := hO.out.2.size
        have HN := Lib.hid (cell_one_new wr (.int .i64 x) 3)
        clear c0 hH
        go_wp2_with (at_builtin; refine wpList_append_own_at _ rfl _ _ 54 rfl w1.heap.size 3 i0 (.int .i64 0) 1 8 Tryd.underlying54 HI.out.1 HI.out.2.1 HI.out.2.2.1 HI.out.2.2.2 rfl (by decide) _ _ _ rfl (hO.out.1.alloc _) ⟨wr.heap.size, 0, none⟩ 1 1 [.int .i64 x] rfl rfl HN.out ?_ ?_ ?_ ?_ ?_)
        · intro u hu; simp at hu; subst hu; rfl
        · unfold maxLen; omega
        · omega
        · simp; omega
        intro v' w3 hown3 hgrow _ _
        have hbel3 := pk_grown hO.out.1 hbs hO.out.2 _ hgrow
        rw [pk_snoc] at hown3
        have H3 : Hid (PkAt w1.heap.size w1 (fun p => readL p.data.toList) ps (k + 1) v' w3) := ⟨by rw [HS.out]; first | exact hown3 | (rw [List.map_take]; exact hown3), hbel3⟩
        clear hown3 hgrow hbel3
        go_wp2_with fail
        go_roundw
        case rel => exact ⟨k + 1, by go_num, by omega, H3⟩
        case measure => simp [intOf]; omega
      · obtain rfl : k = ps.length := by omega
        have ho := hH.out.1
        have hob := hH.out.2
        rw [List.take_length, ← HK.out.1, ← HK.out.2] at ho
        obtain ⟨a, c, rfl, hrd, -, -, -⟩ := Reads.own ho
        have HO := Lib.hid (And.intro ho hob); clear ho hob hH
        have HR := Lib.hid hrd; clear hrd
        have hbs := HO.out.2.size
        have hkt := fun w h => HKT.out a c w h
        have hbW := HB0.out.size
        cases hg : goodK ks
        · rw [hg] at hkt
          have HT := Lib.hid hkt
          have HF : Hid (V = [] ∧ o = false) := by
            have ho : o = false := by rw [HVO.out.2, hg]; rfl
            exact ⟨by rw [HVO.out.1, ho]; rfl, ho⟩
          clear hkt hg
          go_wp2_with fail
          refine (HT.out _ HR.out).mono ?_; rintro e w4 ⟨rfl, b4⟩
          have HB4 := Lib.hid (HB0.out.trans ((HO.out.2.trans (b4.mono hbs)).mono hbW)); clear b4
          go_wp2_with fail
          refine bodyPost_ret (v := .tuple #[.slice none 0 0, .bool false]) (by simp [results, Tryd.results33, go_sem]) rfl ?_
          rw [HF.out.1, HF.out.2]
          exact ⟨_, rfl, owns_nil _ _ _, HB4.out⟩
        · rw [hg] at hkt
          have hgt := fun w h => goText_any ks (good_mem hg) a c w (by have := (good_len hg).2; omega) h
          have hq := eq_listPk (textsK ks) s
          by_cases ht : textsK ks = s.data.toList
          all_goals
            first | rw [decide_eq_true ht] at hq | rw [decide_eq_false ht] at hq
            have HF : Hid ((textsK ks = s.data.toList → V = ks ∧ o = true) ∧ (¬ textsK ks = s.data.toList → V = [] ∧ o = false)) := by
              refine ⟨fun ht => ?_, fun ht => ?_⟩
              · have ho : o = true := by rw [HVO.out.2, hg, ht]; simp
                exact ⟨by rw [HVO.out.1, ho]; rfl, ho⟩
              · have ho : o = false := by rw [HVO.out.2, hg, decide_eq_false ht]; rfl
                exact ⟨by rw [HVO.out.1, ho]; rfl, ho⟩
            first | replace HF := Lib.hid (HF.out.1 ht) | replace HF := Lib.hid (HF.out.2 ht)
            generalize (⟨(textsK ks).toArray⟩ : ByteArray) = T at *
            have HT := Lib.hid (And.intro hkt hgt)
            clear hkt hgt hg ht
            go_wp2_with fail
            refine (HT.out.1 _ HR.out).mono ?_; rintro e w4 ⟨rfl, b4⟩
            have HB4 := Lib.hid (And.intro (HO.out.2.trans (b4.mono hbs)) (And.intro (owns_below HO.out.1 b4) (HR.out.old b4))); clear b4
            go_wp2_with fail
            refine (HT.out.2 _ HB4.out.2.2).mono ?_; rintro e w5 ⟨rfl, b5⟩
            have hb4 := HB4.out.1.size
            have HB5 := Lib.hid (And.intro (HB0.out.trans ((HB4.out.1.trans (b5.mono hb4)).mono hbW)) (pk_base (owns_below HB4.out.2.1 b5) hbW)); clear b5
            go_wp2_with fail
            first
              | (refine bodyPost_ret (v := .tuple #[.slice none 0 0, .bool false]) (by simp [results, Tryd.results33, go_sem]) rfl ?_
                 rw [HF.out.1, HF.out.2]
                 exact ⟨_, rfl, owns_nil _ _ _, HB5.out.1⟩)
              | (refine bodyPost_ret (v := .tuple #[.slice a ks.length c, .bool true]) (by simp [results, Tryd.results33, go_sem]) rfl ?_
                 rw [HF.out.1, HF.out.2]
                 exact ⟨_, rfl, HB5.out.2, HB5.out.1⟩)
  · have e : okMk s = false := by unfold okMk; rw [decide_eq_false h20]; rfl
    have e2 : valMk s = [] := by unfold valMk; rw [e]; rfl
    rw [e, e2]
    have d20 : (20 : Int) < (s.size : Int) := by omega
    clear e e2 h20
    go_enter Tryd.func33, Tryd.ntmps33
    go_wp2_with fail
    refine bodyPost_ret (v := .tuple #[.slice none 0 0, .bool false]) (by simp [results, Tryd.results33, go_sem]) rfl ?_
    exact ⟨_, rfl, owns_nil _ _ _, Below.refl _ _⟩
end Go.Proofs.YtbgdngfjeikheaaDoor
