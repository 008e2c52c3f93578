/-
  Goals: NotReached: the model's and the program's.
-/
import Derived.Test.YthlkndloggmehaaGoFew
import Derived.Test.YthlkndloggmehaaGoLawS
namespace Go.Proofs.Ythlkndloggmehaa
open Go.RowKit
set_option linter.unusedVariables false
set_option linter.unusedSimpArgs false

def OutAt (ks : List Int) (B : Nat) (w : World) (k : Nat) (v : Value) (wr : World) : Prop := wr.ownsRow B 3 1 v (outG ks k).length (ints (outG ks k)) ∧ Below w.heap.size w wr
theorem row_grown {B : Nat} {w w2 w3 : World} {T : TypeId} {v : Value} {n : Nat} {xs : List Value} {x : Value} (h : w2.ownsRow B T 1 v n xs) (hb : B ≤ w2.heap.size) (hbel : Below B w w2) (t : TypeId) (hg : (w2.alloc (.cells #[x] t)).grownBy w3 v.ownBlock) : Below B w w3 :=
  (hbel.alloc hb _).grown hg (by simp; omega) (fun g hg => by
    obtain ⟨_, h | ⟨g', cap, cur, hv, hb', _⟩⟩ := h
    · rw [h.1] at hg; cases hg
    · rw [hv] at hg; simp [Value.ownBlock] at hg; omega)
theorem new_cell (w : World) (x : Int) (t : TypeId) : ∀ j' u, ([.int .i64 x] : List Value)[j']? = some u → (w.alloc (.cells #[.int .i64 x] t)).cell? ((⟨w.heap.size, 0, none⟩ : Addr).add j') = some u := by
  intro j' u hu
  have e0 : j' = 0 := by have := (List.getElem?_eq_some_iff.1 hu).1; simp at this; omega
  subst e0
  simp at hu; subst hu
  rw [add_zero_addr]
  exact cell_of_row _ _ 0 _ _ _ (heap_alloc_last w _)

set_option maxHeartbeats 3200000 in
theorem outOf_any (ks : List Int) (hk : ∀ x ∈ ks, 1 ≤ x ∧ x ≤ 20) (m : Nat) (hm : (m : Int) ≤ 900) (a : Option Addr) (c : Nat) (w : World) (hl : (ks.length : Int) ≤ 1000000000000) (h : Reads w a (ints ks)) :
    Calls Try.prog 106 #[.slice a ks.length c, .int .i64 m] w fun e w' => ∃ v, e = .returned v ∧ OutAt ks w.heap.size w (m + 1) v w' := by
  have HF := Lib.hid (fewestBy_any ks hk m hm a c w hl h); clear h
  obtain ⟨i0, hi, hz0, hz1, hz2⟩ := info_parts infoInt
  have HI := Lib.hid (And.intro hi (And.intro hz0 (And.intro hz1 hz2))); clear hi hz0 hz1 hz2
  go_enter Try.func106, Try.ntmps106
  go_wp2_with fail
  refine HF.out.mono ?_; rintro e w1 ⟨v, rfl, ht⟩
  obtain ⟨g, cap, rfl, hg1, hg2, hc⟩ := ht.cells
  have HT := Lib.hid (And.intro ht.2 (And.intro hg2 hc)); clear ht hc
  have hs1 := HT.out.1.size
  go_wp2_with fail
  go_loopw [5, 12] (fun v i wr => ∃ k : Nat, i = .int .i64 k ∧ k ≤ m + 1 ∧ Hid (OutAt ks w1.heap.size w1 k v wr)) (fun _ i _ => m + 1 - (intOf i).toNat)
  case atStart => exact ⟨0, rfl, Nat.zero_le _, Lib.hid ⟨owns_nil _ _ _, Below.refl _ _⟩⟩
  case round =>
    obtain ⟨k, rfl, hkm, hO⟩ := hrel
    have hn := outG_len ks k
    by_cases hlt : k < m + 1
    · have c0 : wr.cell? ⟨g, k, none⟩ = some (.int .i64 (fewP ks k)) := by
        rw [hO.out.2.cell (p := ⟨g, k, none⟩) HT.out.2.1]; exact HT.out.2.2 k (by omega)
      have b1 : (k : Int) < (m : Int) + 1 := by omega
      have hst := outG_succ ks k
      have HS := Lib.hid hst; clear hst
      generalize fewP ks k = t at *
      by_cases q : t = 1000
      · have hs := HS.out
        rw [if_pos q] at hs
        have HS2 := Lib.hid hs; clear hs
        have q1 : (t == 1000) = true := by simp [q]
        have HN := Lib.hid (new_cell wr (k : Int) 3)
        clear q
        have ho := hO.out.1
        have hob := hO.out.2
        generalize hlg : (outG ks k).length = len at ho hn
        have HL := Lib.hid hlg
        have HO := Lib.hid (And.intro ho hob); clear ho hob hO hlg
        have hbs := HO.out.2.size
        go_wp2_with (at_builtin; refine wpList_append_own_at _ rfl _ _ 45 rfl w1.heap.size 3 i0 (.int .i64 0) 1 8 Try.underlying45 HI.out.1 HI.out.2.1 HI.out.2.2.1 HI.out.2.2.2 rfl (by decide) _ _ _ rfl (HO.out.1.alloc _) ⟨wr.heap.size, 0, none⟩ 1 1 [.int .i64 (k : Int)] rfl rfl HN.out ?_ ?_ ?_ ?_ ?_)
        · intro u hu; simp at hu; subst hu; rfl
        · unfold maxLen; omega
        · omega
        · simp; omega
        intro v' w3 hown3 hgrow _ _
        have hbel3 := row_grown HO.out.1 hbs HO.out.2 _ hgrow
        rw [ints_snoc] at hown3
        have H3 : Hid (OutAt ks w1.heap.size w1 (k + 1) v' w3) := ⟨by rw [HS2.out, List.length_append, HL.out]; exact hown3, hbel3⟩
        clear hown3 hgrow hbel3
        go_wp2_with fail
        go_roundw
        case rel => exact ⟨k + 1, by go_num, by omega, H3⟩
        case measure => simp [intOf]; omega
      · have hs := HS.out
        rw [if_neg q] at hs
        have HS2 := Lib.hid hs; clear hs
        have q1 : (t == 1000) = false := by simp [q]
        clear q
        go_wp2_with fail
        go_roundw
        case rel => exact ⟨k + 1, by go_num, by omega, Lib.hid (by unfold OutAt; rw [HS2.out]; exact hO.out)⟩
        case measure => simp [intOf]; omega
    · obtain rfl : k = m + 1 := by omega
      have hO2 : Hid (wr.ownsRow w.heap.size 3 1 _ (outG ks (m + 1)).length (ints (outG ks (m + 1))) ∧ Below w.heap.size w wr) := ⟨owns_base hO.out.1 hs1, HT.out.1.trans (hO.out.2.mono hs1)⟩
      clear hO
      have b1 : ¬ (m : Int) + 1 < (m : Int) + 1 := by omega
      rw [show (((m + 1 : Nat)) : Int) = (m : Int) + 1 from rfl]
      go_wp2_with fail
      go_ret
      exact ⟨_, rfl, hO2.out⟩

def askR (ks : List Int) (s : Int) : List Int := if askedG ks s = true then outG ks (s.toNat + 1) else []

set_option maxHeartbeats 1600000 in
theorem implNot_row (l : List Int) (s : Int) (a : Option Addr) (c : Nat) (w : World) (hl : (l.length : Int) ≤ 1000000000000) (h : Reads w a (ints l)) :
    Calls Try.prog 58 #[.slice a l.length c, .int .i64 s] w fun e w' => RowR (askR l s) (askedG l s) w e w' := by
  have HK := Lib.hid (areKS_any l s a c w hl h)
  cases hg : askedG l s
  · have e1 : askR l s = [] := by simp [askR, hg]
    have HE := Lib.hid e1
    have HG := Lib.hid hg; clear hg e1 h
    go_enter Try.func58, Try.ntmps58
    go_wp2_with fail
    refine HK.out.mono ?_; rintro e w1 ⟨rfl, b1⟩
    rw [HG.out]
    go_wp2_with fail
    refine bodyPost_ret (v := .tuple #[.slice none 0 0, .bool false]) (by simp [results, Try.results58, go_sem]) rfl ⟨_, rfl, by rw [HE.out]; exact owns_nil _ _ _, b1⟩
  · obtain ⟨m, rfl, hm, hk⟩ := asked_nat hg
    have HF := Lib.hid (fun w' (hr : Reads w' a (ints l)) => outOf_any l hk m (by omega) a c w' hl hr)
    have e1 : askR l (m : Int) = outG l (m + 1) := by simp [askR, hg]
    have HE := Lib.hid e1
    have HG := Lib.hid hg; clear hg e1
    have HR := Lib.hid h; clear h
    go_enter Try.func58, Try.ntmps58
    go_wp2_with fail
    refine HK.out.mono ?_; rintro e w1 ⟨rfl, b1⟩
    rw [HG.out]
    have B1 := Lib.hid b1; clear b1
    go_wp2_with fail
    refine (HF.out _ (HR.out.old B1.out)).mono ?_; rintro e w2 ⟨v, rfl, ht⟩
    have B2 := Lib.hid (And.intro (owns_base ht.1 B1.out.size) (B1.out.trans (ht.2.mono B1.out.size))); clear ht
    go_wp2_with fail
    refine bodyPost_ret (v := .tuple #[v, .bool true]) (by simp [results, Try.results58, go_sem]) rfl ⟨_, rfl, by rw [HE.out]; exact B2.out.1, B2.out.2⟩

set_option maxHeartbeats 3200000 in
theorem specNot_row (l : List Int) (s : Int) (a : Option Addr) (c : Nat) (w : World) (hl : (l.length : Int) ≤ 1000000000000) (h : Reads w a (ints l)) :
    Calls Try.prog 56 #[.slice a l.length c, .int .i64 s] w fun e w' => RowR (askR l s) (askedG l s) w e w' := by
  have HK := Lib.hid (goAsked_any l s a c w hl h)
  cases hg : askedG l s
  · have e1 : askR l s = [] := by simp [askR, hg]
    have HE := Lib.hid e1
    have HG := Lib.hid hg; clear hg e1 h
    go_enter Try.func56, Try.ntmps56
    go_wp2_with fail
    refine HK.out.mono ?_; rintro e w1 ⟨rfl, b1⟩
    rw [HG.out]
    go_wp2_with fail
    refine bodyPost_ret (v := .tuple #[.slice none 0 0, .bool false]) (by simp [results, Try.results56, go_sem]) rfl ⟨_, rfl, by rw [HE.out]; exact owns_nil _ _ _, b1⟩
  · obtain ⟨m, rfl, hm, hk⟩ := asked_nat hg
    have HF := Lib.hid (fun w' (hr : Reads w' a (ints l)) => goFew_any l hk m (by omega) a c w' hl hr)
    have e1 : askR l (m : Int) = outG l (m + 1) := by simp [askR, hg]
    have HE := Lib.hid e1
    have HG := Lib.hid hg; clear hg e1
    have HR := Lib.hid h; clear h
    have HKK := Lib.hid hk; clear hk
    obtain ⟨i0, hi, hz0, hz1, hz2⟩ := info_parts infoInt
    have HI := Lib.hid (And.intro hi (And.intro hz0 (And.intro hz1 hz2))); clear hi hz0 hz1 hz2
    go_enter Try.func56, Try.ntmps56
    go_wp2_with fail
    refine HK.out.mono ?_; rintro e w0 ⟨rfl, b0⟩
    rw [HG.out]
    have B0 := Lib.hid b0; clear b0
    go_wp2_with fail
    refine (HF.out _ (HR.out.old B0.out)).mono ?_; rintro e w1 ⟨rfl, hrow, b2⟩
    have HT := Lib.hid (And.intro (B0.out.trans (b2.mono B0.out.size)) hrow); clear b2 hrow
    have hs1 := HT.out.1.size
    generalize hgg : w0.heap.size = g at *
    clear hgg
    go_wp2_with fail
    go_loopw [6, 17] (fun v i wr => ∃ (k : Nat) (vv : Value), vv = v ∧ i = .int .i64 k ∧ k ≤ m + 1 ∧ Hid (OutAt l w1.heap.size w1 k vv wr)) (fun _ i _ => m + 1 - (intOf i).toNat)
    case atStart => exact ⟨0, _, rfl, rfl, Nat.zero_le _, Lib.hid ⟨owns_nil _ _ _, Below.refl _ _⟩⟩
    case round =>
      obtain ⟨k, vv, hvv, rfl, hkm, hO⟩ := hrel
      subst hvv
      have hn := outG_len l k
      by_cases hlt : k < m + 1
      · have c0 : wr.cell? ⟨g, k, none⟩ = some (.int .i64 (asM (fewP l k))) := by
          rw [hO.out.2.cell (p := ⟨g, k, none⟩) HT.out.2.lt]; exact tabM_cells HKK.out (by omega) HT.out.2 (by omega)
        have b1 : (k : Int) < (m : Int) + 1 := by omega
        have hst := outG_succ l k
        have HS := Lib.hid hst; clear hst
        obtain ⟨t0, t1⟩ := fewP_bd (fun x hx => (HKK.out x hx).1) (s := k) (by omega)
        rw [show asM (fewP l k) = if fewP l k = 1000 then -1 else fewP l k from rfl] at c0
        generalize fewP l k = t at *
        by_cases q : t = 1000
        · have hs := HS.out
          rw [if_pos q] at hs c0
          have HS2 := Lib.hid hs; clear hs
          have HN := Lib.hid (new_cell wr (k : Int) 3)
          clear q t1 t0
          have ho := hO.out.1
          have hob := hO.out.2
          generalize hlg : (outG l k).length = len at ho hn
          have HL := Lib.hid hlg
          have HO := Lib.hid (And.intro ho hob); clear ho hob hO hlg
          have hbs := HO.out.2.size
          go_wp2_with (at_builtin; refine wpList_append_own_at _ rfl _ _ 45 rfl w1.heap.size 3 i0 (.int .i64 0) 1 8 Try.underlying45 HI.out.1 HI.out.2.1 HI.out.2.2.1 HI.out.2.2.2 rfl (by decide) _ _ _ rfl (HO.out.1.alloc _) ⟨wr.heap.size, 0, none⟩ 1 1 [.int .i64 (k : Int)] rfl rfl HN.out ?_ ?_ ?_ ?_ ?_)
          · intro u hu; simp at hu; subst hu; rfl
          · unfold maxLen; omega
          · omega
          · simp; omega
          intro v' w3 hown3 hgrow _ _
          have hbel3 := row_grown HO.out.1 hbs HO.out.2 _ hgrow
          rw [ints_snoc] at hown3
          have H3 : Hid (OutAt l w1.heap.size w1 (k + 1) v' w3) := ⟨by rw [HS2.out, List.length_append, HL.out]; exact hown3, hbel3⟩
          clear hown3 hgrow hbel3
          go_wp2_with fail
          go_roundw
          case rel => exact ⟨k + 1, _, rfl, by go_num, by omega, H3⟩
          case measure => simp [intOf]; omega
        · have hs := HS.out
          rw [if_neg q] at hs c0
          have HS2 := Lib.hid hs; clear hs
          have q1 : ¬ t < 0 := by omega
          clear q
          go_wp2_with fail
          go_roundw
          case rel => exact ⟨k + 1, _, rfl, by go_num, by omega, Lib.hid (by unfold OutAt; rw [HS2.out]; exact hO.out)⟩
          case measure => simp [intOf]; omega
      · obtain rfl : k = m + 1 := by omega
        have hO2 : Hid (wr.ownsRow w.heap.size 3 1 _ (outG l (m + 1)).length (ints (outG l (m + 1))) ∧ Below w.heap.size w wr) := ⟨owns_base hO.out.1 hs1, HT.out.1.trans (hO.out.2.mono hs1)⟩
        clear hO
        have b1 : ¬ (m : Int) + 1 < (m : Int) + 1 := by omega
        rw [show (((m + 1 : Nat)) : Int) = (m : Int) + 1 from rfl]
        go_wp2_with fail
        refine bodyPost_ret (v := .tuple #[vv, .bool true]) (by simp [results, Try.results56, go_sem]) rfl ⟨_, rfl, by rw [HE.out]; exact hO2.out.1, hO2.out.2⟩
theorem askR_len (ks : List Int) (s : Int) : ((askR ks s).length : Int) ≤ 1000 := by
  unfold askR
  split
  · rename_i h
    obtain ⟨m, rfl, hm, _⟩ := asked_nat h
    have := outG_len ks ((m : Int).toNat + 1)
    omega
  · simp
end Go.Proofs.Ythlkndloggmehaa
