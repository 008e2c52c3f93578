/-
  Goals: the program's table of the fewest goals.
-/
import Derived.Test.YthlkndloggmehaaGoAsk
import Derived.WalkSmall
import Derived.LoopTactic
namespace Go.Proofs.Ythlkndloggmehaa
open Go.RowKit
set_option linter.unusedVariables false
set_option linter.unusedSimpArgs false

/-- A row of its own that is not empty, cell by cell. -/
theorem own_cells {w : World} {base : Nat} {T : TypeId} {v : Value} {l : List Int} (h : w.ownsRow base T 1 v l.length (ints l)) (hp : 0 < l.length) :
    ∃ g cap, v = .slice (some ⟨g, 0, none⟩) l.length cap ∧ base ≤ g ∧ g < w.heap.size ∧ ∀ j, j < l.length → w.cell? ⟨g, j, none⟩ = some (.int .i64 (l.getD j 0)) := by
  obtain ⟨hl, h | ⟨g, cap, cur, rfl, hg, hh, hn, hcap, hcs, htk⟩⟩ := h
  · have := h.2; omega
  · refine ⟨g, cap, rfl, hg, (Array.getElem?_eq_some_iff.1 hh).1, fun j hj => ?_⟩
    rw [cell_of_row w g _ cur T _ hh]
    have e : cur[j]? = (cur.toList.take (l.length * 1))[j]? := by rw [List.getElem?_take_of_lt (by omega)]; simp
    rw [e, htk, ints_get l j hj]
theorem owns_one (w : World) (e : TypeId) (x : Value) : (w.alloc (.cells #[x] e)).ownsRow w.heap.size e 1 (.slice (some ⟨w.heap.size, 0, none⟩) 1 1) 1 [x] :=
  ⟨by simp, .inr ⟨w.heap.size, 1, #[x], rfl, Nat.le_refl _, heap_alloc_last w _, Nat.le_refl _, by decide, by simp, by simp⟩⟩
theorem ints_snoc (l : List Int) (x : Int) : ints l ++ [.int .i64 x] = ints (l ++ [x]) := by simp [ints]
theorem add_zero_addr (b : Nat) (j : Nat) : (⟨b, 0, none⟩ : Addr).add j = ⟨b, j, none⟩ := by unfold Addr.add; split <;> simp_all

def TabAt (ks : List Int) (w : World) (k : Nat) (v : Value) (wr : World) : Prop := wr.ownsRow w.heap.size 3 1 v (tabP ks k).length (ints (tabP ks k)) ∧ Below w.heap.size w wr

set_option maxHeartbeats 3200000 in
theorem fewestBy_any (ks : List Int) (hk : ∀ x ∈ ks, 1 ≤ x ∧ x ≤ 20) (m : Nat) (hm : (m : Int) ≤ 900) (a : Option Addr) (c : Nat) (w : World) (hl : (ks.length : Int) ≤ 1000000000000) (h : Reads w a (ints ks)) :
    Calls Try.prog 131 #[.slice a ks.length c, .int .i64 m] w fun e w' => ∃ v, e = .returned v ∧ TabAt ks w m v w' := by
  have HR := Lib.hid h; clear h
  obtain ⟨i0, hi, hz0, hz1, hz2⟩ := info_parts infoInt
  have HI := Lib.hid (And.intro hi (And.intro hz0 (And.intro hz1 hz2))); clear hi hz0 hz1 hz2
  have hb0 : TabAt ks w 0 (.slice (some ⟨w.heap.size, 0, none⟩) 1 1) (w.alloc (.cells #[.int .i64 0] 3)) := ⟨owns_one w _ _, (Below.refl _ _).alloc (Nat.le_refl _) _⟩
  have HB0 := Lib.hid hb0; clear hb0
  have HK := Lib.hid hk; clear hk
  go_enter Try.func131, Try.ntmps131
  go_wp2_with fail
  go_loopw [5, 6] (fun v s wr => ∃ k : Nat, s = .int .i64 ((k : Int) + 1) ∧ k ≤ m ∧ Hid (TabAt ks w k v wr)) (fun _ s _ => m + 1 - (intOf s).toNat)
  case atStart => exact ⟨0, rfl, Nat.zero_le _, HB0⟩
  case round =>
    clear HB0
    obtain ⟨k, rfl, hkm, hT⟩ := hrel
    by_cases hlt : k < m
    · have b1 : (k : Int) + 1 ≤ (m : Int) := by omega
      go_wp2_with fail
      go_loop [7, 18] (fun q i => ∃ (j : Nat) (lo : Int), i = .int .i64 j ∧ q = .int .i64 lo ∧ j ≤ ks.length ∧ 0 ≤ lo ∧ lo ≤ 1000 ∧ Hid ((ks.drop j).foldl (stepP (tabP ks k) ((k + 1 : Nat) : Int)) lo = nextP ks (tabP ks k) ((k + 1 : Nat) : Int))) (fun _ i => ks.length - (intOf i).toNat)
      case atStart => exact ⟨0, 1000, rfl, rfl, Nat.zero_le _, by omega, by omega, Lib.hid rfl⟩
      case round =>
        obtain ⟨j, lo, rfl, rfl, hj, l0, l1, HF⟩ := hrel
        by_cases hlt2 : j < ks.length
        · obtain ⟨b, off, rfl, _, hc⟩ := cells_of_reads (HR.out.old hT.out.2) (by omega)
          have c0 := hc j hlt2
          obtain ⟨x1, x2⟩ := HK.out (ks.getD j 0) (by simp [hlt2])
          have hfd := foldl_drop (stepP (tabP ks k) ((k + 1 : Nat) : Int)) hlt2 lo
          rw [HF.out] at hfd
          have HFD := Lib.hid hfd; clear hfd hc HF
          have b2 : (j : Int) < (ks.length : Int) := by omega
          generalize ks.getD j 0 = x at *
          by_cases q : x ≤ (k : Int) + 1
          · obtain ⟨n, hn⟩ : ∃ n : Nat, (k : Int) + 1 - x = (n : Int) := ⟨((k : Int) + 1 - x).toNat, by omega⟩
            have hnk : n ≤ k := by omega
            obtain ⟨g, cap, rfl, _, _, ht⟩ := own_cells hT.out.1 (by rw [tabP_len]; omega)
            have c1 := ht n (by rw [tabP_len]; omega)
            obtain ⟨t0, t1⟩ := tabP_bd (fun x hx => (HK.out x hx).1) (n := k) (by omega) n hnk
            have b3 : (n : Int) < (((tabP ks k).length : Nat) : Int) := by rw [tabP_len]; omega
            have hsp : stepP (tabP ks k) ((k + 1 : Nat) : Int) lo x = if (tabP ks k).getD n 0 + 1 ≤ lo then (tabP ks k).getD n 0 + 1 else lo := by
              unfold stepP
              rw [if_pos (by omega), show (((k + 1 : Nat) : Int) - x).toNat = n by omega]
            have HSP := Lib.hid hsp; clear hsp ht
            generalize (tabP ks k).getD n 0 = t at *
            generalize (tabP ks k).length = len at *
            by_cases q2 : t + 1 < lo
            · have hs2 := HSP.out
              rw [if_pos (by omega)] at hs2
              have HS2 := Lib.hid hs2; clear hs2
              go_wp2_with fail
              go_round
              case rel => exact ⟨j + 1, t + 1, by go_num, rfl, by omega, by omega, by omega, Lib.hid (by rw [HFD.out, HS2.out])⟩
              case measure => simp [intOf]; omega
            · have hs2 : stepP (tabP ks k) ((k + 1 : Nat) : Int) lo x = lo := by rw [HSP.out]; split <;> omega
              have HS2 := Lib.hid hs2; clear hs2
              go_wp2_with fail
              go_round
              case rel => exact ⟨j + 1, lo, by go_num, rfl, by omega, by omega, by omega, Lib.hid (by rw [HFD.out, HS2.out])⟩
              case measure => simp [intOf]; omega
          · have hs2 : stepP (tabP ks k) ((k + 1 : Nat) : Int) lo x = lo := by unfold stepP; rw [if_neg (by omega)]
            have HS2 := Lib.hid hs2; clear hs2
            have q' : ¬ x ≤ (k : Int) + 1 := q
            clear q
            go_wp2_with fail
            go_round
            case rel => exact ⟨j + 1, lo, by go_num, rfl, by omega, by omega, by omega, Lib.hid (by rw [HFD.out, HS2.out])⟩
            case measure => simp [intOf]; omega
        · obtain rfl : j = ks.length := by omega
          have hfin : lo = nextP ks (tabP ks k) ((k + 1 : Nat) : Int) := by rw [← HF.out, List.drop_length]; rfl
          have HFIN := Lib.hid hfin; clear hfin HF
          have hbs := hT.out.2.size
          have hnews : ∀ j' u, ([.int .i64 lo] : List Value)[j']? = some u → (wr.alloc (.cells #[.int .i64 lo] 3)).cell? ((⟨wr.heap.size, 0, none⟩ : Addr).add j') = some u := by
            intro j' u hu
            have e0 : j' = 0 := by have := (List.getElem?_eq_some_iff.1 hu).1; simp at this; omega
            subst e0
            simp at hu; subst hu
            rw [add_zero_addr]
            exact cell_of_row _ _ 0 _ _ _ (heap_alloc_last wr _)
          have HN := Lib.hid hnews; clear hnews
          have hlen := tabP_len ks k
          have HL := Lib.hid hlen
          go_wp2_with (at_builtin; refine wpList_append_own_at _ rfl _ _ 45 rfl w.heap.size 3 i0 (.int .i64 0) 1 8 Try.underlying45 HI.out.1 HI.out.2.1 HI.out.2.2.1 HI.out.2.2.2 rfl (by decide) _ _ _ rfl (hT.out.1.alloc _) ⟨wr.heap.size, 0, none⟩ 1 1 [.int .i64 lo] rfl rfl HN.out ?_ ?_ ?_ ?_ ?_)
          · rfl
          · unfold maxLen; omega
          · omega
          · omega
          intro v' w3 hown3 hgrow _ _
          have hbel3 : Below w.heap.size w w3 := (hT.out.2.alloc hbs _).grown hgrow (by simp; omega) (fun g hg => by
            obtain ⟨_, h | ⟨g', cap, cur, hv, hb', _⟩⟩ := hT.out.1
            · rw [h.1] at hg; cases hg
            · rw [hv] at hg; simp [Value.ownBlock] at hg; omega)
          rw [ints_snoc] at hown3
          have hown4 : TabAt ks w (k + 1) v' w3 := ⟨by rw [show tabP ks (k + 1) = tabP ks k ++ [lo] by rw [HFIN.out]; rfl, List.length_append, HL.out]; exact hown3, hbel3⟩
          have H3 := Lib.hid hown4; clear hown3 hgrow hown4 hbel3
          go_wp2_with fail
          go_roundw
          case rel => exact ⟨k + 1, by go_num, by omega, H3⟩
          case measure => simp [intOf]; omega
    · obtain rfl : k = m := by omega
      have b1 : ¬ (k : Int) + 1 ≤ (k : Int) := by omega
      go_wp2_with fail
      go_ret
      exact ⟨_, rfl, hT.out⟩
end Go.Proofs.Ythlkndloggmehaa
