/-
  Puzzles: the points that all solutions have: both sides.
-/
import Derived.Test.YtcigighklghjkaaDoorPzSolA
import Derived.Deep.RegionHeld3
import Derived.Lib.ConvBytes
import Derived.Laws.IdiomStrings
namespace Go.Proofs.YtcigighklghjkaaDoor
open Go.RowKit
set_option linter.unusedVariables false
set_option linter.unusedSimpArgs false

def bat (s : ByteArray) (q : Nat) : UInt8 := s.data.toList.getD q 0
theorem bat_get (s : ByteArray) (q : Nat) (h : q < s.size) : s[q] = bat s q := by
  have h2 : q < s.data.size := h
  unfold bat
  rw [List.getD_eq_getElem?_getD, List.getElem?_eq_getElem (by simpa using h2)]
  simp
  rfl
def stepS (t b : UInt8) : UInt8 := if b = t then t else 63
/-- What is sure of one place, as the first so many have it. -/
def sureAt (L : List ByteArray) : Nat → Nat → UInt8
  | 0, q => bat (headS L) q
  | j + 1, q => stepS (sureAt L j q) (bat (L.getD j ⟨#[]⟩) q)
theorem sure_stays {L : List ByteArray} {j q : Nat} (h : sureAt L j q = 63) : ∀ d, sureAt L (j + d) q = 63
  | 0 => h
  | d + 1 => by
    show stepS (sureAt L (j + d) q) _ = 63
    rw [sure_stays h d]; unfold stepS
    split <;> first | rfl | assumption
def sureL (L : List ByteArray) (n : Nat) : List UInt8 := (List.range n).map fun q => sureAt L L.length q
def sureO (p : Int) (l : List Cl) : ByteArray := if someS (solsO p l) then ⟨(sureL (solsO p l) p.toNat).toArray⟩ else ⟨#[]⟩
theorem rsl (s : ByteArray) (k M : Nat) (hM : M = k + 1) (h : k < s.size) (w : World) : (Instr.slice 9 (.string s) (some (.int .i64 (k : Int))) (some (.int .i64 (M : Int))) none).run Tryd.prog w = .ok (.string ⟨#[bat s k]⟩) w := by
  subst hM
  rw [run_slice_string w _ s _ _ _ _ Tryd.underlying9 (by omega) (by omega) (by omega)]
  rw [show ((k : Int)).toNat = k from by omega, show (((k + 1 : Nat)) : Int).toNat = k + 1 from by omega, ext_one s k h, bat_get]
theorem solsO_size {p : Int} {l : List Cl} : ∀ s ∈ solsO p l, s.size = p.toNat := by
  intro s hs
  unfold solsO at hs
  split at hs
  · obtain ⟨n, -, rfl⟩ := sols_mem hs; exact binB_size _ _
  · cases hs
theorem getD_mem (L : List ByteArray) (j : Nat) (h : j < L.length) : L.getD j ⟨#[]⟩ ∈ L := by
  rw [List.getD_eq_getElem?_getD, List.getElem?_eq_getElem h]; exact List.getElem_mem h

set_option maxHeartbeats 800000 in
set_option maxRecDepth 100000 in
theorem specSure_any (p : Int) (l : List Cl) (ad : Option Addr) (c : Nat) (w : World) (hl : (l.length : Int) ≤ 1000000000000) (hr : Reads w ad (clus l)) :
    Calls Tryd.prog 30 #[.agg #[.int .i64 p, .slice ad l.length c]] w fun e w' => e = .returned (.tuple #[.string (sureO p l), .bool (someS (solsO p l))]) ∧ Below w.heap.size w w' := by
  have T0 := Lib.hid (PzB.new w p (.slice ad l.length c))
  obtain ⟨p0, p1, -⟩ := T0.out.full
  have HG := Lib.hid (fun W (hb : Below w.heap.size w W) => pzGood_any p l ad c W hl (hr.old hb))
  cases hg : goodP p l
  · have h1 : someS (solsO p l) = false := by rw [solsO_not hg]; rfl
    have h2 : sureO p l = ⟨#[]⟩ := by unfold sureO; rw [h1]; rfl
    rw [hg] at HG
    rw [h1, h2]; clear h1 h2 hg hr
    go_enter Tryd.func30, Tryd.ntmps30
    go_wp2_with fail
    refine (HG.out _ T0.out.2).mono ?_; rintro e w1 ⟨rfl, b1⟩
    have T1 := Lib.hid (T0.out.keep b1); clear b1 p0 p1
    go_wp2_with fail
    refine bodyPost_ret (v := .tuple #[.string ⟨#[]⟩, .bool false]) ?_ rfl ⟨rfl, T1.out.2⟩
    simp [results, Tryd.results30, go_sem, *]
  · obtain ⟨hp, h6, hgc⟩ := goodP_bd hg
    obtain ⟨pn, rfl⟩ : ∃ pn : Nat, p = pn := ⟨p.toNat, by omega⟩
    have HSZ := Lib.hid (fun s hs => solsO_size (p := pn) (l := l) s hs)
    have hsu : sureO pn l = if someS (solsO pn l) then ⟨(sureL (solsO pn l) pn).toArray⟩ else ⟨#[]⟩ := rfl
    rw [solsO_is hg] at HSZ hsu
    rw [hsu, solsO_is hg]; clear hsu
    rw [hg] at HG
    have HA := Lib.hid (fun W (hb : Below w.heap.size w W) => pzAll_any pn l ad c W (by omega) h6 hgc (hr.old hb))
    have hLb : (solsL pn l).length ≤ 256 := by
      have := solsL_len pn l
      have := pow_bd (show pn ≤ 8 by omega)
      omega
    clear hg hr hgc
    generalize solsL pn l = L at *
    by_cases h0 : L.length = 0
    · obtain rfl : L = [] := List.length_eq_zero_iff.1 h0
      clear h0 HSZ
      rw [show someS [] = false from rfl]
      simp only [Bool.false_eq_true, if_false]
      go_enter Tryd.func30, Tryd.ntmps30
      go_wp2_with fail
      refine (HG.out _ T0.out.2).mono ?_; rintro e w1 ⟨rfl, b1⟩
      have T1 := Lib.hid (T0.out.keep b1); clear b1 p0 p1
      obtain ⟨p0, p1, -⟩ := T1.out.full
      go_wp2_with fail
      refine (HA.out _ T1.out.2).mono ?_; rintro e w2 ⟨v, rfl, h2⟩
      obtain ⟨ra, rc, rfl, -, -, -⟩ := own_cap h2.1
      have HB := Lib.hid (T1.out.2.trans (h2.2.mono T1.out.2.size)); clear h2 p0 p1
      go_wp2_with fail
      refine bodyPost_ret (v := .tuple #[.string ⟨#[]⟩, .bool false]) ?_ rfl ⟨rfl, HB.out⟩
      simp [results, Tryd.results30, go_sem, *]
    · have hs : someS L = true := by unfold someS; exact decide_eq_true (by omega)
      rw [hs, if_pos rfl]; clear hs
      have hi0 : ¬ (L.length : Int) = 0 := by omega
      have hlt0 : (0 : Int) < (L.length : Int) := by omega
      have hlt0n : 0 < L.length := by omega
      have hf0 : (headS L).size = pn := HSZ.out _ (getD_mem L 0 hlt0n)
      have HS0 : Hid (∀ q, sureAt L 0 q = bat (headS L) q) := fun q => rfl
      have HS1 : Hid (∀ j q, sureAt L (j + 1) q = stepS (sureAt L j q) (bat (L.getD j ⟨#[]⟩) q)) := fun j q => rfl
      have HSL : Hid (∀ k, sureL L (k + 1) = sureL L k ++ [sureAt L L.length k]) := fun k => by unfold sureL; rw [List.range_succ, List.map_append]; rfl
      have HLN : Hid (∀ k, (sureL L k).length = k) := fun k => by simp [sureL]
      have HL0 : Hid (sureL L 0 = []) := rfl
      go_enter Tryd.func30, Tryd.ntmps30
      go_wp2_with fail
      refine (HG.out _ T0.out.2).mono ?_; rintro e w1 ⟨rfl, b1⟩
      have T1 := Lib.hid (T0.out.keep b1); clear b1 p0 p1
      obtain ⟨p0, p1, -⟩ := T1.out.full
      go_wp2_with fail
      refine (HA.out _ T1.out.2).mono ?_; rintro e w2 ⟨v, rfl, h2⟩
      obtain ⟨ra, rc, rfl, -, hrd, -⟩ := own_cap h2.1
      obtain ⟨b, off, ha, _, hcs⟩ := scells_of_reads hrd (by omega)
      subst ha
      have T2 := Lib.hid (T1.out.keep h2.2)
      have HCS := Lib.hid hcs
      clear hcs hrd h2 p0 p1
      go_wp2_with fail
      go_loopw [5, 6] (fun t i wq => ∃ k : Nat, i = .int .i64 k ∧ k ≤ pn ∧ Hid (t = .string ⟨(sureL L k).toArray⟩ ∧ wq = w2)) (fun _ i _ => pn - (intOf i).toNat)
      case atStart => exact ⟨0, rfl, Nat.zero_le _, by rw [HL0.out], rfl⟩
      case round =>
        obtain ⟨k, rfl, hk, HJ⟩ := hrel
        obtain ⟨ht, rfl⟩ := HJ.out
        subst ht
        clear HJ
        obtain ⟨p0, p1, -⟩ := T2.out.full
        by_cases hlt : k < pn
        · have b2 : (k : Int) < (pn : Int) := by omega
          have c0 := HCS.out 0 hlt0n
          rw [Nat.add_zero] at c0
          change _ = some (Value.string (headS L)) at c0
          obtain ⟨M, hM⟩ : ∃ M, M = k + 1 := ⟨_, rfl⟩
          have hk1 : IntKind.i64.wrap ((k : Int) + 1) = (M : Int) := by rw [IntKind.wrap_i64]; omega
          have hk2 : (k : Int) + 1 = (M : Int) := by omega
          have hk3 : IntKind.i64.wrap (M : Int) = (M : Int) := by rw [IntKind.wrap_i64]; omega
          have hs1 := rsl (headS L) k M hM (by omega)
          rw [← HS0.out k] at hs1
          have HSP := Lib.hid (fun j (hj : j < L.length) => rsl (L.getD j ⟨#[]⟩) k M hM (by rw [HSZ.out _ (getD_mem L j hj)]; simpa using hlt))
          have HM := Lib.hid hM; clear hM
          generalize headS L = f at *
          obtain ⟨WB, hWB⟩ : ∃ WB, WB = wr := ⟨wr, rfl⟩
          subst hWB
          go_wp2_with fail
          go_loopw [7, 36] (fun t i wq => ∃ j : Nat, i = .int .i64 j ∧ j ≤ L.length ∧ t = .string ⟨#[sureAt L j k]⟩ ∧ Hid (wq = WB)) (fun _ i _ => L.length - (intOf i).toNat)
          case atStart => exact ⟨0, rfl, Nat.zero_le _, rfl, rfl⟩
          case round =>
            obtain ⟨j, rfl, hj, rfl, hw⟩ := hrel
            obtain rfl := hw.out
            clear hw
            by_cases hlt2 : j < L.length
            · have b3 : (j : Int) < (L.length : Int) := by omega
              have c1 := HCS.out j hlt2
              have sl := HSP.out j hlt2
              have st := HS1.out j k
              generalize L.getD j ⟨#[]⟩ = s at *
              by_cases hq : bat s k = sureAt L j k
              · have hst : sureAt L (j + 1) k = sureAt L j k := by rw [st]; unfold stepS; rw [if_pos hq]
                have HST := Lib.hid hst
                rw [hq] at sl
                clear st hst hq
                generalize hX : (⟨#[sureAt L j k]⟩ : ByteArray) = X at *
                have HX := Lib.hid hX; clear hX
                have q0 : (X.toList == X.toList) = true := by simp
                go_wp2_with fail
                go_roundw
                case rel => exact ⟨j + 1, by go_num, by omega, by rw [HST.out, HX.out], trivial⟩
                case measure => simp [intOf]; omega
              · have hst : sureAt L (j + 1) k = 63 := by rw [st]; unfold stepS; rw [if_neg hq]
                have HST := Lib.hid hst
                have q0 : ((⟨#[bat s k]⟩ : ByteArray).toList == (⟨#[sureAt L j k]⟩ : ByteArray).toList) = false := by
                  simp [ByteArray.toList_eq, hq]
                have hend : sureAt L L.length k = 63 := by
                  have := sure_stays hst (L.length - (j + 1))
                  rwa [show j + 1 + (L.length - (j + 1)) = L.length from by omega] at this
                have hsl := HSL.out k
                rw [hend] at hsl
                have HSE := Lib.hid hsl
                have hln := HLN.out k
                have ha : ∀ W : World, (Op.stringOp .add ⟨(sureL L k).toArray⟩ ⟨#[63]⟩).run Tryd.prog W = .ok (.string ⟨(sureL L k ++ [63]).toArray⟩) W := fun W => run_string_add_lists W (sureL L k) [63] (by omega) (by simp)
                rw [← HSE.out] at ha
                clear st hst hq hend hsl hln
                generalize (⟨#[bat s k]⟩ : ByteArray) = Y at *
                generalize (⟨#[sureAt L j k]⟩ : ByteArray) = X at *
                generalize hZ : (⟨(sureL L k).toArray⟩ : ByteArray) = Z at *
                generalize hU : (⟨(sureL L (k + 1)).toArray⟩ : ByteArray) = U at *
                have HU := Lib.hid hU; clear hU hZ
                go_wp2_with fail
                go_roundw
                case rel => exact ⟨M, by first | rfl | go_num, by have := HM.out; omega, by rw [HM.out, HU.out], trivial⟩
                case measure => have := HM.out; simp [intOf]; omega
            · obtain rfl : j = L.length := by omega
              have hln := HLN.out k
              have ha : ∀ W : World, (Op.stringOp .add ⟨(sureL L k).toArray⟩ ⟨#[sureAt L L.length k]⟩).run Tryd.prog W = .ok (.string ⟨(sureL L k ++ [sureAt L L.length k]).toArray⟩) W := fun W => run_string_add_lists W (sureL L k) [sureAt L L.length k] (by omega) (by simp)
              rw [← HSL.out k] at ha
              clear hln
              have HM2 := HM
              go_wp2_with fail
              go_roundw
              case rel => exact ⟨M, by first | rfl | go_num, by have := HM.out; omega, by rw [HM.out], trivial⟩
              case measure => have := HM.out; simp [intOf]; omega
        · obtain rfl : k = pn := by omega
          go_wp2_with fail
          refine bodyPost_ret (v := .tuple #[.string ⟨(sureL L k).toArray⟩, .bool true]) ?_ rfl ⟨rfl, T2.out.2⟩
          simp [results, Tryd.results30, go_sem, *]
end Go.Proofs.YtcigighklghjkaaDoor
