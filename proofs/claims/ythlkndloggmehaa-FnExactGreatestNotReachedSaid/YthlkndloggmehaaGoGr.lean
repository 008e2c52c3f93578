/-
  Goals: GreatestNotReached: the model's and the program's.
-/
import Derived.Test.YthlkndloggmehaaGoOut
import Derived.Test.YthlkndloggmehaaGoGrM
import Derived.Test.YthlkndloggmehaaGoDiv
namespace Go.Proofs.Ythlkndloggmehaa
open Go.RowKit
set_option linter.unusedVariables false
set_option linter.unusedSimpArgs false

theorem natK_drop {ks : List Int} {k : Nat} (hk : k < ks.length) (d : Nat) : gcdG ((natK ks).drop k) d = gcdG ((natK ks).drop (k + 1)) (Nat.gcd d (ks.getD k 0).toNat) := by
  have hl : k < (natK ks).length := by simpa [natK] using hk
  rw [List.drop_eq_getElem_cons hl]
  show gcdG _ (Nat.gcd d _) = _
  simp [natK, hk]
theorem natK_end {ks : List Int} (d : Nat) : gcdG ((natK ks).drop ks.length) d = d := by
  rw [List.drop_of_length_le (by simp [natK])]; rfl

set_option maxHeartbeats 1600000 in
theorem haveDiv_any (ks : List Int) (hk : ∀ x ∈ ks, 1 ≤ x ∧ x ≤ 20) (a : Option Addr) (c : Nat) (w : World) (hl : (ks.length : Int) ≤ 1000000000000) (h : Reads w a (ints ks)) :
    Calls Try.prog 109 #[.slice a ks.length c] w fun e w' => e = .returned (.bool (decide (1 < gcdN ks))) ∧ Below w.heap.size w w' := by
  have HR := Lib.hid h; clear h
  have HK := Lib.hid hk; clear hk
  go_enter Try.func109, Try.ntmps109
  go_wp2_with fail
  go_loopw [3, 8] (fun q i wr => ∃ (k d : Nat), i = .int .i64 k ∧ q = .int .i64 d ∧ k ≤ ks.length ∧ d ≤ 20 ∧ Hid (gcdG ((natK ks).drop k) d = gcdN ks) ∧ Hid (Below w.heap.size w wr)) (fun _ i _ => ks.length - (intOf i).toNat)
  case atStart => exact ⟨0, 0, rfl, rfl, Nat.zero_le _, by omega, Lib.hid rfl, Lib.hid (Below.refl _ _)⟩
  case round =>
    obtain ⟨k, d, rfl, rfl, hkl, hd, hG, hB⟩ := hrel
    by_cases hlt : k < ks.length
    · obtain ⟨b, off, rfl, _, hc⟩ := cells_of_reads (HR.out.old hB.out) (by omega)
      have c0 := hc k hlt
      obtain ⟨x1, x2⟩ := HK.out (ks.getD k 0) (by simp [hlt])
      have hst := natK_drop hlt d
      rw [hG.out] at hst
      obtain ⟨x, hx⟩ : ∃ x : Nat, ks.getD k 0 = (x : Int) := ⟨(ks.getD k 0).toNat, by omega⟩
      rw [hx] at c0 x1 x2 hst
      rw [Int.toNat_natCast] at hst
      have HS := Lib.hid hst; clear hst hc hG hx
      have b1 : (k : Int) < (ks.length : Int) := by omega
      go_wp2_with fail
      have HC := Lib.hid (fun w => commonDivisor_any d x (by omega) (by omega) w)
      have hgl : Nat.gcd d x ≤ 20 := Nat.le_trans (Nat.gcd_le_right d (by omega)) (by omega)
      generalize Nat.gcd d x = g at *
      refine (HC.out _).mono ?_; rintro e w2 ⟨rfl, b2⟩
      have HB2 := Lib.hid (hB.out.trans (b2.mono hB.out.size)); clear b2
      go_wp2_with fail
      go_roundw
      case rel => exact ⟨k + 1, g, by go_num, rfl, by omega, by omega, Lib.hid HS.out.symm, HB2⟩
      case measure => simp [intOf]; omega
    · obtain rfl : k = ks.length := by omega
      have hd2 : gcdN ks = d := by rw [← hG.out, natK_end]
      have HD := Lib.hid hd2; clear hd2 hG
      by_cases q : 1 < (d : Int)
      · have q' : decide (1 < gcdN ks) = true := by rw [HD.out]; simp; omega
        have HQ := Lib.hid q'; clear q'
        go_wp2_with fail
        go_ret
        exact ⟨ret_bool (by rw [HQ.out]), hB.out⟩
      · have q' : decide (1 < gcdN ks) = false := by rw [HD.out]; simp; omega
        have HQ := Lib.hid q'; clear q'
        go_wp2_with fail
        go_ret
        exact ⟨ret_bool (by rw [HQ.out]), hB.out⟩

set_option maxHeartbeats 1600000 in
theorem implGr_any (l : List Int) (a : Option Addr) (c : Nat) (w : World) (hl : (l.length : Int) ≤ 1000000000000) (h : Reads w a (ints l)) :
    Calls Try.prog 63 #[.slice a l.length c] w fun e w' => e = .returned (.tuple #[.int .i64 (grV (grN l)), .bool (grN l).isSome]) ∧ Below w.heap.size w w' := by
  have HK := Lib.hid (implAreKinds_any l a c w hl h)
  cases hg : goodK l
  · have e1 := gr_bad hg
    have HE := Lib.hid e1
    have HG := Lib.hid hg; clear hg e1 h
    go_enter Try.func63, Try.ntmps63
    go_wp2_with fail
    refine HK.out.mono ?_; rintro e w1 ⟨rfl, b1⟩
    rw [HG.out]
    go_wp2_with fail
    go_ret2
    exact ⟨by rw [HE.out]; rfl, b1⟩
  · have hk := good_mem hg
    have HD := Lib.hid (fun w' (hr : Reads w' a (ints l)) => haveDiv_any l hk a c w' hl hr)
    have HF := Lib.hid (fun w' (hr : Reads w' a (ints l)) => outOf_any l hk 400 (by omega) a c w' hl hr)
    have HR := Lib.hid h; clear h
    by_cases hd : gcdN l = 1
    · have hq : decide (1 < gcdN l) = false := by rw [hd]; rfl
      have e1 : grN l = topN l 401 := by unfold grN; rw [if_pos ⟨hg, hd⟩]
      have e2 := out_last l 401
      have e3 := outG_len l 401
      have HQ := Lib.hid hq
      have HE := Lib.hid (And.intro e1 e2)
      have HG := Lib.hid hg; clear hg hq e1 e2 hd hk
      go_enter Try.func63, Try.ntmps63
      go_wp2_with fail
      refine HK.out.mono ?_; rintro e w1 ⟨rfl, b1⟩
      rw [HG.out]
      have B1 := Lib.hid b1; clear b1
      go_wp2_with fail
      refine (HD.out _ (HR.out.old B1.out)).mono ?_; rintro e w2 ⟨rfl, b2⟩
      rw [HQ.out]
      have B2 := Lib.hid (B1.out.trans (b2.mono B1.out.size)); clear b2
      go_wp2_with fail
      refine (HF.out _ (HR.out.old B2.out)).mono ?_; rintro e w3 ⟨v, rfl, ht⟩
      have B3 := Lib.hid (B2.out.trans (ht.2.mono B2.out.size))
      have hown := ht.1
      clear ht
      generalize outG l (400 + 1) = L at *
      by_cases hz : L = []
      · subst hz
        obtain ⟨a3, c3, rfl, -⟩ := Reads.own hown
        have e4 : grN l = none := by
          have := HE.out.2
          rw [HE.out.1]
          cases ht : topN l 401 with
          | none => rfl
          | some n => rw [ht] at this; cases this
        have HE4 := Lib.hid e4; clear e4 hown
        go_wp2_with fail
        go_ret2
        exact ⟨by rw [HE4.out]; rfl, B3.out⟩
      · obtain ⟨n, hn⟩ : ∃ n, L.length = n + 1 := ⟨L.length - 1, by have := List.length_pos_iff.2 hz; omega⟩
        obtain ⟨g, cap, rfl, _, _, hc⟩ := own_cells hown (by omega)
        have c0 := hc n (by omega)
        have e4 : ∃ t, grN l = some t ∧ L.getD n 0 = (t : Int) := by
          have := HE.out.2
          rw [HE.out.1]
          cases ht : topN l 401 with
          | none =>
            rw [ht] at this
            exact absurd (List.getLast?_eq_none_iff.1 this) hz
          | some t =>
            rw [ht] at this
            refine ⟨t, rfl, ?_⟩
            rw [List.getLast?_eq_getElem?, hn] at this
            simp at this
            simp [this]
        obtain ⟨t, e4, e5⟩ := e4
        rw [e5] at c0
        have HE4 := Lib.hid e4
        have q1 : (((L.length : Nat) : Int) == 0) = false := by simp; omega
        have q2 : (((n + 1 : Nat) : Int) - 1) = (n : Int) := by omega
        have q3 : ((n : Int) + 1 - 1) = (n : Int) := by omega
        have q4 : ((n : Int) + 1 == 0) = false := by simp; omega
        rw [hn]
        clear hown hc e4 e5 hz q1
        go_wp2_with fail
        go_ret2
        exact ⟨by rw [HE4.out]; rfl, B3.out⟩
    · have hp := gcd_pos hg
      have hq : decide (1 < gcdN l) = true := by simp; omega
      have e1 := gr_div hd
      have HQ := Lib.hid hq
      have HE := Lib.hid e1
      have HG := Lib.hid hg; clear hg hq e1 hd hk
      go_enter Try.func63, Try.ntmps63
      go_wp2_with fail
      refine HK.out.mono ?_; rintro e w1 ⟨rfl, b1⟩
      rw [HG.out]
      have B1 := Lib.hid b1; clear b1
      go_wp2_with fail
      refine (HD.out _ (HR.out.old B1.out)).mono ?_; rintro e w2 ⟨rfl, b2⟩
      rw [HQ.out]
      have B2 := Lib.hid (B1.out.trans (b2.mono B1.out.size)); clear b2
      go_wp2_with fail
      go_ret2
      exact ⟨by rw [HE.out]; rfl, B2.out⟩
end Go.Proofs.Ythlkndloggmehaa
