/-
  Goals: GreatestNotReached: the model's.
-/
import Derived.Test.YthlkndloggmehaaGoGr
namespace Go.Proofs.Ythlkndloggmehaa
open Go.RowKit
set_option linter.unusedVariables false
set_option linter.unusedSimpArgs false

theorem first_cell {ks : List Int} {a : Option Addr} {w : World} (h : Reads w a (ints ks)) (hl : 1 ≤ ks.length) : ∃ b off, a = some ⟨b, off, none⟩ ∧ w.cell? ⟨b, off, none⟩ = some (.int .i64 (ks.getD 0 0)) := by
  obtain ⟨b, off, rfl, _, hc⟩ := cells_of_reads h (by omega)
  exact ⟨b, off, rfl, by simpa using hc 0 (by omega)⟩

set_option maxHeartbeats 3200000 in
theorem specGr_any (ks : List Int) (a : Option Addr) (c : Nat) (w : World) (hl : (ks.length : Int) ≤ 1000000000000) (h : Reads w a (ints ks)) :
    Calls Try.prog 62 #[.slice a ks.length c] w fun e w' => e = .returned (.tuple #[.int .i64 (grV (grN ks)), .bool (grN ks).isSome]) ∧ Below w.heap.size w w' := by
  have HKI := Lib.hid (goKinds_any ks a c w hl h)
  cases hg : goodK ks
  · have e1 := gr_bad hg
    have HE := Lib.hid e1
    have HG := Lib.hid hg; clear hg e1 h
    go_enter Try.func62, Try.ntmps62
    go_wp2_with fail
    refine HKI.out.mono ?_; rintro e w1 ⟨rfl, b1⟩
    rw [HG.out]
    go_wp2_with fail
    go_ret2
    exact ⟨by rw [HE.out]; rfl, b1⟩
  have HK := Lib.hid (good_mem hg)
  have HF := Lib.hid (fun w' (hr : Reads w' a (ints ks)) => goFew_any ks (good_mem hg) 800 (by omega) a c w' hl hr)
  have HR := Lib.hid h; clear h
  have HG := Lib.hid hg; clear hg
  go_enter Try.func62, Try.ntmps62
  go_wp2_with fail
  refine HKI.out.mono ?_; rintro e w1 ⟨rfl, b1⟩
  rw [HG.out]
  have B1 := Lib.hid b1; clear b1
  go_wp2_with fail
  go_loopw [4, 14] (fun q i wr => ∃ (k d : Nat), i = .int .i64 k ∧ q = .int .i64 d ∧ k ≤ ks.length ∧ d ≤ 20 ∧ Hid (gcdG ((natK ks).drop k) d = gcdN ks) ∧ Hid (Below w.heap.size w wr)) (fun _ i _ => ks.length - (intOf i).toNat)
  case atStart => exact ⟨0, 0, rfl, rfl, Nat.zero_le _, by omega, Lib.hid rfl, Lib.hid B1.out⟩
  case round =>
    obtain ⟨k, d, rfl, rfl, hkl, hd, hGG, hB⟩ := hrel
    by_cases hlt : k < ks.length
    · obtain ⟨b, off, rfl, _, hc⟩ := cells_of_reads (HR.out.old hB.out) (by omega)
      have c0 := hc k hlt
      obtain ⟨x1, x2⟩ := HK.out (ks.getD k 0) (by simp [hlt])
      have hst := natK_drop hlt d
      rw [hGG.out] at hst
      obtain ⟨x, hx⟩ : ∃ x : Nat, ks.getD k 0 = (x : Int) := ⟨(ks.getD k 0).toNat, by omega⟩
      rw [hx] at c0 x1 x2 hst
      rw [Int.toNat_natCast] at hst
      have HS := Lib.hid hst; clear hst hc hGG hx
      have b1 : (k : Int) < (ks.length : Int) := by omega
      go_wp2_with fail
      go_loopw [4, 6] (fun q i wr2 => ∃ (e p : Nat), q = .int .i64 e ∧ i = .int .i64 p ∧ e ≤ 20 ∧ p ≤ 20 ∧ Hid (Nat.gcd e p = Nat.gcd d x) ∧ Hid (Below wr.heap.size wr wr2)) (fun _ i _ => (intOf i).toNat)
      case atStart => exact ⟨d, x, rfl, rfl, hd, by omega, Lib.hid rfl, Lib.hid (Below.refl _ _)⟩
      case round =>
        obtain ⟨e, p, rfl, rfl, he, hp, hE, hB2⟩ := hrel
        by_cases hp0 : 0 < p
        · have q1 : (0 : Int) < (p : Int) := by omega
          have q2 : ((p : Int) == 0) = false := by simp; omega
          have q3 : ((e : Int)).tmod (p : Int) = ((e % p : Nat) : Int) := by rw [Int.tmod_eq_emod_of_nonneg (by omega)]; push_cast; rfl
          have hm := Nat.mod_lt e hp0
          have hgc : Nat.gcd p (e % p) = Nat.gcd d x := by rw [← hE.out, Nat.gcd_comm e p, Nat.gcd_rec p e, Nat.gcd_comm]
          have HGC := Lib.hid hgc; clear hgc hE
          generalize e % p = r at *
          have q4 : IntKind.i64.wrap (r : Int) = (r : Int) := IntWalk.i64_in _ (by omega)
          go_wp2_with fail
          go_quiet (fail)
          go_wp2_with fail
          go_roundw
          case rel => exact ⟨p, r, rfl, rfl, by omega, by omega, HGC, Lib.hid (below_drewN hB2.out _)⟩
          case measure => simp [intOf]; omega
        · obtain rfl : p = 0 := by omega
          have he2 : e = Nat.gcd d x := by rw [← hE.out, Nat.gcd_zero_right]
          have HE2 := Lib.hid he2; clear he2 hE
          have q1 : ¬ (0 : Int) < ((0 : Nat) : Int) := by omega
          have q2 : ¬ (0 : Int) < (0 : Int) := by omega
          go_wp2_with fail
          go_roundw
          case rel => exact ⟨k + 1, e, by go_num, rfl, by omega, by omega, Lib.hid (by rw [HE2.out]; exact HS.out.symm), Lib.hid (hB.out.trans (hB2.out.mono hB.out.size))⟩
          case measure => simp [intOf]; omega
    · obtain rfl : k = ks.length := by omega
      have hd2 : gcdN ks = d := by rw [← hGG.out, natK_end]
      by_cases q : 1 < (d : Int)
      · have e1 := gr_div (ks := ks) (by omega)
        have HE := Lib.hid e1; clear e1 hd2 hGG
        go_wp2_with fail
        go_ret2
        exact ⟨by rw [HE.out]; rfl, hB.out⟩
      · have hp := gcd_pos HG.out
        have hd1 : gcdN ks = 1 := by omega
        have q' : ¬ 1 < (d : Int) := q
        clear q
        obtain ⟨b, off, rfl, c0⟩ := first_cell (HR.out.old hB.out) (good_len HG.out).1
        have hb0 : (0 : Int) < (ks.length : Int) := by have := (good_len HG.out).1; omega
        by_cases h0 : ks.getD 0 0 = 1
        · have e1 := gr_one HG.out h0
          have HE := Lib.hid e1; clear e1 hd2 hGG hd1 hp
          rw [h0] at c0
          clear h0
          go_wp2_with fail
          go_ret2
          exact ⟨by rw [HE.out]; rfl, hB.out⟩
        · obtain ⟨t, e1, e2, e3⟩ := gr_model HG.out hd1 h0
          have h0' : (ks.getD 0 0 == 1) = false := by simpa using h0
          have HE := Lib.hid (And.intro e1 e2); clear e1 e2 hd2 hGG hd1 hp h0
          generalize ks.getD 0 0 = x0 at *
          go_wp2_with fail
          refine (HF.out _ (HR.out.old hB.out)).mono ?_; rintro e w2 ⟨rfl, hrow, b2⟩
          have HT := Lib.hid (And.intro hrow (hB.out.trans (b2.mono hB.out.size))); clear hrow b2
          generalize wr.heap.size = g at *
          go_wp2_with fail
          go_loop [8] (fun i => ∃ j : Nat, i = .int .i64 j ∧ j ≤ 800 ∧ t ≤ j ∧ Hid (topN ks (j + 1) = some t)) (fun i => (intOf i).toNat)
          case atStart => exact ⟨800, rfl, by omega, by omega, Lib.hid HE.out.2⟩
          case round =>
            obtain ⟨j, rfl, hj, htj, hTop⟩ := hrel
            have c1 := tabM_cells HK.out (by omega) HT.out.1 hj
            obtain ⟨t0, t1⟩ := fewP_bd (fun x hx => (HK.out x hx).1) (s := j) (by omega)
            have hto := hTop.out
            rw [topN] at hto
            rw [show asM (fewP ks j) = if fewP ks j = 1000 then -1 else fewP ks j from rfl] at c1
            have b4 : (j : Int) < 801 := by omega
            by_cases qf : fewP ks j = 1000
            · rw [if_pos qf] at c1 hto
              obtain rfl : j = t := Option.some.inj hto
              clear hto t1 t0 qf hTop
              go_wp2_with fail
              go_ret2
              exact ⟨by rw [HE.out.1]; rfl, HT.out.2⟩
            · rw [if_neg qf] at c1 hto
              have hjt := top_lt hto
              obtain ⟨j', rfl⟩ : ∃ j', j = j' + 1 := ⟨j - 1, by omega⟩
              have HTo := Lib.hid hto; clear hto t1 hTop qf
              generalize fewP ks (j' + 1) = f at *
              go_wp2_with fail
              go_round
              case rel => exact ⟨j', by go_num, by omega, by omega, HTo⟩
              case measure => simp [intOf]
end Go.Proofs.Ythlkndloggmehaa
