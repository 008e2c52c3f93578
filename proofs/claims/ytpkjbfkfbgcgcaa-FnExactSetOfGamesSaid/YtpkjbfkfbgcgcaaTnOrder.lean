/-
  Tennis: the model's look at an order of games.
-/
import Derived.Test.YtpkjbfkfbgcgcaaTnSide
namespace Go.Proofs.Ytpkjbfkfbgcgcaa
open Go.RowKit

theorem ord_list (s : ByteArray) : ordI 0 0 s.data.toList = (decide (s.data.toList.length ≤ 13) && abL s.data.toList && ordS 0 0 s.data.toList) := by
  rw [ord_eq _ 0 0 near_00]; congr 2; exact decide_eq_decide.2 (by omega)

set_option maxHeartbeats 800000 in
theorem tnOrder_any (s : ByteArray) (w : World) (hs : (s.size : Int) ≤ 1000000000000) :
    Calls Try.prog 34 #[.string s] w fun e w' => e = .returned (.bool (ordI 0 0 s.data.toList)) ∧ w = w' := by
  rw [ord_list]
  have hll := len_list s
  by_cases hm : (13 : Int) < (s.size : Int)
  · have hp : (decide (s.data.toList.length ≤ 13) && abL s.data.toList && ordS 0 0 s.data.toList) = false := by rw [hll]; simp; omega
    rw [hp]; clear hp hll
    go_enter Try.func34, Try.ntmps34
    go_wp2_with fail
    go_ret
    exact ⟨rfl, rfl⟩
  · have hp : (decide (s.data.toList.length ≤ 13) && abL s.data.toList && ordS 0 0 s.data.toList) = (abL s.data.toList && ordS 0 0 s.data.toList) := by rw [hll, decide_eq_true (by omega), Bool.true_and]
    have hq : ptsB s = abL s.data.toList := by unfold ptsB; rw [hll, decide_eq_true (by omega), Bool.true_and]
    rw [hp]; clear hp hll
    have HQ := Lib.hid hq; clear hq
    cases ha : abL s.data.toList
    · have HA := Lib.hid ha; clear ha
      go_enter Try.func34, Try.ntmps34
      go_wp2_with fail
      refine (tnPoints_any s _ hs).mono ?_; rintro e w1 ⟨rfl, rfl⟩
      rw [HQ.out, HA.out]
      go_wp2_with fail
      go_ret
      exact ⟨rfl, rfl⟩
    · have HA := Lib.hid ha; clear ha
      rw [Bool.true_and]
      go_enter Try.func34, Try.ntmps34
      go_wp2_with fail
      refine (tnPoints_any s _ hs).mono ?_; rintro e w1 ⟨rfl, rfl⟩
      rw [HQ.out, HA.out]
      go_wp2_with fail
      go_loop [3] (fun i => ∃ k : Nat, k ≤ s.size ∧ i = .int .i64 k ∧ ordS (cntA (s.data.toList.take k)) ((k : Int) - cntA (s.data.toList.take k)) (s.data.toList.drop k) = ordS 0 0 s.data.toList) (fun i => s.size - (intOf i).toNat)
      case atStart => exact ⟨0, Nat.zero_le _, rfl, rfl⟩
      case round =>
        obtain ⟨k, hk, rfl, ht⟩ := hrel
        have HT := Lib.hid ht; clear ht
        by_cases hlt : k < s.size
        · have hb := cntA_bd (s.data.toList.take k)
          have hl : (s.data.toList.take k).length ≤ k := List.length_take_le _ _
          obtain ⟨hb1, hb2⟩ := hb
          have hd := drop_cons s k hlt
          have hts := take_snoc s k hlt
          have hst := cntA_snoc (s.data.toList.take k) s[k]
          rw [← hts] at hst
          have HS := Lib.hid (And.intro hd hst); clear hts hst hd
          have hul := upto_list s k
          have hus := upto_size s k hk
          have hw := tnWon_any (s.extract 0 k) w (by rw [hus]; omega)
          rw [hul, hus] at hw
          have HW := Lib.hid hw; clear hw hul hus
          have hsl := slice_upto s k hk
          have hv : ordS 0 0 s.data.toList = if overB (cntA (s.data.toList.take k)) ((k : Int) - cntA (s.data.toList.take k)) then false else ordS (cntA (s.data.toList.take (k + 1))) (((k + 1 : Nat) : Int) - cntA (s.data.toList.take (k + 1))) (s.data.toList.drop (k + 1)) := by
            rw [← HT.out, HS.out.1, ordS, HS.out.2]
            cases overB (cntA (s.data.toList.take k)) ((k : Int) - cntA (s.data.toList.take k))
            · by_cases h7 : s[k] = 97
              · rw [if_pos h7, show upA s[k] = 1 from by simp [upA, h7], show (k : Int) - cntA (s.data.toList.take k) = ((k + 1 : Nat) : Int) - (cntA (s.data.toList.take k) + 1) from by omega]
              · rw [if_neg h7, show upA s[k] = 0 from by simp [upA, h7], show (k : Int) - cntA (s.data.toList.take k) + 1 = ((k + 1 : Nat) : Int) - (cntA (s.data.toList.take k) + 0) from by omega, Int.add_zero]
            · rfl
          have HV := Lib.hid hv; clear hv
          clear HS
          cases ho : overB (cntA (s.data.toList.take k)) ((k : Int) - cntA (s.data.toList.take k))
          · have HO := Lib.hid ho; clear ho
            generalize cntA (s.data.toList.take k) = q at *
            go_wp2_with fail
            refine HW.out.mono ?_; rintro e w1 ⟨rfl, rfl⟩
            go_wp2_with fail
            refine (tnOver_any q _ _ hb1 (by omega) (by omega) (by omega)).mono ?_; rintro e w1 ⟨rfl, rfl⟩
            rw [HO.out]
            go_wp2_with fail
            go_round
            case rel => exact ⟨k + 1, by omega, by go_num, by rw [HV.out, HO.out]; rfl⟩
            case measure => simp [intOf]; omega
          · have HO := Lib.hid ho; clear ho
            generalize cntA (s.data.toList.take k) = q at *
            go_wp2_with fail
            refine HW.out.mono ?_; rintro e w1 ⟨rfl, rfl⟩
            go_wp2_with fail
            refine (tnOver_any q _ _ hb1 (by omega) (by omega) (by omega)).mono ?_; rintro e w1 ⟨rfl, rfl⟩
            rw [HO.out]
            go_wp2_with fail
            go_ret
            exact ⟨ret_bool (by rw [HV.out, HO.out]; rfl), rfl⟩
        · obtain rfl : k = s.size := by omega
          have hv : ordS 0 0 s.data.toList = true := by rw [← HT.out, drop_all]; rfl
          have HV := Lib.hid hv; clear hv
          go_wp2
          go_ret
          exact ⟨ret_bool HV.out.symm, rfl⟩

end Go.Proofs.Ytpkjbfkfbgcgcaa
