/- What the exact law of IsGameOrder does, step by step. -/
import Derived.Test.YtaplkciomagmiabTnOrder
namespace Go.Proofs.Ytaplkciomagmiab.ExIsGameOrder
open Go.RowKit

set_option maxHeartbeats 1600000 in
theorem impl_any (s : ByteArray) (w : World) (hs : (s.size : Int) ≤ 1000000000000) :
    Calls Try.prog 32 #[.string s] w fun e w' => e = .returned (.bool (ordI 0 0 s.data.toList)) ∧ Below w.heap.size w w' := by
  have hp0 := Pair.new w 0 0 49
  have hb0 : Below w.heap.size w (w.alloc (.cells #[.int .i64 0, .int .i64 0] 49)) := (Below.refl _ _).alloc (Nat.le_refl _) _
  have HP0 := Lib.hid hp0; clear hp0
  generalize hg : w.heap.size = g at *
  have HG := Lib.hid hg; clear hg
  go_enter Try.func32, Try.ntmps32
  go_wp2_with fail
  rw [HG.out]
  go_loopw [8] (fun i wr => ∃ (k : Nat) (a b : Int), i = .int .i64 k ∧ k ≤ s.size ∧ Pair wr g a b ∧ nearB a b = true ∧ ordI a b (s.data.toList.drop k) = ordI 0 0 s.data.toList ∧ Below g w wr) (fun i _ => s.size - (intOf i).toNat)
  case atStart => exact ⟨0, 0, 0, rfl, Nat.zero_le _, HP0.out, near_00, rfl, hb0⟩
  case round =>
    obtain ⟨k, a, b, rfl, hk, hp, hn, ht, hbel⟩ := hrel
    clear hb0
    have HT := Lib.hid ht; clear ht
    by_cases hlt : k < s.size
    · have hd := drop_cons s k hlt
      have he := slice_one s k hlt
      have HD := Lib.hid hd; clear hd
      obtain ⟨z1, c0, c1, f0, f1⟩ := hp
      have hp : Pair wr g a b := ⟨z1, c0, c1, f0, f1⟩
      have HP := Lib.hid hp; clear hp
      have bd := near_bd hn
      obtain ⟨a1, a2, b1, b2, ab⟩ := bd
      have HN := Lib.hid hn; clear hn
      generalize s[k] = c at *
      cases hc : isAB c
      · have hv : ordI 0 0 s.data.toList = false := by
          rw [← HT.out, HD.out, ordI, if_neg (by simp [isAB] at hc; simp [hc])]
        have HV := Lib.hid hv; clear hv
        have HC := Lib.hid hc; clear hc
        go_wp2_with fail
        refine (isSide_any c _).mono ?_; rintro e w1 ⟨rfl, rfl⟩
        rw [HC.out]
        go_wp2_with fail
        go_ret
        exact ⟨ret_bool HV.out.symm, hbel⟩
      · have hc' : c = 97 ∨ c = 98 := by simpa [isAB] using hc
        have HC := Lib.hid hc; clear hc
        have HC' := Lib.hid hc'; clear hc'
        by_cases hw : winN a b = 0
        · have ho := (near_win HN.out).1 hw
          have ns := near_step HN.out ho
          have hv : ordI (a + upA c) (b + upB c) (s.data.toList.drop (k + 1)) = ordI 0 0 s.data.toList ∧ nearB (a + upA c) (b + upB c) = true := by
            rw [← HT.out, HD.out, ordI, if_pos ⟨HC'.out, hw⟩]
            by_cases h7 : c = 97
            · subst h7; simp [upA, upB, ns]
            · simp [upA, upB, h7, ns]
          have HV := Lib.hid hv; clear hv
          have hsd : sideS (winN a b) = ⟨#[]⟩ := by rw [hw]; rfl
          have HSD := Lib.hid hsd; clear hsd ho ns hw
          go_wp2_with fail
          refine (isSide_any c _).mono ?_; rintro e w1 ⟨rfl, rfl⟩
          rw [HC.out]
          go_wp2_with fail
          refine (winnerOfGames_any a b _).mono ?_; rintro e w1 ⟨rfl, bd1⟩
          rw [HSD.out]
          obtain ⟨z2, d0, d1, e0, e1⟩ := HP.out.keep bd1
          have HP1 := Lib.hid (HP.out.keep bd1)
          have HB1 := Lib.hid (hbel.trans (bd1.mono (Nat.le_of_lt z1)))
          clear c0 c1 f0 f1 bd1 hbel z1
          go_wp2_with fail
          refine (plus_any a b c _ a1 (by omega) b1 (by omega)).mono ?_; rintro e w2 ⟨rfl, bd2⟩
          have HP2 := Lib.hid (HP1.out.keep bd2)
          obtain ⟨z3, g0, g1, i0, i1⟩ := HP1.out.keep bd2
          have HB2 := Lib.hid (HB1.out.trans (bd2.mono (Nat.le_of_lt z2)))
          clear d0 d1 e0 e1 bd2 z2
          go_wp2_with fail
          go_roundw
          case rel => exact ⟨k + 1, _, _, by go_num, by omega, HP2.out.put _ _, HV.out.2, HV.out.1, (HB2.out.setCell (Nat.le_refl _) _).setCell (Nat.le_refl _) _⟩
          case measure => simp [intOf]; omega
        · have hv : ordI 0 0 s.data.toList = false := by
            rw [← HT.out, HD.out, ordI, if_neg (fun e => hw e.2)]
          have HV := Lib.hid hv; clear hv
          have hsd : ∃ x, sideS (winN a b) = ⟨#[x]⟩ := by
            unfold winN at hw ⊢
            split
            · exact ⟨97, rfl⟩
            · rename_i h1; rw [if_neg h1] at hw
              split
              · exact ⟨98, rfl⟩
              · rename_i h2; rw [if_neg h2] at hw; exact absurd rfl hw
          obtain ⟨x, hsd⟩ := hsd
          have HSD := Lib.hid hsd; clear hsd hw
          go_wp2_with fail
          refine (isSide_any c _).mono ?_; rintro e w1 ⟨rfl, rfl⟩
          rw [HC.out]
          go_wp2_with fail
          refine (winnerOfGames_any a b _).mono ?_; rintro e w1 ⟨rfl, bd1⟩
          rw [HSD.out]
          have HB1 := Lib.hid (hbel.trans (bd1.mono (Nat.le_of_lt z1)))
          clear c0 c1 f0 f1 bd1 hbel z1
          go_wp2_with fail
          go_ret
          exact ⟨ret_bool HV.out.symm, HB1.out⟩
    · obtain rfl : k = s.size := by omega
      have hv : ordI 0 0 s.data.toList = true := by rw [← HT.out, drop_all]; rfl
      have HV := Lib.hid hv; clear hv
      have HP := Lib.hid hp; clear hp
      go_wp2_with fail
      go_ret
      exact ⟨ret_bool HV.out.symm, hbel⟩

end Go.Proofs.Ytaplkciomagmiab.ExIsGameOrder
