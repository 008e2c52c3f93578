/-
  Races: the model's count of a play's points.
-/
import Derived.Test.YtbgdngfjeikheaaDoorRaSpec
namespace Go.Proofs.YtbgdngfjeikheaaDoor
open Go.RowKit
set_option linter.unusedVariables false
set_option linter.unusedSimpArgs false

def cntV (x : Int × Int × Bool) : Value := .tuple #[.int .i64 x.1, .int .i64 x.2.1, .bool x.2.2]
theorem cnt_won {tq ld a b : Int} {c : UInt8} {r : List UInt8} (h : wonN tq ld a b ≠ 0) : cntS tq ld a b (c :: r) = (a, b, false) := by rw [cntS, if_pos h]
theorem cnt_go {tq ld a b : Int} {c : UInt8} {r : List UInt8} (h : wonN tq ld a b = 0) : cntS tq ld a b (c :: r) = cntS tq ld (a + upA c) (b + upB c) r := by rw [cntS, if_neg (by simp [h])]

set_option maxHeartbeats 3200000 in
theorem raCount_any (tq ld : Int) (s : ByteArray) (w : World) (hs : (s.size : Int) ≤ 1000000000000) :
    Calls Tryd.prog 176 #[.agg #[.int .i64 tq, .int .i64 ld], .string s] w fun e w' => e = .returned (cntV (cntS tq ld 0 0 s.data.toList)) ∧ Below w.heap.size w w' := by
  have hp0 := Pair.new w tq ld 200
  have hb0 : Below w.heap.size w (w.alloc (.cells #[.int .i64 tq, .int .i64 ld] 200)) := (Below.refl _ _).alloc (Nat.le_refl _) _
  have HP0 := Lib.hid (And.intro hp0 hb0); clear hp0 hb0
  generalize hg : w.heap.size = g at *
  have HG := Lib.hid hg; clear hg
  generalize hR : cntS tq ld 0 0 s.data.toList = R
  have HR := Lib.hid hR; clear hR
  go_enter Tryd.func176, Tryd.ntmps176
  go_wp2_with fail
  rw [HG.out]
  go_loopw [7, 8, 9] (fun p q i wr => ∃ (k : Nat) (a b : Int), i = .int .i64 k ∧ p = .int .i64 a ∧ q = .int .i64 b ∧ k ≤ s.size ∧ 0 ≤ a ∧ a ≤ k ∧ 0 ≤ b ∧ b ≤ k ∧ Pair wr g tq ld ∧ cntS tq ld a b (s.data.toList.drop k) = R ∧ Below g w wr) (fun _ _ i _ => s.size - (intOf i).toNat)
  case atStart => exact ⟨0, 0, 0, rfl, rfl, rfl, Nat.zero_le _, by omega, by omega, by omega, by omega, HP0.out.1, by rw [List.drop_zero, HR.out], HP0.out.2⟩
  case round =>
    obtain ⟨k, a, b, rfl, rfl, rfl, hk, a1, a2, b1, b2, hp, ht, hbel⟩ := hrel
    have HT := Lib.hid ht; clear ht
    have HP := Lib.hid hp
    obtain ⟨z, c0, c1, -, -⟩ := hp
    by_cases hlt : k < s.size
    · have hd := drop_cons s k hlt
      have HD := Lib.hid hd; clear hd
      have hgw : g ≤ wr.heap.size := Nat.le_of_lt z
      by_cases hw : wonN tq ld a b = 0
      · have hwi := won_zero.2 hw
        have HN := Lib.hid (And.intro hw hwi); clear hw hwi
        by_cases hc : s[k] = 97
        · have e : ((s[k].toNat : Int) == 97) = true := by rw [b97]; simp [hc]
          have hv : cntS tq ld (a + 1) b (s.data.toList.drop (k + 1)) = R := by
            rw [← HT.out, HD.out, cnt_go HN.out.1, hc]; simp [upA, upB]
          have HV := Lib.hid hv; clear hv hc
          go_wp2_with fail
          refine (raWon_any tq ld a b _ a1 (by omega) b1 (by omega)).mono ?_; rintro e w2 ⟨rfl, bd⟩
          rw [HN.out.2]
          have HP2 := Lib.hid (And.intro (HP.out.keep bd) (hbel.trans (bd.mono hgw)))
          clear c0 c1 bd hbel
          go_wp2_with fail
          go_roundw
          case rel => exact ⟨k + 1, _, _, by go_num, rfl, rfl, by omega, by omega, by omega, by omega, by omega, HP2.out.1, HV.out, HP2.out.2⟩
          case measure => simp [intOf]; omega
        · have e : ((s[k].toNat : Int) == 97) = false := by rw [b97]; simpa using hc
          have hv : cntS tq ld a (b + 1) (s.data.toList.drop (k + 1)) = R := by
            rw [← HT.out, HD.out, cnt_go HN.out.1]; simp [upA, upB, hc]
          have HV := Lib.hid hv; clear hv hc
          go_wp2_with fail
          refine (raWon_any tq ld a b _ a1 (by omega) b1 (by omega)).mono ?_; rintro e w2 ⟨rfl, bd⟩
          rw [HN.out.2]
          have HP2 := Lib.hid (And.intro (HP.out.keep bd) (hbel.trans (bd.mono hgw)))
          clear c0 c1 bd hbel
          go_wp2_with fail
          go_roundw
          case rel => exact ⟨k + 1, _, _, by go_num, rfl, rfl, by omega, by omega, by omega, by omega, by omega, HP2.out.1, HV.out, HP2.out.2⟩
          case measure => simp [intOf]; omega
      · have hv : R = (a, b, false) := by rw [← HT.out, HD.out, cnt_won hw]
        have HV := Lib.hid hv; clear hv
        have hwi : (wonI tq ld a b == 0) = false := by
          simp only [beq_eq_false_iff_ne, ne_eq]; intro h; exact hw (won_zero.1 h)
        have hwj : (wonI tq ld a b != 0) = true := by rw [bne, hwi]; rfl
        clear hw
        have hrw := fun w => raWon_any tq ld a b w a1 (by omega) b1 (by omega)
        have HRW := Lib.hid hrw; clear hrw
        generalize wonI tq ld a b = x at *
        go_wp2_with fail
        refine (HRW.out _).mono ?_; rintro e w2 ⟨rfl, bd⟩
        have HB2 := Lib.hid (hbel.trans (bd.mono hgw))
        clear c0 c1 bd hbel
        go_wp2_with fail
        refine bodyPost_ret (v := .tuple #[.int .i64 a, .int .i64 b, .bool false]) (by simp [results, Tryd.results176, go_sem]) rfl ⟨by rw [HV.out]; rfl, HB2.out⟩
    · obtain rfl : k = s.size := by omega
      have hv : R = (a, b, true) := by rw [← HT.out, drop_all]; rfl
      have HV := Lib.hid hv; clear hv
      go_wp2
      refine bodyPost_ret (v := .tuple #[.int .i64 a, .int .i64 b, .bool true]) (by simp [results, Tryd.results176, go_sem]) rfl ⟨by rw [HV.out]; rfl, hbel⟩

end Go.Proofs.YtbgdngfjeikheaaDoor
