/-
  Races: the play of a rank: the model.
-/
import Derived.Test.YtooaeafnneikkaaRaBack
import Derived.Laws.Concat
namespace Go.Proofs.Ytooaeafnneikkaa
open Go.RowKit
set_option linter.unusedVariables false
set_option linter.unusedSimpArgs false

set_option maxRecDepth 100000 in
set_option maxHeartbeats 6400000 in
theorem raRank_any (rt rl : Int) (A B : Nat) (hAB : A + B ≤ 100) (rk : Int) (h0 : 0 ≤ rk) (h1 : rk < upR rt rl A B) (w : World) :
    Calls Try.prog 45 #[.agg #[.int .i64 rt, .int .i64 rl], .int .i64 A, .int .i64 B, .int .i64 rk] w fun e w' => e = .returned (.string ⟨(rankP rt rl A B (A + B) 0 0 rk).toArray⟩) ∧ Below w.heap.size w w' := by
  rw [← on_up] at h1
  have hbk := fun w => raBack_any rt rl A B hAB w
  have HBK := Lib.hid hbk; clear hbk
  generalize hR : rankP rt rl A B (A + B) 0 0 rk = R
  have HR := Lib.hid hR; clear hR
  have HS : Hid (0 ≤ rk ∧ rk < onR rt rl A B ((0 : Nat) : Int) ((0 : Nat) : Int)) := ⟨h0, h1⟩
  clear h0 h1
  have hb0 := below_new w (.cells #[.int .i64 rt, .int .i64 rl] 25)
  have HB0 := Lib.hid hb0; clear hb0
  go_enter Try.func45, Try.ntmps45
  go_wp2_with fail
  refine (HBK.out _).mono ?_; rintro e w1 ⟨v, bk, wb, rfl, t1, b1⟩
  obtain ⟨gv, cv, hv, -⟩ := t1.shape (by omega)
  subst hv
  have HT := Lib.hid t1
  have HB1 := Lib.hid (HB0.out.trans (b1.mono HB0.out.size))
  clear t1 b1 HB0
  go_wp2_with fail
  go_loopw [3, 10, 11, 12] (fun r q xx yy wr => ∃ (x y : Nat) (S : ByteArray) (m : Int), xx = .int .i64 x ∧ yy = .int .i64 y ∧ q = .string S ∧ r = .int .i64 m ∧ x ≤ A ∧ y ≤ B ∧ Hid (S.size = x + y) ∧ Hid (0 ≤ m ∧ m < onR rt rl A B x y ∧ S.data.toList ++ rankP rt rl A B (A + B - (x + y)) x y m = R) ∧ wr = w1) (fun _ _ xx yy _ => A + B - ((intOf xx).toNat + (intOf yy).toNat))
  case atStart => exact ⟨0, 0, ⟨#[]⟩, rk, rfl, rfl, rfl, rfl, Nat.zero_le _, Nat.zero_le _, Lib.hid rfl, ⟨HS.out.1, HS.out.2, by rw [← HR.out]; simp⟩, rfl⟩
  case round =>
    clear HS
    obtain ⟨x, y, S, m, rfl, rfl, rfl, rfl, hxA, hyB, HLL, HF, rfl⟩ := hrel
    by_cases hend : x = A ∧ y = B
    · obtain ⟨rfl, rfl⟩ := hend
      have hv : S = ⟨R.toArray⟩ := by
        have := HF.out.2.2
        rw [Nat.sub_self] at this
        rw [← this]; simp [rankP]
      have HV := Lib.hid hv; clear hv HF
      have qx : decide ((x : Int) < (x : Int)) = false := by simp
      have qy : decide ((y : Int) < (y : Int)) = false := by simp
      go_wp2_with fail
      go_ret
      exact ⟨by rw [HV.out]; rfl, HB1.out⟩
    · obtain ⟨n, hn⟩ : ∃ n, A + B - (x + y) = n + 1 := ⟨A + B - (x + y) - 1, by omega⟩
      have hna : A + B - (x + 1 + y) = n := by omega
      have hnb : A + B - (x + (y + 1)) = n := by omega
      have hnend : ¬ ((x : Int) = (A : Int) ∧ (y : Int) = (B : Int)) := by omega
      have hadd : ∀ (c : UInt8) (W : World), (Op.stringOp .add S ⟨#[c]⟩).run Try.prog W = .ok (.string (S ++ ⟨#[c]⟩)) W := fun c W =>
        run_string_add_sum W _ _ (by have e : (⟨#[c]⟩ : ByteArray).size = 1 := rfl; have := HLL.out; omega)
      have wx : IntKind.i64.wrap ((x : Int) + 1) = (x : Int) + 1 := IntWalk.i64_in _ (by omega)
      have wy : IntKind.i64.wrap ((y : Int) + 1) = (y : Int) + 1 := IntWalk.i64_in _ (by omega)
      have bB : (y : Int) < (B : Int) + 1 := by omega
      have b5 : (0 : Int) ≤ (x : Int) + 1 := by omega
      have hsz97 : (S ++ (⟨#[97]⟩ : ByteArray)).size = x + 1 + y := by
        have e : (S ++ (⟨#[97]⟩ : ByteArray)).size = S.size + 1 := by rw [ByteArray.size_append]; rfl
        have := HLL.out; omega
      have hsz98 : (S ++ (⟨#[98]⟩ : ByteArray)).size = x + (y + 1) := by
        have e : (S ++ (⟨#[98]⟩ : ByteArray)).size = S.size + 1 := by rw [ByteArray.size_append]; rfl
        have := HLL.out; omega
      have HN := Lib.hid (And.intro hna hnb)
      have hm0 := HF.out.1
      have hm1 := HF.out.2.1
      have hd := HF.out.2.2
      rw [hn] at hd
      have hbd2 := onR_bd rt rl A B ((x : Int) + 1) y
      unfold capR at hbd2
      have hbd := onR_bd rt rl A B x y
      unfold capR at hbd
      have hmB := Int.le_trans (Int.le_of_lt hm1) hbd.2
      have hkeep := @rank_keep rt rl (A : Int) (B : Int) (x : Int) (y : Int) m hm0 hm1 hnend
      have hra := @rank_a rt rl (A : Int) (B : Int) (x : Int) (y : Int) m n
      have hrb := @rank_b rt rl (A : Int) (B : Int) (x : Int) (y : Int) m n
      have hpos := @onR_pos rt rl (A : Int) (B : Int)
      clear hnend hbd hm1 HF
      by_cases hup : m < onR rt rl A B ((x : Int) + 1) y
      · have hx1 := (hpos (x := (x : Int) + 1) (y := (y : Int)) (Int.lt_of_le_of_lt hm0 hup)).1
        rw [hra hup] at hd
        have hd2 : (S.data.toList ++ [97]) ++ rankP rt rl A B n ((x : Int) + 1) y m = R := by rw [← hd]; simp
        have HD : Hid (0 ≤ m ∧ m < onR rt rl A B ((x : Int) + 1) y ∧ (S.data.toList ++ [97]) ++ rankP rt rl A B n ((x : Int) + 1) y m = R) := ⟨hm0, hup, hd2⟩
        have ha := hadd 97
        have hsl : (S ++ (⟨#[97]⟩ : ByteArray)).data.toList = S.data.toList ++ [97] := by simp
        rw [← hsl] at HD
        generalize S ++ (⟨#[97]⟩ : ByteArray) = S2 at *
        have HSZ := Lib.hid hsz97
        have h2 := HT.out.heads rfl (a := x + 1) (by omega)
        clear hd hd2 hra hrb hkeep hadd hsl hsz97 hsz98 hpos
        have k2 := HT.out.cell (a := x + 1) (b := y) (Nat.succ_lt_succ (by omega)) (by omega)
        rw [Int.natCast_succ] at k2
        generalize hve : onR rt rl A B ((x : Int) + 1) y = v at *
        have HVE := Lib.hid hve
        clear hve
        have hq : decide (m < v) = true := by simpa using hup
        clear hup
        have b2 : (x : Int) + 1 < (A : Int) + 1 := by omega
        have qx : decide ((x : Int) < (A : Int)) = true := by simp; omega
        have qx3 : (x < A) = True := by simp; omega
        have HXA := Lib.hid (And.intro (show x + 1 ≤ A by omega) hyB)
        clear hn hna hnb hend hx1 hxA hyB hm0 hmB hbd2
        go_wp2_with fail
        go_roundw
        case rel => exact ⟨x + 1, y, S2, m, by go_num, rfl, rfl, rfl, HXA.out.1, HXA.out.2, HSZ, by rw [HN.out.1, Int.natCast_succ, HVE.out]; exact HD, by first | rfl | trivial⟩
        case measure => have := HXA.out; simp [intOf] <;> omega
      · rw [hrb hup] at hd
        have hd2 : (S.data.toList ++ [98]) ++ rankP rt rl A B n x ((y : Int) + 1) (m - onR rt rl A B ((x : Int) + 1) y) = R := by rw [← hd]; simp
        have hk2 := hkeep hup
        have hk0 : 0 ≤ m - onR rt rl A B ((x : Int) + 1) y := Int.sub_nonneg.2 (Int.not_lt.1 hup)
        have HD : Hid (0 ≤ m - onR rt rl A B ((x : Int) + 1) y ∧ m - onR rt rl A B ((x : Int) + 1) y < onR rt rl A B x ((y : Int) + 1) ∧ (S.data.toList ++ [98]) ++ rankP rt rl A B n x ((y : Int) + 1) (m - onR rt rl A B ((x : Int) + 1) y) = R) := ⟨hk0, hk2, hd2⟩
        have hy1 := (hpos (x := (x : Int)) (y := (y : Int) + 1) (Int.lt_of_le_of_lt hk0 hk2)).2.1
        have ha := hadd 98
        have hsl : (S ++ (⟨#[98]⟩ : ByteArray)).data.toList = S.data.toList ++ [98] := by simp
        rw [← hsl] at HD
        generalize S ++ (⟨#[98]⟩ : ByteArray) = S2 at *
        have HSZ := Lib.hid hsz98
        clear hd hd2 hra hrb hkeep hadd hsl hsz97 hsz98 hpos hk2 hk0
        by_cases hxl : x < A
        · have h2 := HT.out.heads rfl (a := x + 1) (Nat.succ_lt_succ hxl)
          have k2 := HT.out.cell (a := x + 1) (b := y) (Nat.succ_lt_succ hxl) (Nat.lt_succ_of_le hyB)
          rw [Int.natCast_succ] at k2
          generalize hve : onR rt rl A B ((x : Int) + 1) y = v at *
          clear hve
          have HXA := Lib.hid (And.intro hxA (show y + 1 ≤ B by omega))
          have b2 : (x : Int) + 1 < (A : Int) + 1 := by omega
          have qx : decide ((x : Int) < (A : Int)) = true := by simp; omega
          have hq : decide (m < v) = false := by simpa using hup
          have wv : IntKind.i64.wrap (m - v) = m - v := IntWalk.i64_in _ (by omega)
          clear hn hna hnb hup hend hy1 hxl hxA hyB
          go_wp2_with fail
          go_roundw
          case rel => exact ⟨x, y + 1, S2, m - v, rfl, by go_num, rfl, rfl, HXA.out.1, HXA.out.2, HSZ, by rw [HN.out.2, Int.natCast_succ]; exact HD, by first | rfl | trivial⟩
          case measure => have := HXA.out; simp [intOf] <;> omega
        · have hz : onR rt rl A B ((x : Int) + 1) y = 0 := onR_off _ _ _ _ _ _ (.inl (by omega))
          rw [hz, Int.sub_zero] at HD
          clear hup hbd2 hz
          have HXA := Lib.hid (And.intro hxA (show y + 1 ≤ B by omega))
          have qx : decide ((x : Int) < (A : Int)) = false := by simp; omega
          have qx2 : ((x : Int) < (A : Int)) = False := by simp; omega
          have qx3 : (x < A) = False := by simp; omega
          have qy : decide ((y : Int) < (B : Int)) = true := by simp; omega
          have qy3 : (y < B) = True := by simp; omega
          have hq : decide (m < 0) = false := by simp; omega
          have wv : IntKind.i64.wrap m = m := IntWalk.i64_in _ (by omega)
          clear hn hna hnb hend hy1 hxl hxA hyB
          go_wp2_with fail
          go_roundw
          case rel => exact ⟨x, y + 1, S2, m, rfl, by go_num, rfl, rfl, HXA.out.1, HXA.out.2, HSZ, by rw [HN.out.2, Int.natCast_succ]; exact HD, by first | rfl | trivial⟩
          case measure => have := HXA.out; simp [intOf] <;> omega

end Go.Proofs.Ytooaeafnneikkaa
