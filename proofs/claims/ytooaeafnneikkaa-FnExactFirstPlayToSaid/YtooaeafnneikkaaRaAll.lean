/-
  Races: all plays to a score, and the play of a rank: the program.
-/
import Derived.Test.YtooaeafnneikkaaRaTo
import Derived.Laws.Concat
namespace Go.Proofs.Ytooaeafnneikkaa
open Go.RowKit
set_option linter.unusedVariables false
set_option linter.unusedSimpArgs false

set_option maxHeartbeats 800000 in
theorem all_any (rt rl : Int) (gh : Nat) (bk : Nat → Nat) (A B : Nat) (hA : A ≤ 100) (w : World) (h : TalF w gh bk (A + 1) (B + 1 + 1) (onR rt rl A B)) :
    Calls Try.prog 39 #[.slice (some ⟨gh, 0, none⟩) (A + 1 + 1) (A + 1 + 1)] w fun e w' => e = .returned (.int .i64 (upR rt rl A B)) ∧ Below w.heap.size w w' := by
  have hf := from_any (onR rt rl A B) gh bk (A + 1) (B + 1 + 1) 0 0 (by omega) (by omega) (by omega) w h
  rw [show onR rt rl A B ((0 : Nat) : Int) ((0 : Nat) : Int) = upR rt rl A B from on_up _ _ _ _] at hf
  have HF := Lib.hid hf; clear hf
  go_enter Try.func39, Try.ntmps39
  go_wp2_with fail
  refine HF.out.mono ?_; rintro e w1 ⟨rfl, b1⟩
  go_wp2_with fail
  go_ret
  exact ⟨rfl, b1⟩

theorem plus_a (a b : Int) (w : World) (ha : 0 ≤ a) (ha' : a ≤ 1000000) (hb : 0 ≤ b) (hb' : b ≤ 1000000) :
    Calls Try.prog 51 #[.agg #[.int .i64 a, .int .i64 b], .string ⟨#[97]⟩] w fun e w' => e = .returned (.agg #[.int .i64 (a + 1), .int .i64 b]) ∧ Below w.heap.size w w' := by
  have := plus_any a b 97 w ha (by omega) hb (by omega)
  rw [show upA 97 = 1 from rfl, show upB 97 = 0 from rfl, Int.add_zero] at this
  exact this
theorem plus_b (a b : Int) (w : World) (ha : 0 ≤ a) (ha' : a ≤ 1000000) (hb : 0 ≤ b) (hb' : b ≤ 1000000) :
    Calls Try.prog 51 #[.agg #[.int .i64 a, .int .i64 b], .string ⟨#[98]⟩] w fun e w' => e = .returned (.agg #[.int .i64 a, .int .i64 (b + 1)]) ∧ Below w.heap.size w w' := by
  have := plus_any a b 98 w ha (by omega) hb (by omega)
  rw [show upA 98 = 0 from rfl, show upB 98 = 1 from rfl, Int.add_zero] at this
  exact this

set_option maxRecDepth 100000 in
set_option maxHeartbeats 6400000 in
theorem ofRank_any (rt rl : Int) (gh : Nat) (bk : Nat → Nat) (A B : Nat) (hAB : A + B ≤ 100) (rk : Int) (h0 : 0 ≤ rk) (h1 : rk < upR rt rl A B) (w : World) (h : TalF w gh bk (A + 1) (B + 1 + 1) (onR rt rl A B)) :
    Calls Try.prog 46 #[.slice (some ⟨gh, 0, none⟩) (A + 1 + 1) (A + 1 + 1), .int .i64 ((A : Int) + B), .int .i64 rk] w fun e w' => e = .returned (.string ⟨(rankP rt rl A B (A + B) 0 0 rk).toArray⟩) ∧ Below w.heap.size w w' := by
  have hfr := fun (x y : Nat) (hx : x ≤ A + 1) (hy : y < B + 1 + 1) w' (hb : Below w.heap.size w w') => from_any (onR rt rl A B) gh bk (A + 1) (B + 1 + 1) x y (by omega) hx hy w' (h.keep hb)
  have HFR := Lib.hid hfr; clear hfr h
  rw [← on_up] at h1
  generalize hR : rankP rt rl A B (A + B) 0 0 rk = R
  have HR := Lib.hid hR; clear hR
  have hp0 := Pair.new w 0 0 55
  have hb0 := below_new w (.cells #[.int .i64 0, .int .i64 0] 55)
  have HP0 : Hid (Pair (w.alloc (.cells #[.int .i64 0, .int .i64 0] 55)) w.heap.size 0 0 ∧ Below w.heap.size w (w.alloc (.cells #[.int .i64 0, .int .i64 0] 55))) := ⟨hp0, hb0⟩
  clear hp0 hb0
  have HS : Hid (0 ≤ rk ∧ rk < onR rt rl A B ((0 : Nat) : Int) ((0 : Nat) : Int)) := ⟨h0, h1⟩
  clear h0 h1
  go_enter Try.func46, Try.ntmps46
  go_wp2_with fail
  generalize hW : w.alloc (.cells #[.int .i64 0, .int .i64 0] 55) = W0 at *
  clear hW
  go_loopw [2, 7, 12] (fun r q i wr => ∃ (k x y : Nat) (S : ByteArray) (m : Int), i = .int .i64 k ∧ q = .string S ∧ r = .int .i64 m ∧ k ≤ A + B ∧ x + y = k ∧ Hid (S.size = k) ∧ Hid (0 ≤ m ∧ m < onR rt rl A B x y ∧ S.data.toList ++ rankP rt rl A B (A + B - k) x y m = R) ∧ Hid (Pair wr w.heap.size x y ∧ Below w.heap.size w wr)) (fun _ _ i _ => A + B - (intOf i).toNat)
  case atStart => exact ⟨0, 0, 0, ⟨#[]⟩, rk, rfl, rfl, rfl, Nat.zero_le _, rfl, Lib.hid rfl, ⟨HS.out.1, HS.out.2, by rw [← HR.out]; rfl⟩, HP0⟩
  case round =>
    clear HP0 HS
    obtain ⟨k, x, y, S, m, rfl, rfl, rfl, hk, hxy, HLL, HF, HQ⟩ := hrel
    have hpos := @onR_pos rt rl (A : Int) (B : Int) (x : Int) (y : Int) (by have := HF.out.1; have := HF.out.2.1; omega)
    have hxA : x ≤ A := by omega
    have hyB : y ≤ B := by omega
    by_cases hlt : k < A + B
    · have hlti : (k : Int) < (A : Int) + (B : Int) := by omega
      have hbd := onR_bd rt rl A B x y
      have hbd2 := onR_bd rt rl A B ((x : Int) + 1) y
      unfold capR at hbd hbd2
      have hm0 := HF.out.1
      have hm1 := HF.out.2.1
      have hd := HF.out.2.2
      obtain ⟨n, hn⟩ : ∃ n, A + B - k = n + 1 := ⟨A + B - k - 1, by omega⟩
      have hn2 : A + B - (k + 1) = n := by omega
      rw [hn] at hd
      have HN2 := Lib.hid hn2
      have hkeep := @rank_keep rt rl (A : Int) (B : Int) (x : Int) (y : Int) m hm0 hm1 (by omega)
      have hra := @rank_a rt rl (A : Int) (B : Int) (x : Int) (y : Int) m n
      have hrb := @rank_b rt rl (A : Int) (B : Int) (x : Int) (y : Int) m n
      have hfr := fun w' (hb : Below w.heap.size w w') => HFR.out (x + 1) y (by omega) (by omega) w' hb
      simp only [Int.natCast_succ] at hfr
      have hpa := fun w => plus_a (x : Int) (y : Int) w (by omega) (by omega) (by omega) (by omega)
      have hpb := fun w => plus_b (x : Int) (y : Int) w (by omega) (by omega) (by omega) (by omega)
      have HC := Lib.hid (And.intro hfr (And.intro hpa hpb)); clear hfr hpa hpb
      have hadd : ∀ (c : UInt8) (W : World), (Op.stringOp .add S ⟨#[c]⟩).run Try.prog W = .ok (.string (S ++ ⟨#[c]⟩)) W := fun c W =>
        run_string_add_sum W _ _ (by have e : (⟨#[c]⟩ : ByteArray).size = 1 := rfl; have := HLL.out; omega)
      have hc0 := HQ.out.1.2.1
      have hc1 := HQ.out.1.2.2.1
      have HXY := Lib.hid hxy
      by_cases hup : m < onR rt rl A B ((x : Int) + 1) y
      · rw [hra hup] at hd
        have hd2 : (S.data.toList ++ [97]) ++ rankP rt rl A B n ((x : Int) + 1) y m = R := by rw [← hd]; simp
        have HD : Hid (0 ≤ m ∧ m < onR rt rl A B ((x : Int) + 1) y ∧ (S.data.toList ++ [97]) ++ rankP rt rl A B n ((x : Int) + 1) y m = R) := ⟨hm0, hup, hd2⟩
        clear hd hd2 hra hrb hkeep HF hpos hbd hm1 hn hn2 hxy
        have ha := hadd 97
        have hsl : (S ++ (⟨#[97]⟩ : ByteArray)).data.toList = S.data.toList ++ [97] := by simp
        have hsz : (S ++ (⟨#[97]⟩ : ByteArray)).size = k + 1 := by rw [ByteArray.size_append, HLL.out]; rfl
        rw [← hsl] at HD
        generalize S ++ (⟨#[97]⟩ : ByteArray) = S2 at *
        have HSZ := Lib.hid hsz
        clear hadd hsl hsz
        generalize hve : onR rt rl A B ((x : Int) + 1) y = v at *
        have HVE := Lib.hid hve; clear hve
        have hq : decide (v ≤ m) = false := by simp; omega
        clear hup
        go_wp2_with fail
        refine (HC.out.2.1 _).mono ?_; rintro e w3 ⟨rfl, b3⟩
        have HQ3 := Lib.hid (And.intro (HQ.out.1.keep b3) (HQ.out.2.trans (b3.mono HQ.out.2.size))); clear b3 HQ hc0 hc1
        go_wp2_with fail
        refine (HC.out.1 _ HQ3.out.2).mono ?_; rintro e w4 ⟨rfl, b4⟩
        have HQ4 := Lib.hid (And.intro (HQ3.out.1.keep b4) (HQ3.out.2.trans (b4.mono HQ3.out.2.size))); clear b4 HQ3
        have hc0 := HQ4.out.1.2.1
        have hc1 := HQ4.out.1.2.2.1
        go_wp2_with fail
        refine (HC.out.2.1 _).mono ?_; rintro e w5 ⟨rfl, b5⟩
        have HQ5 := Lib.hid (And.intro (HQ4.out.1.keep b5) (HQ4.out.2.trans (b5.mono HQ4.out.2.size))); clear b5 HQ4 hc0 hc1
        have hc0 := HQ5.out.1.2.1
        have hc1 := HQ5.out.1.2.2.1
        have hf0 := HQ5.out.1.2.2.2.1
        have hf1 := HQ5.out.1.2.2.2.2
        have HQ6 := Lib.hid (And.intro (HQ5.out.1.put ((x : Int) + 1) y) ((HQ5.out.2.setCell (p := ⟨w.heap.size, 0, none⟩) (Nat.le_refl _) (.int .i64 ((x : Int) + 1))).setCell (p := ⟨w.heap.size, 1, none⟩) (Nat.le_refl _) (.int .i64 y)))
        clear HQ5
        go_wp2_with fail
        go_roundw
        case rel => exact ⟨k + 1, x + 1, y, S2, m, by go_num, rfl, rfl, by omega, by have := HXY.out; omega, HSZ, by rw [HN2.out, Int.natCast_succ, HVE.out]; exact HD, by rw [Int.natCast_succ]; exact HQ6⟩
        case measure => simp [intOf] <;> omega
      · rw [hrb hup] at hd
        have hd2 : (S.data.toList ++ [98]) ++ rankP rt rl A B n x ((y : Int) + 1) (m - onR rt rl A B ((x : Int) + 1) y) = R := by rw [← hd]; simp
        have HD : Hid (0 ≤ m - onR rt rl A B ((x : Int) + 1) y ∧ m - onR rt rl A B ((x : Int) + 1) y < onR rt rl A B x ((y : Int) + 1) ∧ (S.data.toList ++ [98]) ++ rankP rt rl A B n x ((y : Int) + 1) (m - onR rt rl A B ((x : Int) + 1) y) = R) := ⟨by omega, hkeep hup, hd2⟩
        clear hd hd2 hra hrb hkeep HF hpos hn hn2 hxy
        have ha := hadd 98
        have hsl : (S ++ (⟨#[98]⟩ : ByteArray)).data.toList = S.data.toList ++ [98] := by simp
        have hsz : (S ++ (⟨#[98]⟩ : ByteArray)).size = k + 1 := by rw [ByteArray.size_append, HLL.out]; rfl
        rw [← hsl] at HD
        generalize S ++ (⟨#[98]⟩ : ByteArray) = S2 at *
        have HSZ := Lib.hid hsz
        clear hadd hsl hsz
        generalize onR rt rl A B (x : Int) (y : Int) = u at *
        generalize onR rt rl A B ((x : Int) + 1) y = v at *
        have wv : IntKind.i64.wrap (m - v) = m - v := IntWalk.i64_in _ (by omega)
        have hq : decide (v ≤ m) = true := by simp; omega
        clear hm1 hbd hup
        go_wp2_with fail
        refine (HC.out.2.1 _).mono ?_; rintro e w3 ⟨rfl, b3⟩
        have HQ3 := Lib.hid (And.intro (HQ.out.1.keep b3) (HQ.out.2.trans (b3.mono HQ.out.2.size))); clear b3 HQ hc0 hc1
        go_wp2_with fail
        refine (HC.out.1 _ HQ3.out.2).mono ?_; rintro e w4 ⟨rfl, b4⟩
        have HQ4 := Lib.hid (And.intro (HQ3.out.1.keep b4) (HQ3.out.2.trans (b4.mono HQ3.out.2.size))); clear b4 HQ3
        have hc0 := HQ4.out.1.2.1
        have hc1 := HQ4.out.1.2.2.1
        go_wp2_with fail
        refine (HC.out.2.2 _).mono ?_; rintro e w5 ⟨rfl, b5⟩
        have HQ5 := Lib.hid (And.intro (HQ4.out.1.keep b5) (HQ4.out.2.trans (b5.mono HQ4.out.2.size))); clear b5 HQ4 hc0 hc1
        have hc0 := HQ5.out.1.2.1
        have hc1 := HQ5.out.1.2.2.1
        have hf0 := HQ5.out.1.2.2.2.1
        have hf1 := HQ5.out.1.2.2.2.2
        have HQ6 := Lib.hid (And.intro (HQ5.out.1.put x ((y : Int) + 1)) ((HQ5.out.2.setCell (p := ⟨w.heap.size, 0, none⟩) (Nat.le_refl _) (.int .i64 x)).setCell (p := ⟨w.heap.size, 1, none⟩) (Nat.le_refl _) (.int .i64 ((y : Int) + 1))))
        clear HQ5
        go_wp2_with fail
        go_roundw
        case rel => exact ⟨k + 1, x, y + 1, S2, m - v, by go_num, rfl, rfl, by omega, by have := HXY.out; omega, HSZ, by rw [HN2.out, Int.natCast_succ]; exact HD, by rw [Int.natCast_succ]; exact HQ6⟩
        case measure => simp [intOf] <;> omega
    · obtain rfl : k = A + B := by omega
      have hv : S = ⟨R.toArray⟩ := by
        have := HF.out.2.2
        rw [Nat.sub_self] at this
        rw [← this]; simp [rankP]
      have HV := Lib.hid hv; clear hv HF hpos
      have hlti : ¬ ((A + B : Nat) : Int) < (A : Int) + (B : Int) := by omega
      go_wp2_with fail
      go_ret
      exact ⟨by rw [HV.out]; rfl, HQ.out.2⟩

end Go.Proofs.Ytooaeafnneikkaa
