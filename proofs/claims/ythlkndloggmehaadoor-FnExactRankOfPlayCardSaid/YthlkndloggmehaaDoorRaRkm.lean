/-
  Races: the rank of a play: the model.
-/
import Derived.Test.YthlkndloggmehaaDoorRaBack
import Derived.Test.YthlkndloggmehaaDoorRaRko
namespace Go.Proofs.YthlkndloggmehaaDoor
open Go.RowKit
set_option linter.unusedVariables false
set_option linter.unusedSimpArgs false

theorem capM_more {m v : Int} (h : 0 ≤ m) (h' : 0 ≤ v) : capM (capM m + v) = capM (m + v) := by
  unfold capM capR; repeat' split
  all_goals omega
theorem capM_over (S : Int) : decide (1000000000000000 < capM S) = decide (1000000000000000 < S) := by
  rw [decide_eq_decide]; unfold capM capR; split <;> omega
theorem capM_under {S : Int} (h : ¬ 1000000000000000 < S) : capM S = S := by
  unfold capM capR; rw [if_pos (by omega)]

set_option maxRecDepth 100000 in
set_option maxHeartbeats 6400000 in
theorem specRankOfPlay_any (tq ld : Int) (s : ByteArray) (w : World) (hs : (s.size : Int) ≤ 1000000000000) :
    Calls Tryd.prog 16 #[.agg #[.int .i64 tq, .int .i64 ld], .string s] w fun e w' => e = .returned (.tuple #[.int .i64 (rkV tq ld s), .bool (rkOk tq ld s)]) ∧ Below w.heap.size w w' := by
  have his := fun w => raIs_any tq ld s w hs
  have hb0 : Below w.heap.size w (w.alloc (.cells #[.int .i64 tq, .int .i64 ld] 37)) := (Below.refl _ _).alloc (Nat.le_refl _) _
  have HP0 := Lib.hid (And.intro (Pair.new w tq ld 37) hb0); clear hb0
  cases h1 : isP tq ld s
  · rw [(rk_bad h1).1, (rk_bad h1).2]
    rw [h1] at his
    have HIS := Lib.hid his; clear his h1
    go_enter Tryd.func16, Tryd.ntmps16
    go_wp2_with fail
    refine (HIS.out _).mono ?_; rintro e w1 ⟨rfl, b1⟩
    have HB1 := Lib.hid (HP0.out.2.trans (b1.mono HP0.out.2.size)); clear b1
    go_wp2_with fail
    refine bodyPost_ret (v := .tuple #[.int .i64 0, .bool false]) (by simp [results, Tryd.results16, go_sem]) rfl ⟨rfl, HB1.out⟩
  · rw [(rk_ok h1).1, (rk_ok h1).2]
    rw [h1] at his
    have hcn := fun w => raCount_any tq ld s w hs
    rw [isP_cnt h1] at hcn
    unfold cntV at hcn
    obtain ⟨a0, b0, ab, sz, ht, hlb⟩ := isP_bd h1
    have hab := (ptsB_true.1 (isP_true.1 h1).2.1).2
    have hrk : rkT tq ld s = beforeP tq ld (cntA s.data.toList) (cntB s.data.toList) 0 0 s.data.toList := rfl
    rw [hrk]
    obtain ⟨A, hA⟩ : ∃ A : Nat, cntA s.data.toList = A := ⟨(cntA s.data.toList).toNat, by omega⟩
    obtain ⟨B, hB⟩ : ∃ B : Nat, cntB s.data.toList = B := ⟨(cntB s.data.toList).toNat, by omega⟩
    rw [hA, hB] at hcn ab ⊢
    have hbk := fun w => raBack_any tq ld A B (by omega) w
    have hbb := (before_bd tq ld A B s.data.toList 0 0).2
    have hl : s.data.toList.length = s.size := by simp
    generalize hS : beforeP tq ld A B 0 0 s.data.toList = S
    have hSb : S ≤ 200000000000000000 := by rw [hS] at hbb; unfold capR at hbb; rw [hl] at hbb; omega
    have H0 : Hid (RkF tq ld A B S s 0 0 0 0) := ⟨Int.le_refl _, by rw [List.drop_zero, Int.zero_add]; exact hS, by rw [List.drop_zero, hA]; omega, by rw [List.drop_zero, hB]; omega⟩
    have HAB := Lib.hid (And.intro hab hSb)
    have HCN := Lib.hid (And.intro his (And.intro hcn hbk))
    obtain ⟨V, hV⟩ : ∃ V, V = (if 1000000000000000 < S then 0 else S) := ⟨_, rfl⟩
    obtain ⟨O, hO⟩ : ∃ O, O = !decide (1000000000000000 < S) := ⟨_, rfl⟩
    rw [← hV, ← hO]
    have HVO := Lib.hid (And.intro hV hO); clear hV hO
    have hAI : (A : Int) ≤ 100 := by omega
    have hBI : (B : Int) ≤ 100 := by omega
    have hsI : (s.size : Int) ≤ 100 := by omega
    clear hbb hl hS hA hB hab hSb hrk h1 a0 b0 ab ht hlb his hcn hbk
    go_enter Tryd.func16, Tryd.ntmps16
    go_wp2_with fail
    refine (HCN.out.1 _).mono ?_; rintro e w1 ⟨rfl, b1⟩
    have HP1 := Lib.hid (And.intro (HP0.out.1.keep b1) (HP0.out.2.trans (b1.mono HP0.out.2.size))); clear b1 HP0
    have c0 := HP1.out.1.2.1
    have c1 := HP1.out.1.2.2.1
    go_wp2_with fail
    refine (HCN.out.2.1 _).mono ?_; rintro e w2 ⟨rfl, b2⟩
    have HP2 := Lib.hid (And.intro (HP1.out.1.keep b2) (HP1.out.2.trans (b2.mono HP1.out.2.size))); clear b2 HP1 c0 c1
    have c0 := HP2.out.1.2.1
    have c1 := HP2.out.1.2.2.1
    go_wp2_with fail
    refine (HCN.out.2.2 _).mono ?_; rintro e w3 ⟨v, bk, wb, rfl, t3, b3⟩
    obtain ⟨gv, cv, hv, -⟩ := t3.shape (by omega)
    subst hv
    have HT := Lib.hid t3
    have HB3 := Lib.hid (HP2.out.2.trans (b3.mono HP2.out.2.size)); clear b3 t3 HP2 c0 c1
    go_wp2_with fail
    go_loopw [10, 11, 12, 13] (fun r xx yy i wr => ∃ (k x y : Nat) (m : Int), i = .int .i64 k ∧ xx = .int .i64 x ∧ yy = .int .i64 y ∧ r = .int .i64 (capM m) ∧ k ≤ s.size ∧ Hid (RkF tq ld A B S s k x y m) ∧ wr = w3) (fun _ _ _ i _ => s.size - (intOf i).toNat)
    case atStart => exact ⟨0, 0, 0, 0, rfl, rfl, rfl, rfl, Nat.zero_le _, H0, rfl⟩
    case round =>
      clear H0
      obtain ⟨k, x, y, m, rfl, rfl, rfl, rfl, hk, HF, rfl⟩ := hrel
      obtain ⟨m1, x1, y1⟩ := HF.out.bd HAB.out.2
      have m0 := HF.out.m0
      have hcb := capM_bd m0
      unfold capR at hcb
      obtain ⟨cb0, cb1⟩ := hcb
      by_cases hlt : k < s.size
      · have hlti : (k : Int) < (s.size : Int) := by omega
        have wk : IntKind.i64.wrap ((k : Int) + 1) = (k : Int) + 1 := IntWalk.i64_in _ (by omega)
        rcases rko_at HAB.out.1 hlt with hc | hc
        · have HN := Lib.hid (HF.out.a hlt hc)
          have e : ((s[k].toNat : Int) == 97) = true := by rw [b97]; simp [hc]
          generalize hcm : capM m = cm at *
          have HCM := Lib.hid hcm; clear hcm
          have wx : IntKind.i64.wrap ((x : Int) + 1) = (x : Int) + 1 := IntWalk.i64_in _ (by omega)
          clear hc HF m0 m1 y1
          go_wp2_with fail
          go_roundw
          case rel => exact ⟨k + 1, x + 1, y, m, by go_num, by go_num, rfl, by rw [HCM.out], by omega, HN, by first | rfl | trivial⟩
          case measure => simp [intOf] <;> omega
        · have HN := Lib.hid (HF.out.b hlt hc)
          have e : ((s[k].toNat : Int) == 97) = false := by rw [b97]; simp [hc]
          have hbd := onR_bd tq ld A B ((x : Int) + 1) y
          unfold capR at hbd
          obtain ⟨hbd0, hbd1⟩ := hbd
          have hmore := capM_more m0 hbd0
          have wy : IntKind.i64.wrap ((y : Int) + 1) = (y : Int) + 1 := IntWalk.i64_in _ (by omega)
          have wx : IntKind.i64.wrap ((x : Int) + 1) = (x : Int) + 1 := IntWalk.i64_in _ (by omega)
          by_cases hxa : x < A
          · have h2 := HT.out.heads rfl (a := x + 1) (by omega)
            have k2 := HT.out.cell (a := x + 1) (b := y) (by omega) (by omega)
            rw [Int.natCast_succ] at k2
            have b2 : (x : Int) + 1 < (A : Int) + 1 := by omega
            have bB : (y : Int) < (B : Int) + 1 := by omega
            have b5 : (0 : Int) ≤ (x : Int) + 1 := by omega
            have qx : decide ((x : Int) < (A : Int)) = true := by simp; omega
            have qx3 : (x < A) = True := by simp; omega
            have hle := fun w => least_any (capM m + onR tq ld A B ((x : Int) + 1) y) w
            rw [hmore] at hle
            generalize hve : onR tq ld A B ((x : Int) + 1) y = v at *
            have wv : IntKind.i64.wrap (capM m + v) = capM m + v := IntWalk.i64_in _ (by omega)
            generalize hcm : capM m = cm at *
            generalize hcn : capM (m + v) = cn at *
            have HCM := Lib.hid (And.intro hve (And.intro hcm hcn))
            have HLE := Lib.hid hle
            clear hc HF m0 m1 y1 hmore hle hve hcm hcn
            go_wp2_with fail
            refine (HLE.out _).mono ?_; rintro e w4 ⟨rfl, rfl⟩
            go_wp2_with fail
            go_roundw
            case rel => exact ⟨k + 1, x, y + 1, m + v, by go_num, rfl, by go_num, by rw [HCM.out.2.2], by omega, HN, by first | rfl | trivial⟩
            case measure => simp [intOf] <;> omega
          · have hv0 : onR tq ld A B ((x : Int) + 1) y = 0 := onR_off _ _ _ _ _ _ (.inl (by omega))
            rw [hv0, Int.add_zero] at HN
            have qx : decide ((x : Int) < (A : Int)) = false := by simp; omega
            have qx3 : (x < A) = False := by simp; omega
            clear hmore hbd0 hbd1 hv0
            generalize hcm : capM m = cm at *
            have HCM := Lib.hid hcm; clear hcm
            clear hc HF m0 m1 y1
            go_wp2_with fail
            go_roundw
            case rel => exact ⟨k + 1, x, y + 1, m, by go_num, rfl, by go_num, by rw [HCM.out], by omega, HN, by first | rfl | trivial⟩
            case measure => simp [intOf] <;> omega
      · obtain rfl : k = s.size := by omega
        have hv : m = S := by
          have := HF.out.sum
          rw [drop_all] at this
          rw [← this]; simp [beforeP]
        subst hv
        have hov := capM_over m
        by_cases ho : 1000000000000000 < m
        · rw [decide_eq_true ho] at hov
          generalize capM m = cm at *
          have ho2 : 1000000000000000 < cm := by simpa using hov
          have HO := Lib.hid ho; clear ho hov HF m0 m1 x1 y1
          go_wp2_with fail
          refine bodyPost_ret (v := .tuple #[.int .i64 0, .bool false]) (by simp [results, Tryd.results16, go_sem]) rfl ⟨by rw [HVO.out.1, HVO.out.2, if_pos HO.out, decide_eq_true HO.out]; rfl, HB3.out⟩
        · rw [capM_under ho] at *
          have HO := Lib.hid ho; clear hov HF m0 m1 x1 y1
          go_wp2_with fail
          refine bodyPost_ret (v := .tuple #[.int .i64 m, .bool true]) (by simp [results, Tryd.results16, go_sem]) rfl ⟨by rw [HVO.out.1, HVO.out.2, if_neg (by have := HO.out; omega), decide_eq_false (by have := HO.out; omega)]; rfl, HB3.out⟩
end Go.Proofs.YthlkndloggmehaaDoor
