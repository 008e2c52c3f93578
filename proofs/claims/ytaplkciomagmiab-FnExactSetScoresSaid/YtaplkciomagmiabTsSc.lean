/-
  Tennis: the scores of ended sets, in order.
-/
import Derived.Test.YtaplkciomagmiabTsRow
namespace Go.Proofs.Ytaplkciomagmiab
open Go.RowKit
set_option linter.unusedVariables false
set_option linter.unusedSimpArgs false

def setScoreB (a b : Int) : Bool := (decide (a = 6) && inR b 0 4) || (decide (a = 7) && inR b 5 6)
set_option maxHeartbeats 800000 in
theorem implIsSetScore_any (a b : Int) (w : World) :
    Calls Try.prog 19 #[.int .i64 a, .int .i64 b] w fun e w' => e = .returned (.bool (setScoreB a b)) ∧ w = w' := by
  by_cases h6 : a = 6
  · subst h6
    rw [show setScoreB 6 b = inR b 0 4 from by simp [setScoreB]]
    by_cases h1 : 0 ≤ b <;> by_cases h2 : b ≤ 4
    all_goals
      go_enter Try.func19, Try.ntmps19
      go_wp2
      go_ret
      exact ⟨ret_bool (by simp [inR, *]), rfl⟩
  · have b6 : ((a : Int) == 6) = false := by simp [h6]
    by_cases h7 : a = 7
    · subst h7
      rw [show setScoreB 7 b = inR b 5 6 from by simp [setScoreB]]
      by_cases h1 : b = 5
      · subst h1
        go_enter Try.func19, Try.ntmps19
        go_wp2
        go_ret
        exact ⟨ret_bool (by decide), rfl⟩
      · have b1 : ((b : Int) == 5) = false := by simp [h1]
        have hd : inR b 5 6 = ((b : Int) == 6) := by rw [Bool.eq_iff_iff]; simp [inR]; omega
        rw [hd]; clear hd h1
        go_enter Try.func19, Try.ntmps19
        go_wp2
        go_ret
        exact ⟨rfl, rfl⟩
    · have b7 : ((a : Int) == 7) = false := by simp [h7]
      rw [show setScoreB a b = false from by simp [setScoreB, h6, h7]]
      clear h6 h7
      go_enter Try.func19, Try.ntmps19
      go_wp2
      go_ret
      exact ⟨rfl, rfl⟩

set_option maxHeartbeats 800000 in
theorem specIsSetScore_any (a b : Int) (w : World) :
    Calls Try.prog 18 #[.int .i64 a, .int .i64 b] w fun e w' => e = .returned (.bool (setScoreB a b)) ∧ w = w' := by
  by_cases h6 : a = 6
  · subst h6
    rw [show setScoreB 6 b = inR b 0 4 from by simp [setScoreB]]
    cases hr : inR b 0 4
    all_goals
      have HR := Lib.hid hr; clear hr
      go_enter Try.func18, Try.ntmps18
      go_wp2_with fail
      refine (l1In_any _ _ _ _).mono ?_; rintro e w' ⟨rfl, rfl⟩
      rw [HR.out]
      go_wp2_with fail
      go_ret
      exact ⟨rfl, rfl⟩
  · have b6 : ((a : Int) == 6) = false := by simp [h6]
    by_cases h7 : a = 7
    · subst h7
      rw [show setScoreB 7 b = inR b 5 6 from by simp [setScoreB]]
      cases hr : inR b 5 6
      all_goals
        have HR := Lib.hid hr; clear hr
        go_enter Try.func18, Try.ntmps18
        go_wp2_with fail
        refine (l1In_any _ _ _ _).mono ?_; rintro e w' ⟨rfl, rfl⟩
        rw [HR.out]
        go_wp2_with fail
        go_ret
        exact ⟨rfl, rfl⟩
    · have b7 : ((a : Int) == 7) = false := by simp [h7]
      rw [show setScoreB a b = false from by simp [setScoreB, h6, h7]]
      clear h6 h7
      go_enter Try.func18, Try.ntmps18
      go_wp2_with fail
      go_ret
      exact ⟨rfl, rfl⟩


def scRow (a j : Nat) : List (Int × Int) := ((List.range j).filter fun (b : Nat) => setScoreB (a : Int) (b : Int)).map fun (b : Nat) => ((a : Int), (b : Int))
/-- The scores of all rows before the k-th, and of the first j columns of the k-th. -/
def scT (n k j : Nat) : List (Int × Int) := ((List.range k).flatMap fun a => scRow a n) ++ scRow k j
/-- All scores. -/
def scA : List (Int × Int) := [(6, 0), (6, 1), (6, 2), (6, 3), (6, 4), (7, 5), (7, 6)]
theorem scT_in (n k j : Nat) (h : setScoreB (k : Int) (j : Int) = true) : scT n k (j + 1) = scT n k j ++ [((k : Int), (j : Int))] := by
  unfold scT scRow
  rw [List.range_succ, List.filter_append, List.map_append, List.append_assoc]; simp [h]
theorem scT_out (n k j : Nat) (h : setScoreB (k : Int) (j : Int) = false) : scT n k (j + 1) = scT n k j := by
  unfold scT scRow
  rw [List.range_succ, List.filter_append, List.map_append]; simp [h]
theorem scT_row (n k : Nat) : scT n k n = scT n (k + 1) 0 := by
  unfold scT
  rw [List.range_succ, List.flatMap_append]; simp [scRow]
theorem scRow_len (a j : Nat) : (scRow a j).length ≤ j := by
  unfold scRow; rw [List.length_map]
  exact Nat.le_trans (List.length_filter_le _ _) (by simp)
theorem scT_len (n k j : Nat) (hn : n ≤ 8) (hk : k ≤ 8) (hj : j ≤ 8) : (scT n k j).length ≤ 72 := by
  have h1 := scRow_len k j
  have h2 : ∀ m, ((List.range m).flatMap fun a => scRow a n).length ≤ m * 8 := by
    intro m
    induction m with
    | zero => simp
    | succ m ih =>
      have := scRow_len m n
      rw [List.range_succ, List.flatMap_append, List.length_append]
      simp only [List.flatMap_cons, List.flatMap_nil, List.append_nil]
      omega
  have := h2 k
  unfold scT
  rw [List.length_append]
  omega
/-- Rows of two, made by the call. -/
def PS (w : World) (L : List (Int × Int)) (v : Value) (wr : World) : Prop := PairD w.heap.size L v wr ∧ Below w.heap.size w wr
theorem PS.more {w : World} {L : List (Int × Int)} {v : Value} {w2 : World} (h : PS w L v w2) (x y : Int) {vs : List Value} (hvs : w2.ownsRow w.heap.size 32 1 v L.length vs ∧ (Heads vs (rows2 L) ∧ (∀ j, j < L.length → RowAt w2 (blk vs j) 3 ((rows2 L).getD j []) ∧ w.heap.size ≤ blk vs j) ∧ Apart vs (rows2 L))) {v' : Value} {w5 : World}
    (ho : w5.ownsRow w.heap.size 32 1 v' (L.length + 1) (vs ++ [.slice (some ⟨w2.heap.size, 0, none⟩) 2 2])) (hg : ((w2.alloc (.cells #[.int .i64 x, .int .i64 y] 3)).alloc (.cells #[.slice (some ⟨w2.heap.size, 0, none⟩) 2 2] 32)).grownBy w5 v.ownBlock) :
    PS w (L ++ [(x, y)]) v' w5 :=
  ⟨h.1.snoc' h.2.size ⟨vs, hvs.1, hvs.2, ho⟩ hg, pair_grown hvs.1 h.2.size h.2 hg⟩

set_option maxHeartbeats 6400000 in
set_option maxRecDepth 100000 in
theorem implScores_any (w : World) :
    Calls Try.prog 8 #[] w fun e w' => ∃ v, e = .returned v ∧ PairD w.heap.size scA v w' ∧ Below w.heap.size w w' := by
  obtain ⟨i0, hi, hz0, hz1, hz2⟩ := info_parts infoSlice
  have HI := Lib.hid (And.intro hi (And.intro hz0 (And.intro hz1 hz2))); clear hi hz0 hz1 hz2
  have H1 : Hid (PS w (scT 8 0 0) (.slice none 0 0) w) := Lib.hid ⟨by rw [show scT 8 0 0 = [] from by decide]; exact PairD.nil _ _, Below.refl _ _⟩
  go_enter Try.func8, Try.ntmps8
  go_wp2_with fail
  go_loopw [1, 4] (fun vv i wr => ∃ k : Nat, i = .int .i64 k ∧ 0 ≤ k ∧ k ≤ 8 ∧ Hid (PS w (scT 8 k 0) vv wr)) (fun _ i _ => 8 - (intOf i).toNat)
  case atStart => exact ⟨0, rfl, by omega, by omega, H1⟩
  case round =>
    clear H1
    obtain ⟨k, rfl, hk0, hk, hH⟩ := hrel
    by_cases hlt : k < 8
    · have b1 : (k : Int) < 8 := by omega
      go_wp2_with fail
      go_loopw [1, 7] (fun vv i wr => ∃ j : Nat, i = .int .i64 j ∧ j ≤ 8 ∧ Hid (PS w (scT 8 k j) vv wr)) (fun _ i _ => 8 - (intOf i).toNat)
      case atStart => exact ⟨0, rfl, by omega, hH⟩
      case round =>
        clear hH
        obtain ⟨j, rfl, hj, hH⟩ := hrel
        by_cases hlj : j < 8
        · have b2 : (j : Int) < 8 := by omega
          have HC := Lib.hid (implIsSetScore_any (k : Int) (j : Int))
          cases hs : setScoreB (k : Int) (j : Int)
          · rw [hs] at HC
            have H2 := Lib.hid hH.out
            rw [← scT_out 8 k j hs] at H2
            clear hH hs
            go_wp2_with fail
            refine (HC.out _).mono ?_; rintro e w5 ⟨rfl, rfl⟩
            go_wp2_with fail
            go_roundw
            case rel => exact ⟨j + 1, by go_num, by omega, H2⟩
            case measure => simp [intOf]; omega
          · rw [hs] at HC
            have hL := scT_in 8 k j hs
            have hlen := scT_len 8 k j (by omega) (by omega) (by omega)
            have HL := Lib.hid hL; clear hL hs
            go_wp2_with fail
            refine (HC.out _).mono ?_; rintro e w5 ⟨rfl, rfl⟩
            generalize scT 8 k j = L at *
            obtain ⟨vs, hvs⟩ := hH.out.1
            have HVS := Lib.hid hvs; clear hvs
            have HN := Lib.hid (fun o v => new_head wr o v 32)
            have HLN := Lib.hid hlen; clear hlen
            go_wp2_with (at_builtin; refine wpList_append_own_at _ rfl _ _ 22 rfl w.heap.size 32 i0 (.slice none 0 0) 1 24 Try.underlying22 HI.out.1 HI.out.2.1 HI.out.2.2.1 HI.out.2.2.2 rfl (by decide) _ _ _ rfl ((HVS.out.1.alloc _).alloc _) ⟨wr.heap.size + 1, 0, none⟩ 1 1 [.slice (some ⟨wr.heap.size, 0, none⟩) 2 2] rfl rfl (HN.out _ _) ?_ ?_ ?_ ?_ ?_)
            · first | rfl | (intro u hu; simp at hu; subst hu; rfl)
            · have := HLN.out; unfold maxLen; omega
            · have := HLN.out; omega
            · have := hH.out.2.size; first | omega | (simp; omega)
            intro v' w7 hown7 hgrow _ _
            have H7 := Lib.hid (hH.out.more (k : Int) (j : Int) HVS.out hown7 hgrow)
            clear hown7 hgrow HVS HN hH HLN
            go_wp2_with fail
            go_roundw
            case rel => exact ⟨j + 1, by go_num, by omega, by rw [HL.out]; exact H7⟩
            case measure => simp [intOf]; omega
        · obtain rfl : j = 8 := by omega
          have H2 := Lib.hid hH.out
          rw [scT_row] at H2
          clear hH
          go_wp2_with fail
          go_roundw
          case rel => exact ⟨k + 1, by go_num, by omega, by omega, H2⟩
          case measure => simp [intOf]; omega
    · obtain rfl : k = 8 := by omega
      have H2 := Lib.hid hH.out
      rw [show scT 8 8 0 = scA from by decide] at H2
      clear hH
      go_wp2_with fail
      go_ret
      exact ⟨_, rfl, H2.out.1, H2.out.2⟩

set_option maxHeartbeats 6400000 in
set_option maxRecDepth 100000 in
theorem specScores_any (w : World) :
    Calls Try.prog 7 #[] w fun e w' => ∃ v, e = .returned v ∧ PairD w.heap.size scA v w' ∧ Below w.heap.size w w' := by
  obtain ⟨i0, hi, hz0, hz1, hz2⟩ := info_parts infoSlice
  have HI := Lib.hid (And.intro hi (And.intro hz0 (And.intro hz1 hz2))); clear hi hz0 hz1 hz2
  have H1 : Hid (PS w (scT 7 6 0) (.slice none 0 0) w) := Lib.hid ⟨by rw [show scT 7 6 0 = [] from by decide]; exact PairD.nil _ _, Below.refl _ _⟩
  go_enter Try.func7, Try.ntmps7
  go_wp2_with fail
  go_loopw [1, 2] (fun vv i wr => ∃ k : Nat, i = .int .i64 k ∧ 6 ≤ k ∧ k ≤ 8 ∧ Hid (PS w (scT 7 k 0) vv wr)) (fun _ i _ => 8 - (intOf i).toNat)
  case atStart => exact ⟨6, rfl, by omega, by omega, H1⟩
  case round =>
    clear H1
    obtain ⟨k, rfl, hk0, hk, hH⟩ := hrel
    by_cases hlt : k < 8
    · have b1 : (k : Int) ≤ 7 := by omega
      go_wp2_with fail
      go_loopw [1, 3] (fun vv i wr => ∃ j : Nat, i = .int .i64 j ∧ j ≤ 7 ∧ Hid (PS w (scT 7 k j) vv wr)) (fun _ i _ => 7 - (intOf i).toNat)
      case atStart => exact ⟨0, rfl, by omega, hH⟩
      case round =>
        clear hH
        obtain ⟨j, rfl, hj, hH⟩ := hrel
        by_cases hlj : j < 7
        · have b2 : (j : Int) < 7 := by omega
          have HC := Lib.hid (specIsSetScore_any (k : Int) (j : Int))
          cases hs : setScoreB (k : Int) (j : Int)
          · rw [hs] at HC
            have H2 := Lib.hid hH.out
            rw [← scT_out 7 k j hs] at H2
            clear hH hs
            go_wp2_with fail
            refine (HC.out _).mono ?_; rintro e w5 ⟨rfl, rfl⟩
            go_wp2_with fail
            go_roundw
            case rel => exact ⟨j + 1, by go_num, by omega, H2⟩
            case measure => simp [intOf]; omega
          · rw [hs] at HC
            have hL := scT_in 7 k j hs
            have hlen := scT_len 7 k j (by omega) (by omega) (by omega)
            have HL := Lib.hid hL; clear hL hs
            go_wp2_with fail
            refine (HC.out _).mono ?_; rintro e w5 ⟨rfl, rfl⟩
            generalize scT 7 k j = L at *
            obtain ⟨vs, hvs⟩ := hH.out.1
            have HVS := Lib.hid hvs; clear hvs
            have HN := Lib.hid (fun o v => new_head wr o v 32)
            have HLN := Lib.hid hlen; clear hlen
            go_wp2_with (at_builtin; refine wpList_append_own_at _ rfl _ _ 22 rfl w.heap.size 32 i0 (.slice none 0 0) 1 24 Try.underlying22 HI.out.1 HI.out.2.1 HI.out.2.2.1 HI.out.2.2.2 rfl (by decide) _ _ _ rfl ((HVS.out.1.alloc _).alloc _) ⟨wr.heap.size + 1, 0, none⟩ 1 1 [.slice (some ⟨wr.heap.size, 0, none⟩) 2 2] rfl rfl (HN.out _ _) ?_ ?_ ?_ ?_ ?_)
            · first | rfl | (intro u hu; simp at hu; subst hu; rfl)
            · have := HLN.out; unfold maxLen; omega
            · have := HLN.out; omega
            · have := hH.out.2.size; first | omega | (simp; omega)
            intro v' w7 hown7 hgrow _ _
            have H7 := Lib.hid (hH.out.more (k : Int) (j : Int) HVS.out hown7 hgrow)
            clear hown7 hgrow HVS HN hH HLN
            go_wp2_with fail
            go_roundw
            case rel => exact ⟨j + 1, by go_num, by omega, by rw [HL.out]; exact H7⟩
            case measure => simp [intOf]; omega
        · obtain rfl : j = 7 := by omega
          have H2 := Lib.hid hH.out
          rw [scT_row] at H2
          clear hH
          go_wp2_with fail
          go_roundw
          case rel => exact ⟨k + 1, by go_num, by omega, by omega, H2⟩
          case measure => simp [intOf]; omega
    · obtain rfl : k = 8 := by omega
      have H2 := Lib.hid hH.out
      rw [show scT 7 8 0 = scA from by decide] at H2
      clear hH
      go_wp2_with fail
      go_ret
      exact ⟨_, rfl, H2.out.1, H2.out.2⟩

theorem sc_ok : SmallD (rows2 scA) ∧ ∀ j, j < (rows2 scA).length → ((rows2 scA).getD j []).length ≤ 3 := by
  refine ⟨⟨by decide, ?_⟩, ?_⟩ <;> · have : ∀ j, j < 7 → ((rows2 scA).getD j []).length = 2 := by decide
                                     intro j hj
                                     have hj2 : j < 7 := hj
                                     rw [this j hj2]; omega
end Go.Proofs.Ytaplkciomagmiab
