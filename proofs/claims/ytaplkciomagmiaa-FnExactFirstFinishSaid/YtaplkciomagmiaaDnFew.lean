/-
  Darts: the program's least numbers of darts of all that may be left.
-/
import Derived.Test.YtaplkciomagmiaaDnRow
namespace Go.Proofs.Ytaplkciomagmiaa
open Go.RowKit
set_option linter.unusedVariables false
set_option linter.unusedSimpArgs false

theorem finB_len : ∀ k n, finB k n = true → (k : Int) ≤ n
  | 0, n, h => by simp [finB] at h
  | 1, n, h => by have := finB_pos 1 n h; omega
  | k + 2, n, h => by
    simp only [finB, List.any_eq_true] at h
    obtain ⟨d, hd, h1⟩ := h
    have := finB_len (k + 1) _ h1
    have := allD_bd d hd
    omega
theorem fewN_bd (n : Nat) : 0 ≤ fewN n ∧ fewN n ≤ n := by
  rcases fewN_is n with ⟨h, _⟩ | ⟨h, ⟨k, hk, hf⟩, _⟩
  · omega
  · have := finB_len _ _ hf; omega
def rowL (n : Nat) (cur : Int) : List Int := fewT n ++ cur :: List.replicate (1001 - n) 0
theorem rowL_len {n : Nat} (cur : Int) (h : n < 1002) : (rowL n cur).length = 1002 := by simp [rowL, fewT_len]; omega
theorem rowL_get {n r : Nat} (cur : Int) (h : r < n) : (rowL n cur).getD r 0 = fewN r := by
  unfold rowL
  rw [List.getD_eq_getElem?_getD, List.getElem?_append_left (by rw [fewT_len]; exact h), ← List.getD_eq_getElem?_getD, fewT_at n r h]
theorem rowL_cur (n : Nat) (cur : Int) : (rowL n cur).getD n 0 = cur := by
  unfold rowL
  rw [List.getD_eq_getElem?_getD, List.getElem?_append_right (by rw [fewT_len]; omega), fewT_len]
  simp
theorem rowL_set {n : Nat} (cur : Int) (h : n < 1002) (x : Int) : (rowL n cur).set n x = rowL n x := by
  unfold rowL
  rw [List.set_append, if_neg (by rw [fewT_len]; omega), fewT_len]
  simp
theorem rowL_start {n : Nat} (h : n < 1002) : fewT n ++ List.replicate (1002 - n) 0 = rowL n 0 := by
  unfold rowL
  rw [show 1002 - n = (1001 - n) + 1 by omega, List.replicate_succ]
theorem rowL_end (n : Nat) : rowL n (nextF (fewT n) n) = fewT (n + 1) ++ List.replicate (1002 - (n + 1)) 0 := by
  show fewT n ++ _ = (fewT n ++ [nextF (fewT n) n]) ++ _
  rw [List.append_assoc, show 1002 - (n + 1) = 1001 - n by omega]; rfl
theorem foldl_dropD {β : Type} {l : List (Int × Int)} (f : β → Int × Int → β) {j : Nat} (h : j < l.length) (b : β) : (l.drop j).foldl f b = (l.drop (j + 1)).foldl f (f b (l.getD j (0, 0))) := by
  rw [List.drop_eq_getElem_cons h, List.foldl_cons]
  simp [h]
def FewW (w : World) (g0 gd g2 : Nat) (l : List (Int × Int)) (L : List Int) (wr : World) : Prop :=
  RowAt wr g2 47 L ∧ RowAt wr g0 47 (List.replicate 1002 0) ∧ DcAt wr gd l ∧ Below w.heap.size w wr
theorem FewW.keep {w wr w' : World} {g0 gd g2 : Nat} {l : List (Int × Int)} {L : List Int} (h : FewW w g0 gd g2 l L wr) (hb : Below wr.heap.size wr w') : FewW w g0 gd g2 l L w' :=
  ⟨h.1.keep hb, h.2.1.keep hb, h.2.2.1.keep hb, h.2.2.2.trans (hb.mono h.2.2.2.size)⟩
theorem zc1002 : Try.zeroCells47 = (ints (List.replicate 1002 0)).toArray := by kernel_rfl
theorem info1002 : (Try.prog.info? 47).map (·.size) = some 1002 := by kernel_rfl
theorem cand_zero {n : Nat} {x1 x2 : Int} (h : (n : Int) - x1 * x2 = 0) : candF (fewT n) n (x1, x2) = if x2 = 2 then 1 else 0 := by
  unfold candF scD dblD
  simp only [h, true_and, beq_iff_eq, Int.lt_irrefl, false_and, if_false]
theorem cand_pos {n r : Nat} {x1 x2 : Int} (h : (n : Int) - x1 * x2 = r) (h0 : 0 < r) (h1 : r < n) : candF (fewT n) n (x1, x2) = if 0 < fewN r then 1 + fewN r else 0 := by
  unfold candF scD
  rw [if_neg (fun q => by have := q.1; simp only at this; omega)]
  simp only [h, Int.toNat_natCast]
  rw [fewT_at n r h1]
  by_cases q : 0 < fewN r
  · rw [if_pos ⟨by omega, q⟩, if_pos q]
  · rw [if_neg (fun z => q z.2), if_neg q]
theorem cand_neg {n : Nat} {x1 x2 : Int} (h : (n : Int) - x1 * x2 < 0) : candF (fewT n) n (x1, x2) = 0 := by
  unfold candF scD
  simp only
  rw [if_neg (fun q => by have := q.1; omega), if_neg (fun q => by have := q.1; omega)]

set_option maxRecDepth 8000 in
set_option maxHeartbeats 6400000 in
theorem fewest_any (w : World) :
    Calls Try.prog 48 #[] w fun e w' => e = .returned (.agg (ints (fewT 1002)).toArray) ∧ Below w.heap.size w w' := by
  obtain ⟨L, hL⟩ : ∃ L, L = fewT 1002 := ⟨_, rfl⟩
  rw [← hL]
  have HL := Lib.hid hL; clear hL
  have HI := Lib.hid info1002
  have HZ0 : Hid (RowAt (w.alloc (.cells Try.zeroCells47 47)) w.heap.size 47 (List.replicate 1002 0)) := Lib.hid (by unfold RowAt; rw [← zc1002]; exact heap_alloc_last w _)
  have HB0 := Lib.hid (below_new w (.cells Try.zeroCells47 47))
  go_enter Try.func48, Try.ntmps48
  go_wp2_with fail
  refine (allDarts_any _).mono ?_; rintro e w1 ⟨v, rfl, hown, b1⟩
  obtain ⟨gd, cap, rfl, hgd, hdc⟩ := dcells_of_own hown (by rw [allD_len]; omega)
  have hg2 : w1.heap.size < (w1.alloc (.cells Try.zeroCells47 47)).heap.size := by simp
  have HZ2 : Hid (FewW w w.heap.size gd w1.heap.size allD (fewT 0 ++ List.replicate (1002 - 0) 0) (w1.alloc (.cells Try.zeroCells47 47))) := by
    refine Lib.hid ⟨by unfold RowAt; rw [show fewT 0 ++ List.replicate (1002 - 0) (0 : Int) = List.replicate 1002 0 from rfl, ← zc1002]; exact heap_alloc_last w1 _, (HZ0.out.keep b1).keep (below_new _ _), hdc.keep (below_new _ _), (HB0.out.trans (b1.mono HB0.out.size)).trans ((below_new _ _).mono ?_)⟩
    have := HB0.out.size; have := b1.size; omega
  have HNE : Hid (w.heap.size ≠ w1.heap.size ∧ gd ≠ w1.heap.size ∧ w.heap.size ≤ w1.heap.size) := by
    have h1 := hdc.1
    have h2 := b1.size
    simp at h2
    exact Lib.hid ⟨by omega, by omega, by omega⟩
  clear hown b1 hgd hdc HZ0 HB0 hg2
  obtain ⟨l, hl⟩ : ∃ l, l = allD := ⟨_, rfl⟩
  have HN : Hid (∀ n : Nat, l.foldl (stepF (fewT n) n) 0 = nextF (fewT n) n) := Lib.hid (fun n => by rw [hl]; rfl)
  have HD : Hid (∀ d ∈ l, 1 ≤ scD d ∧ scD d ≤ 60 ∧ 1 ≤ d.1 ∧ d.1 ≤ 25 ∧ 1 ≤ d.2 ∧ d.2 ≤ 3) := Lib.hid (by rw [hl]; exact allD_bd)
  have hl62 : l.length ≤ 62 := by rw [hl, allD_len]; omega
  rw [← hl] at HZ2 ⊢
  clear hl
  obtain ⟨g2, hgg⟩ : ∃ g2, g2 = w1.heap.size := ⟨_, rfl⟩
  obtain ⟨g0, hg0⟩ : ∃ g0, g0 = w.heap.size := ⟨_, rfl⟩
  go_wp2_with fail
  rw [← hgg] at HZ2 HNE ⊢
  rw [← hg0] at HZ2 HNE ⊢
  clear hgg
  have HG0 := Lib.hid hg0; clear hg0
  generalize w1.alloc (.cells Try.zeroCells47 47) = W0 at *
  go_loopw [9] (fun i wr => ∃ n : Nat, i = .int .i64 n ∧ n ≤ 1002 ∧ Hid (FewW w g0 gd g2 l (fewT n ++ List.replicate (1002 - n) 0) wr)) (fun i _ => 1002 - (intOf i).toNat)
  case atStart => exact ⟨0, rfl, by omega, HZ2⟩
  case round =>
    clear HZ2
    obtain ⟨n, rfl, hn0, hF⟩ := hrel
    by_cases hn : n < 1002
    · have b1 : (n : Int) < 1002 := by omega
      have hF2 := hF.out
      rw [rowL_start hn] at hF2
      have HF := Lib.hid hF2; clear hF2 hF
      have HNn := Lib.hid (HN.out n)
      go_wp2_with fail
      go_loopw [14] (fun i wr => ∃ (j : Nat) (cur : Int), i = .int .i64 j ∧ j ≤ l.length ∧ 0 ≤ cur ∧ cur ≤ 1002 ∧ Hid ((l.drop j).foldl (stepF (fewT n) n) cur = nextF (fewT n) n) ∧ Hid (FewW w g0 gd g2 l (rowL n cur) wr)) (fun i _ => l.length - (intOf i).toNat)
      case atStart => exact ⟨0, 0, rfl, Nat.zero_le _, by omega, by omega, HNn, HF⟩
      case round =>
        clear HF HNn
        obtain ⟨j, cur, rfl, hj, u1, u2, hfo, hW⟩ := hrel
        by_cases hlt : j < l.length
        · have b2 : (j : Int) < (l.length : Int) := by omega
          obtain ⟨c0, c1⟩ := hW.out.2.2.1.2 j hlt
          have hfd := foldl_dropD (stepF (fewT n) n) hlt cur
          rw [hfo.out] at hfd
          have hbd := HD.out (l.getD j (0, 0)) (by simp [hlt])
          clear hfo
          generalize l.getD j (0, 0) = x at *
          obtain ⟨x1, x2⟩ := x
          simp only [scD] at hbd
          simp only at c0 c1
          obtain ⟨g5, g6, -, -, -, -⟩ := hbd
          have hsz := hW.out.2.2.2.size
          go_wp2_with fail
          refine (dartScore_any x1 x2 _ g5 g6).mono ?_; rintro e w2 ⟨rfl, bd2⟩
          have HW2 : Hid (FewW w g0 gd g2 l (rowL n cur) w2) := Lib.hid ((hW.out.keep (below_new _ _)).keep bd2)
          have k0 : w2.cell? ⟨wr.heap.size, 0, none⟩ = some (.int .i64 x1) := by rw [bd2.cell (p := ⟨wr.heap.size, 0, none⟩) (by simp), World.cell?_alloc_at _ _ _ _ rfl]; rfl
          have k1 : w2.cell? ⟨wr.heap.size, 1, none⟩ = some (.int .i64 x2) := by rw [bd2.cell (p := ⟨wr.heap.size, 1, none⟩) (by simp), World.cell?_alloc_at _ _ _ _ rfl]; rfl
          clear hW bd2 c0 c1 hsz
          generalize wr.heap.size = bk at *
          have cn := HW2.out.1.cell (j := n) (by rw [rowL_len _ hn]; omega)
          rw [rowL_cur] at cn
          have fn := HW2.out.1.free n
          by_cases q0 : (n : Int) - x1 * x2 = 0
          · have e3 : ((n : Int) - x1 * x2 == 0) = true := by simp [q0]
            have HC := Lib.hid (cand_zero q0)
            have wq : IntKind.i64.wrap ((n : Int) - x1 * x2) = (n : Int) - x1 * x2 := IntWalk.i64_in _ (by omega)
            have q0' : ¬ (0 < (n : Int) - x1 * x2) := by omega
            by_cases q4 : x2 = 2
            · have e4 : (x2 == 2) = true := by simp [q4]
              have HC2 := HC.out; rw [if_pos q4] at HC2
              have HC := Lib.hid HC2; clear HC2
              have E4 := Lib.hid e4; clear e4 q4 q0
              go_wp2_with fail
              refine (isDouble_any x1 x2 _).mono ?_; rintro r w3 ⟨rfl, bd3⟩
              rw [E4.out]
              have HW2 : Hid (FewW w g0 gd g2 l (rowL n cur) w3) := Lib.hid (HW2.out.keep bd3)
              have cn := HW2.out.1.cell (j := n) (by rw [rowL_len _ hn]; omega)
              rw [rowL_cur] at cn
              have fn := HW2.out.1.free n
              clear bd3 k0 k1
              by_cases z0 : cur = 0
              · have hst : stepF (fewT n) n cur (x1, x2) = 1 := by unfold stepF; rw [HC.out, if_pos ⟨by omega, .inl z0⟩]
                have e0 : (cur == 0) = true := by simp [z0]
                rw [hst] at hfd
                have HFD := Lib.hid hfd.symm; clear hfd hst
                have hpu := HW2.out.1.put (j := n) (by rw [rowL_len _ hn]; omega) (1)
                rw [rowL_set _ hn] at hpu
                have HPU := Lib.hid (And.intro hpu (And.intro (HW2.out.2.1.other ⟨g2, n, none⟩ (.int .i64 (1)) HNE.out.1) (And.intro (HW2.out.2.2.1.other ⟨g2, n, none⟩ (.int .i64 (1)) HNE.out.2.1) (HW2.out.2.2.2.setCell (p := ⟨g2, n, none⟩) (Nat.le_trans (Nat.le_of_eq HG0.out.symm) HNE.out.2.2) (.int .i64 (1)))))); clear hpu
                go_wp2_with fail
                go_roundw
                case rel => exact ⟨j + 1, 1, by go_num, by omega, by omega, by omega, HFD, HPU⟩
                case measure => simp [intOf]; omega
              · have e0 : (cur == 0) = false := by simp [z0]
                by_cases z1 : 1 < cur
                · have hst : stepF (fewT n) n cur (x1, x2) = 1 := by unfold stepF; rw [HC.out, if_pos ⟨by omega, .inr z1⟩]
                  rw [hst] at hfd
                  have HFD := Lib.hid hfd.symm; clear hfd hst
                  have hpu := HW2.out.1.put (j := n) (by rw [rowL_len _ hn]; omega) (1)
                  rw [rowL_set _ hn] at hpu
                  have HPU := Lib.hid (And.intro hpu (And.intro (HW2.out.2.1.other ⟨g2, n, none⟩ (.int .i64 (1)) HNE.out.1) (And.intro (HW2.out.2.2.1.other ⟨g2, n, none⟩ (.int .i64 (1)) HNE.out.2.1) (HW2.out.2.2.2.setCell (p := ⟨g2, n, none⟩) (Nat.le_trans (Nat.le_of_eq HG0.out.symm) HNE.out.2.2) (.int .i64 (1)))))); clear hpu
                  go_wp2_with fail
                  go_roundw
                  case rel => exact ⟨j + 1, 1, by go_num, by omega, by omega, by omega, HFD, HPU⟩
                  case measure => simp [intOf]; omega
                · have hst : stepF (fewT n) n cur (x1, x2) = cur := by unfold stepF; rw [HC.out, if_neg (fun q => q.2.elim z0 z1)]
                  rw [hst] at hfd
                  have HFD := Lib.hid hfd.symm; clear hfd hst
                  go_wp2_with fail
                  go_roundw
                  case rel => exact ⟨j + 1, cur, by go_num, by omega, by omega, by omega, HFD, HW2⟩
                  case measure => simp [intOf]; omega
            · have e4 : (x2 == 2) = false := by simp [q4]
              have HC2 := HC.out; rw [if_neg q4] at HC2
              have HC := Lib.hid HC2; clear HC2
              have E4 := Lib.hid e4; clear e4 q4 q0
              go_wp2_with fail
              refine (isDouble_any x1 x2 _).mono ?_; rintro r w3 ⟨rfl, bd3⟩
              rw [E4.out]
              have HW2 : Hid (FewW w g0 gd g2 l (rowL n cur) w3) := Lib.hid (HW2.out.keep bd3)
              clear bd3 k0 k1 cn fn
              have hst : stepF (fewT n) n cur (x1, x2) = cur := by unfold stepF; rw [HC.out, if_neg (fun q => absurd q.1 (by omega))]
              rw [hst] at hfd
              have HFD := Lib.hid hfd.symm; clear hfd hst
              go_wp2_with fail
              go_roundw
              case rel => exact ⟨j + 1, cur, by go_num, by omega, by omega, by omega, HFD, HW2⟩
              case measure => simp [intOf]; omega
          · have e3 : ((n : Int) - x1 * x2 == 0) = false := by simp [q0]
            by_cases q1 : 0 < (n : Int) - x1 * x2
            · obtain ⟨r, hr⟩ : ∃ r : Nat, (n : Int) - x1 * x2 = (r : Int) := ⟨((n : Int) - x1 * x2).toNat, by omega⟩
              have HC := Lib.hid (cand_pos hr (by omega) (by omega))
              have cr := HW2.out.1.cell (j := r) (by rw [rowL_len _ hn]; omega)
              rw [rowL_get _ (by omega)] at cr
              have hfb := fewN_bd r
              rw [hr] at e3 q0 q1
              have b3 : (r : Int) < 1002 := by omega
              generalize fewN r = t at *
              by_cases q5 : 0 < t
              · have HC2 := HC.out; rw [if_pos q5] at HC2
                have HC := Lib.hid HC2; clear HC2
                by_cases z0 : cur = 0
                · have hst : stepF (fewT n) n cur (x1, x2) = 1 + t := by unfold stepF; rw [HC.out, if_pos ⟨by omega, .inl z0⟩]
                  have e0 : (cur == 0) = true := by simp [z0]
                  rw [hst] at hfd
                  have HFD := Lib.hid hfd.symm; clear hfd hst
                  have hpu := HW2.out.1.put (j := n) (by rw [rowL_len _ hn]; omega) (1 + t)
                  rw [rowL_set _ hn] at hpu
                  have HPU := Lib.hid (And.intro hpu (And.intro (HW2.out.2.1.other ⟨g2, n, none⟩ (.int .i64 (1 + t)) HNE.out.1) (And.intro (HW2.out.2.2.1.other ⟨g2, n, none⟩ (.int .i64 (1 + t)) HNE.out.2.1) (HW2.out.2.2.2.setCell (p := ⟨g2, n, none⟩) (Nat.le_trans (Nat.le_of_eq HG0.out.symm) HNE.out.2.2) (.int .i64 (1 + t)))))); clear hpu
                  go_wp2_with fail
                  go_roundw
                  case rel => exact ⟨j + 1, 1 + t, by go_num, by omega, by omega, by omega, HFD, HPU⟩
                  case measure => simp [intOf]; omega
                · have e0 : (cur == 0) = false := by simp [z0]
                  by_cases z1 : 1 + t < cur
                  · have hst : stepF (fewT n) n cur (x1, x2) = 1 + t := by unfold stepF; rw [HC.out, if_pos ⟨by omega, .inr z1⟩]
                    rw [hst] at hfd
                    have HFD := Lib.hid hfd.symm; clear hfd hst
                    have hpu := HW2.out.1.put (j := n) (by rw [rowL_len _ hn]; omega) (1 + t)
                    rw [rowL_set _ hn] at hpu
                    have HPU := Lib.hid (And.intro hpu (And.intro (HW2.out.2.1.other ⟨g2, n, none⟩ (.int .i64 (1 + t)) HNE.out.1) (And.intro (HW2.out.2.2.1.other ⟨g2, n, none⟩ (.int .i64 (1 + t)) HNE.out.2.1) (HW2.out.2.2.2.setCell (p := ⟨g2, n, none⟩) (Nat.le_trans (Nat.le_of_eq HG0.out.symm) HNE.out.2.2) (.int .i64 (1 + t)))))); clear hpu
                    go_wp2_with fail
                    go_roundw
                    case rel => exact ⟨j + 1, 1 + t, by go_num, by omega, by omega, by omega, HFD, HPU⟩
                    case measure => simp [intOf]; omega
                  · have hst : stepF (fewT n) n cur (x1, x2) = cur := by unfold stepF; rw [HC.out, if_neg (fun q => q.2.elim z0 z1)]
                    rw [hst] at hfd
                    have HFD := Lib.hid hfd.symm; clear hfd hst
                    go_wp2_with fail
                    go_roundw
                    case rel => exact ⟨j + 1, cur, by go_num, by omega, by omega, by omega, HFD, HW2⟩
                    case measure => simp [intOf]; omega
              · have HC2 := HC.out; rw [if_neg q5] at HC2
                have HC := Lib.hid HC2; clear HC2
                clear cn fn
                have hst : stepF (fewT n) n cur (x1, x2) = cur := by unfold stepF; rw [HC.out, if_neg (fun q => absurd q.1 (by omega))]
                rw [hst] at hfd
                have HFD := Lib.hid hfd.symm; clear hfd hst
                go_wp2_with fail
                go_roundw
                case rel => exact ⟨j + 1, cur, by go_num, by omega, by omega, by omega, HFD, HW2⟩
                case measure => simp [intOf]; omega
            · have HC := Lib.hid (cand_neg (x1 := x1) (x2 := x2) (n := n) (by omega))
              clear cn fn
              have hst : stepF (fewT n) n cur (x1, x2) = cur := by unfold stepF; rw [HC.out, if_neg (fun q => absurd q.1 (by omega))]
              rw [hst] at hfd
              have HFD := Lib.hid hfd.symm; clear hfd hst
              go_wp2_with fail
              go_roundw
              case rel => exact ⟨j + 1, cur, by go_num, by omega, by omega, by omega, HFD, HW2⟩
              case measure => simp [intOf]; omega
        · obtain rfl : j = l.length := by omega
          have hfin := hfo.out
          rw [List.drop_length] at hfin
          have hfin2 : cur = nextF (fewT n) n := hfin
          have hW2 := hW.out
          rw [hfin2, rowL_end] at hW2
          have HW2 := Lib.hid hW2; clear hW2 hW hfin hfin2 hfo
          have b2 : ¬ (l.length : Int) < (l.length : Int) := by omega
          go_wp2_with fail
          go_roundw
          case rel => exact ⟨n + 1, by go_num, by omega, HW2⟩
          case measure => simp [intOf]; omega
    · obtain rfl : n = 1002 := by omega
      have hF2 := hF.out
      rw [show fewT 1002 ++ List.replicate (1002 - 1002) (0 : Int) = fewT 1002 from List.append_nil _] at hF2
      have hlen := fewT_len 1002
      rw [← HL.out] at hF2 hlen
      clear hF
      have hsz : (ints L).toArray.size = 1002 := by rw [List.size_toArray, ints_len, hlen]
      have hi2 : (Try.prog.info? 47).map (·.size) = some (ints L).toArray.size := by rw [hsz]; exact HI.out
      have hz2 : (ints (List.replicate 1002 0)).toArray.size = (ints L).toArray.size := by rw [hsz]; simp [ints]
      have HF := Lib.hid (And.intro hF2 (And.intro hi2 hz2)); clear hF2 hi2 hz2 hsz hlen
      have HFl := Lib.hid (ints_flat L)
      go_wp2_with (first | refine wpList_load_row rfl 47 _ rfl g2 rfl 47 (ints L).toArray (0, 0) _ HF.out.1.1 Try.underlying47 rfl HF.out.2.1 ?_ | refine wpList_store_row rfl 47 _ _ rfl g0 (ints L).toArray rfl rfl 47 _ HF.out.1.2.1 HF.out.2.1 HF.out.2.2 HFl.out ?_)
      have hrow := setRow_heap wr g0 _ (ints L).toArray 47 _ HF.out.1.2.1
      refine bodyPost_ret (v := .agg (ints L).toArray) (results_cell_row Try.results48 _ _ g0 47 _ _ _ rfl hrow Try.underlying47 rfl HF.out.2.1) rfl ⟨rfl, below_setRow HF.out.1.2.2.2 (Nat.le_of_eq HG0.out.symm) _⟩
end Go.Proofs.Ytaplkciomagmiaa
