/- What the exact law of CountBreaks does, step by step. -/
import Derived.Test.YtooaeafnneikkabDoorFrAll
import Derived.Deep.RegionWith
namespace Go.Proofs.YtooaeafnneikkabDoor.ExCountBreaks
open Go.RowKit
set_option linter.unusedVariables false

set_option maxHeartbeats 800000 in
theorem law_of (r : Int) (c : Bool) (l : Int) (x1 : Int) (y0 : Int) (o1 : Bool) (hs : (∀ w : World, Calls Tryd.prog 4 #[frW r c l, .int .i64 x1] w fun e w' => e = .returned (.tuple #[.int .i64 y0, .bool o1]) ∧ Below w.heap.size w w')) (hi : (∀ w : World, Calls Tryd.prog 6 #[frW r c l, .int .i64 x1] w fun e w' => e = .returned (.tuple #[.int .i64 y0, .bool o1]) ∧ Below w.heap.size w w')) (w : World) :
    Calls Tryd.prog 3 #[frW r c l, .int .i64 x1] w fun e w' => e = .returned (.bool true) ∧ Below w.heap.size w w' := by
  have HS := Lib.hid hs; clear hs
  have HI := Lib.hid hi; clear hi
  have q0 : ((y0 : Int) != y0) = false := by simp
  have q1 : (o1 != o1) = false := by simp
  go_enter Tryd.func3, Tryd.ntmps3
  go_wp2_with fail
  refine (toFrame_any r c l _).mono ?_; rintro e w1 ⟨rfl, b1⟩
  obtain ⟨c1, f1⟩ := bcell b1; have z1 : w.heap.size < w1.heap.size := (by have := b1.size; (try simp at this); omega)
  go_wp2_with fail
  refine (HS.out _).mono ?_; rintro e w2 ⟨rfl, b2⟩
  obtain ⟨c2, f2⟩ := bcell b2; have z2 : w.heap.size < w2.heap.size := (by have := b2.size; (try simp at this); omega)
  go_wp2_with fail
  refine (toFrame_any r c l _).mono ?_; rintro e w3 ⟨rfl, b3⟩
  obtain ⟨c3, f3⟩ := bcell b3; have z3 : w.heap.size < w3.heap.size := (by have := b3.size; (try simp at this); omega)
  go_wp2_with fail
  refine (HI.out _).mono ?_; rintro e w4 ⟨rfl, b4⟩
  obtain ⟨c4, f4⟩ := bcell b4; have z4 : w.heap.size < w4.heap.size := (by have := b4.size; (try simp at this); omega)
  go_wp2_with fail
  go_ret
  refine ⟨rfl, ?_⟩
  have sz_b1 := b1.size; (try simp at sz_b1); have sz_b2 := b2.size; (try simp at sz_b2); have sz_b3 := b3.size; (try simp at sz_b3); have sz_b4 := b4.size; (try simp at sz_b4)
  (repeat (first | exact Below.refl _ _ | exact ‹Below _ _ _› | refine Below.drew ?_ | refine Below.alloc ?_ (by first | omega | (simp; done) | (simp; omega)) _ | refine Below.setCell ?_ (by first | omega | (simp; done) | (simp; omega)) _ | refine Below.trans ?_ (Below.mono ‹Below _ _ _› (by first | omega | (simp; done) | (simp; omega)))))

def minI (a b : Int) : Int := if a < b then a else b
set_option maxHeartbeats 400000 in
theorem l1Least_any (a b : Int) (w : World) : Calls Tryd.prog 10 #[.int .i64 a, .int .i64 b] w fun e w' => e = .returned (.int .i64 (minI a b)) ∧ w = w' := by
  by_cases h : a < b
  all_goals
    go_enter Tryd.func10, Tryd.ntmps10
    go_wp2
    go_ret
    exact ⟨ret_int (by unfold minI; omega), rfl⟩
set_option maxHeartbeats 400000 in
theorem limitC_any (a : Int) (h : a ≤ 1000000000000000) (w : World) : Calls Tryd.prog 19 #[.int .i64 a, .int .i64 1000000000000000] w fun e w' => e = .returned (.tuple #[.int .i64 a, .bool true]) ∧ w = w' := by
  have hq : decide (1000000000000000 < a) = false := by simp; omega
  clear h
  go_enter Tryd.func19, Tryd.ntmps19
  go_wp2
  refine bodyPost_ret (v := .tuple #[.int .i64 a, .bool true]) (by simp [results, Tryd.results19, go_sem]) rfl ⟨rfl, rfl⟩
set_option maxHeartbeats 400000 in
theorem limit_any (a : Int) (h : a ≤ 1000000000000000) (w : World) : Calls Tryd.prog 15 #[.int .i64 a] w fun e w' => e = .returned (.tuple #[.int .i64 a, .bool true]) ∧ w = w' := by
  have HL := Lib.hid (fun w => limitC_any a h w); clear h
  go_enter Tryd.func15, Tryd.ntmps15
  go_wp2_with fail
  refine (HL.out _).mono ?_; rintro e w1 ⟨rfl, rfl⟩
  go_wp2_with fail
  refine bodyPost_ret (v := .tuple #[.int .i64 a, .bool true]) (by simp [results, Tryd.results15, go_sem]) rfl ⟨rfl, rfl⟩
theorem next_len_cases {n : Nat} (h : 1 ≤ n) : (nextL n).length = 1 ∨ (nextL n).length = 6 := by
  rcases fr_shape n with rfl | ⟨h1, h6⟩ | ⟨r, rfl⟩ | ⟨r, rfl⟩
  · omega
  · rw [nextL_last h1 h6]; exact .inl rfl
  · rw [nextL_col]; exact .inr rfl
  · rw [nextL_red]; exact .inl rfl
theorem head_mem (m : Nat) : (nextL (m + 1)).head?.getD 0 ∈ nextL (m + 1) := by
  have := next_len_pos (n := m + 1) (by omega)
  cases h : nextL (m + 1) with
  | nil => rw [h] at this; simp at this
  | cons a l => simp

/-- What holds at the head of each round. -/
def CntAt (n : Nat) (w : World) (j : Nat) (q : Value) (wr : World) : Prop :=
  ∃ m : Nat, j + m = n ∧ q = .int .i64 (cntBr n j : Nat) ∧ FrAt wr w.heap.size (frR m) (frC m) (frL m) ∧ Below w.heap.size w wr

set_option maxHeartbeats 800000 in
theorem spec_bad (r : Int) (c : Bool) (l : Int) (b : Int) (hg : frG r c l = false) (w : World) :
    Calls Tryd.prog 4 #[frW r c l, .int .i64 b] w fun e w' => e = .returned (.tuple #[.int .i64 0, .bool false]) ∧ Below w.heap.size w w' := by
  have H := Lib.hid hg; clear hg
  go_enter Tryd.func4, Tryd.ntmps4
  go_wp2_with fail
  refine (frGood_any _ _ _ _).mono ?_; rintro e w1 ⟨rfl, b1⟩
  rw [H.out]
  obtain ⟨c1, f1⟩ := bcell b1; have z1 : w.heap.size < w1.heap.size := (by have := b1.size; (try simp at this); omega)
  go_wp2_with fail
  refine bodyPost_ret (v := .tuple #[.int .i64 0, .bool false]) (by simp [results, Tryd.results4, go_sem]) rfl ⟨rfl, ?_⟩
  (repeat (first | exact Below.refl _ _ | exact ‹Below _ _ _› | refine Below.drew ?_ | refine Below.alloc ?_ (by first | omega | (simp; done) | (simp; omega)) _ | refine Below.setCell ?_ (by first | omega | (simp; done) | (simp; omega)) _ | refine Below.trans ?_ (Below.mono ‹Below _ _ _› (by first | omega | (simp; done) | (simp; omega)))))

set_option maxHeartbeats 800000 in
theorem spec_out (n : Nat) (hn : n ≤ 36) (b : Int) (hb : inR b 0 36 = false) (w : World) :
    Calls Tryd.prog 4 #[frV n, .int .i64 b] w fun e w' => e = .returned (.tuple #[.int .i64 0, .bool false]) ∧ Below w.heap.size w w' := by
  have HO := Lib.hid hb; clear hb
  have H := Lib.hid (frG_of hn)
  go_enter Tryd.func4, Tryd.ntmps4
  go_wp2_with fail
  refine (frGood_any _ _ _ _).mono ?_; rintro e w1 ⟨rfl, b1⟩
  rw [H.out]
  obtain ⟨c1, f1⟩ := bcell b1; have z1 : w.heap.size < w1.heap.size := (by have := b1.size; (try simp at this); omega)
  go_wp2_with fail
  refine (l1In_any _ _ _ _).mono ?_; rintro e w2 ⟨rfl, rfl⟩
  rw [HO.out]
  go_wp2_with fail
  refine bodyPost_ret (v := .tuple #[.int .i64 0, .bool false]) (by simp [results, Tryd.results4, go_sem]) rfl ⟨rfl, ?_⟩
  (repeat (first | exact Below.refl _ _ | exact ‹Below _ _ _› | refine Below.drew ?_ | refine Below.alloc ?_ (by first | omega | (simp; done) | (simp; omega)) _ | refine Below.setCell ?_ (by first | omega | (simp; done) | (simp; omega)) _ | refine Below.trans ?_ (Below.mono ‹Below _ _ _› (by first | omega | (simp; done) | (simp; omega)))))

set_option maxHeartbeats 800000 in
theorem impl_bad (r : Int) (c : Bool) (l : Int) (b : Int) (hg : frG r c l = false) (w : World) :
    Calls Tryd.prog 6 #[frW r c l, .int .i64 b] w fun e w' => e = .returned (.tuple #[.int .i64 0, .bool false]) ∧ Below w.heap.size w w' := by
  have H := Lib.hid hg; clear hg
  go_enter Tryd.func6, Tryd.ntmps6
  go_wp2_with fail
  refine (isFrame_any _ _ _ _).mono ?_; rintro e w1 ⟨rfl, b1⟩
  rw [H.out]
  obtain ⟨c1, f1⟩ := bcell b1; have z1 : w.heap.size < w1.heap.size := (by have := b1.size; (try simp at this); omega)
  go_wp2_with fail
  refine bodyPost_ret (v := .tuple #[.int .i64 0, .bool false]) (by simp [results, Tryd.results6, go_sem]) rfl ⟨rfl, ?_⟩
  (repeat (first | exact Below.refl _ _ | exact ‹Below _ _ _› | refine Below.drew ?_ | refine Below.alloc ?_ (by first | omega | (simp; done) | (simp; omega)) _ | refine Below.setCell ?_ (by first | omega | (simp; done) | (simp; omega)) _ | refine Below.trans ?_ (Below.mono ‹Below _ _ _› (by first | omega | (simp; done) | (simp; omega)))))

set_option maxHeartbeats 800000 in
theorem impl_out (n : Nat) (hn : n ≤ 36) (b : Int) (hb : inR b 0 36 = false) (w : World) :
    Calls Tryd.prog 6 #[frV n, .int .i64 b] w fun e w' => e = .returned (.tuple #[.int .i64 0, .bool false]) ∧ Below w.heap.size w w' := by
  have H := Lib.hid (frG_of hn)
  have hb' : b < 0 ∨ (0 ≤ b ∧ 36 < b) := by unfold inR at hb; simp at hb; omega
  clear hb
  rcases hb' with h0 | ⟨h0, h1⟩
  all_goals
    go_enter Tryd.func6, Tryd.ntmps6
    go_wp2_with fail
    refine (isFrame_any _ _ _ _).mono ?_; rintro e w1 ⟨rfl, b1⟩
    rw [H.out]
    go_wp2_with fail
    refine bodyPost_ret (v := .tuple #[.int .i64 0, .bool false]) (by simp [results, Tryd.results6, go_sem]) rfl ⟨rfl, ?_⟩
    (repeat (first | exact Below.refl _ _ | exact ‹Below _ _ _› | refine Below.drew ?_ | refine Below.alloc ?_ (by first | omega | (simp; done) | (simp; omega)) _ | refine Below.setCell ?_ (by first | omega | (simp; done) | (simp; omega)) _ | refine Below.trans ?_ (Below.mono ‹Below _ _ _› (by first | omega | (simp; done) | (simp; omega)))))

set_option maxHeartbeats 3200000 in
set_option maxRecDepth 100000 in
theorem spec_n (n : Nat) (hn : n ≤ 36) (k : Nat) (hk : k ≤ 36) (w : World) :
    Calls Tryd.prog 4 #[frV n, .int .i64 k] w fun e w' => e = .returned (.tuple #[.int .i64 (cntBr n k : Nat), .bool true]) ∧ Below w.heap.size w w' := by
  have H := Lib.hid (frG_of hn)
  have HI := Lib.hid (show inR (k : Int) 0 36 = true by unfold inR; simp; omega)
  have HN := Lib.hid (fun m => frNext_n m)
  have hk' : (k : Int) ≤ 36 := by omega
  go_enter Tryd.func4, Tryd.ntmps4
  go_wp2_with fail
  refine (frGood_any _ _ _ _).mono ?_; rintro e w1 ⟨rfl, b1⟩
  rw [H.out]
  have hA0 : CntAt n w 0 (.int .i64 1) w1 := ⟨n, by omega, by cases n <;> rfl, (FrAt.new w _ _ _).keep b1, ((Below.refl _ _).alloc (Nat.le_refl _) _).trans (b1.mono (by simp))⟩
  have HA0 := Lib.hid hA0; clear hA0 b1
  go_wp2_with fail
  refine (l1In_any _ _ _ _).mono ?_; rintro e w2 ⟨rfl, rfl⟩
  rw [HI.out]
  go_wp2_with fail
  go_loopw [1, 6, 7] (fun b q _ wr => ∃ j : Nat, j ≤ k ∧ b = .int .i64 ((k : Int) - j) ∧ Hid (CntAt n w j q wr)) (fun b _ _ _ => (intOf b).toNat)
  case atStart => exact ⟨0, by omega, by simp, HA0⟩
  case round =>
    obtain ⟨j, hj, rfl, hH⟩ := hrel
    obtain ⟨m, hjm, rfl, tA, hbel⟩ := hH.out
    clear hH HA0
    have hbd := cntBr_bd hn (show j ≤ 36 by omega)
    by_cases hlt : j < k
    · have hpos : (0 : Int) < (k : Int) - j := by omega
      obtain ⟨y0, y1, y2, x0, x1, x2⟩ := tA.cells
      have hne := next_empty m
      cases m with
      | zero =>
        have hne2 : (nextS 0).toList.isEmpty = true := hne
        have hz := cntBr_over (n := n) (k := k) (by omega)
        have HH := Lib.hid (And.intro hbel hz); clear hbel hz tA hne
        go_wp2_with fail
        refine (HN.out 0 _).mono ?_; rintro e w3 ⟨rfl, b3⟩
        go_wp2
        refine bodyPost_ret (v := .tuple #[.int .i64 0, .bool true]) (by simp [results, Tryd.results4, go_sem]) rfl ⟨by rw [HH.out.2]; rfl, HH.out.1.trans (b3.mono HH.out.1.size)⟩
      | succ m =>
        have hne2 : (nextS (m + 1)).toList.isEmpty = false := by rw [hne]; simp
        have hix := index_head m
        have hcall := frPot_yes m (by omega) _ (head_mem m)
        generalize (nextL (m + 1)).head?.getD 0 = c0 at *
        have hst := cntBr_step hn (show j < n by omega)
        rw [show n - j = m + 1 from by omega] at hst
        have hsz : ((nextS (m + 1)).size : Int) = (nextL (m + 1)).length := by rw [show (nextS (m + 1)).size = (nextL (m + 1)).length from by simp [nextS, ByteArray.size]]
        have HH := Lib.hid (And.intro hbel (And.intro tA hcall)); clear hbel tA hne hcall
        rcases next_len_cases (show 1 ≤ m + 1 by omega) with hl | hl
        all_goals
          rw [hl] at hst hsz
          clear hl
          have hmin : ∀ x : Int, x ≤ 10000000000000 → minI x 1000000000000001 = x := fun x hx => by unfold minI; rw [if_pos (by omega)]
          have HS := Lib.hid (And.intro hst hmin); clear hst hmin
          generalize cntBr n j = q at *
          go_wp2_with fail
          refine (HN.out (m + 1) _).mono ?_; rintro e w3 ⟨rfl, b3⟩
          have tA3 := HH.out.2.1.keep b3
          have B3 := HH.out.1.trans (b3.mono HH.out.1.size)
          obtain ⟨d0, d1, d2, d3, d4, d5⟩ := tA3.cells
          have H3 := Lib.hid (And.intro B3 tA3); clear B3 tA3 b3
          clear y0 y1 y2 x0 x1 x2
          go_wp2_with fail
          refine (l1Least_any _ _ _).mono ?_; rintro e w4 ⟨rfl, rfl⟩
          rw [HS.out.2 _ (by omega)]
          go_wp2_with fail
          go_region_with (go_at_call 11; refine (HH.out.2.2 _).mono ?_; rintro e w5 ⟨rfl, b5⟩; have tA5 := (H3.out.2.drew).keep b5; obtain ⟨e0, e1, e2, e3, e4, e5⟩ := tA5.cells)
          all_goals
            have hS := tA5.stored (frR m) (frC m) (frL m)
            have B5 := below_put3 (b := w.heap.size) (p := m) ((H3.out.1.drew).trans (b5.mono (by have := H3.out.1.size; simpa using this))) (Nat.le_refl _)
            have H5 := Lib.hid (And.intro B5 hS); clear B5 hS tA5 b5
            go_wp2
            go_roundw
            case rel => exact ⟨j + 1, by omega, by go_num, Lib.hid ⟨m, by omega, by rw [HS.out.1]; push_cast; go_num, H5.out.2, H5.out.1⟩⟩
            case measure => simp [intOf]; omega
    · have hjk : j = k := by omega
      have hz : (k : Int) - j = 0 := by omega
      have HH := Lib.hid (And.intro hbel hjk); clear hbel tA hjk
      generalize hq : cntBr n j = q at *
      have HQ := Lib.hid hq; clear hq
      go_wp2
      refine bodyPost_ret (v := .tuple #[.int .i64 q, .bool true]) (by simp [results, Tryd.results4, go_sem]) rfl ⟨by rw [← HQ.out, HH.out.2], HH.out.1⟩

set_option maxHeartbeats 3200000 in
set_option maxRecDepth 100000 in
theorem impl_n (n : Nat) (hn : n ≤ 36) (k : Nat) (hk : k ≤ 36) (w : World) :
    Calls Tryd.prog 6 #[frV n, .int .i64 k] w fun e w' => e = .returned (.tuple #[.int .i64 (cntBr n k : Nat), .bool true]) ∧ Below w.heap.size w w' := by
  have H := Lib.hid (frG_of hn)
  have HN := Lib.hid (fun m => ballsToPot_n m)
  have hk' : (k : Int) ≤ 36 := by omega
  go_enter Tryd.func6, Tryd.ntmps6
  go_wp2_with fail
  refine (isFrame_any _ _ _ _).mono ?_; rintro e w1 ⟨rfl, b1⟩
  rw [H.out]
  have hA0 : CntAt n w 0 (.int .i64 1) w1 := ⟨n, by omega, by cases n <;> rfl, (FrAt.new w _ _ _).keep b1, ((Below.refl _ _).alloc (Nat.le_refl _) _).trans (b1.mono (by simp))⟩
  have HA0 := Lib.hid hA0; clear hA0 b1
  go_wp2_with fail
  go_loopw [6, 7, 20] (fun q _ i wr => ∃ j : Nat, j ≤ k ∧ i = .int .i64 j ∧ Hid (CntAt n w j q wr)) (fun _ _ i _ => k - (intOf i).toNat)
  case atStart => exact ⟨0, by omega, by simp, HA0⟩
  case round =>
    obtain ⟨j, hj, rfl, hH⟩ := hrel
    obtain ⟨m, hjm, rfl, tA, hbel⟩ := hH.out
    clear hH HA0
    have hbd := cntBr_bd hn (show j ≤ 36 by omega)
    by_cases hlt : j < k
    · obtain ⟨y0, y1, y2, x0, x1, x2⟩ := tA.cells
      have hne := next_empty m
      cases m with
      | zero =>
        have hne2 : (nextS 0).toList.isEmpty = true := hne
        have hz := cntBr_over (n := n) (k := k) (by omega)
        have HH := Lib.hid (And.intro hbel hz); clear hbel hz tA hne
        go_wp2_with fail
        refine (HN.out 0 _).mono ?_; rintro e w3 ⟨rfl, b3⟩
        go_wp2
        refine bodyPost_ret (v := .tuple #[.int .i64 0, .bool true]) (by simp [results, Tryd.results6, go_sem]) rfl ⟨by rw [HH.out.2]; rfl, HH.out.1.trans (b3.mono HH.out.1.size)⟩
      | succ m =>
        have hne2 : (nextS (m + 1)).toList.isEmpty = false := by rw [hne]; simp
        have hcall := frameBehind_n m (by omega)
        have hst := cntBr_step hn (show j < n by omega)
        rw [show n - j = m + 1 from by omega] at hst
        have hsz : ((nextS (m + 1)).size : Int) = (nextL (m + 1)).length := by rw [show (nextS (m + 1)).size = (nextL (m + 1)).length from by simp [nextS, ByteArray.size]]
        have HH := Lib.hid (And.intro hbel (And.intro tA hcall)); clear hbel tA hne hcall
        rcases next_len_cases (show 1 ≤ m + 1 by omega) with hl | hl
        all_goals
          rw [hl] at hst hsz
          clear hl
          have HS := Lib.hid hst; clear hst
          generalize cntBr n j = q at *
          go_wp2_with fail
          refine (HN.out (m + 1) _).mono ?_; rintro e w3 ⟨rfl, b3⟩
          have tA3 := HH.out.2.1.keep b3
          have B3 := HH.out.1.trans (b3.mono HH.out.1.size)
          obtain ⟨d0, d1, d2, d3, d4, d5⟩ := tA3.cells
          have H3 := Lib.hid (And.intro B3 tA3); clear B3 tA3 b3
          clear y0 y1 y2 x0 x1 x2
          go_wp2_with fail
          refine (HH.out.2.2 _).mono ?_; rintro e w5 ⟨rfl, b5⟩
          have tA5 := H3.out.2.keep b5
          obtain ⟨e0, e1, e2, e3, e4, e5⟩ := tA5.cells
          have hS := tA5.stored (frR m) (frC m) (frL m)
          have B5 := below_put3 (b := w.heap.size) (p := m) (H3.out.1.trans (b5.mono H3.out.1.size)) (Nat.le_refl _)
          have H5 := Lib.hid (And.intro B5 hS); clear B5 hS tA5 b5
          clear d0 d1 d2 d3 d4 d5
          go_wp2
          go_roundw
          case rel => exact ⟨j + 1, by omega, by go_num, Lib.hid ⟨m, by omega, by rw [HS.out]; push_cast; go_num, H5.out.2, H5.out.1⟩⟩
          case measure => simp [intOf]; omega
    · have hjk : j = k := by omega
      have HH := Lib.hid (And.intro hbel hjk); clear hbel tA hjk
      generalize hq : cntBr n j = q at *
      have HQ := Lib.hid hq; clear hq
      go_wp2_with fail
      refine (limit_any _ (by omega) _).mono ?_; rintro e w3 ⟨rfl, rfl⟩
      go_wp2_with fail
      refine bodyPost_ret (v := .tuple #[.int .i64 q, .bool true]) (by simp [results, Tryd.results6, go_sem]) rfl ⟨by rw [← HQ.out, HH.out.2], HH.out.1⟩

theorem walk (r : Int) (c : Bool) (l : Int) (b : Int) (w : World) :
    Calls Tryd.prog 3 #[frW r c l, .int .i64 b] w fun e w' => e = .returned (.bool true) ∧ Below w.heap.size w w' := by
  cases hg : frG r c l
  · exact law_of r c l b _ _ (spec_bad r c l b hg) (impl_bad r c l b hg) w
  · obtain ⟨n, hn, rfl, rfl, rfl⟩ := frG_n hg
    cases hb : inR b 0 36
    · exact law_of _ _ _ b _ _ (spec_out n hn b hb) (impl_out n hn b hb) w
    · obtain ⟨k, rfl, hk⟩ : ∃ k : Nat, b = k ∧ k ≤ 36 := by
        unfold inR at hb; simp at hb
        exact ⟨b.toNat, by omega, by omega⟩
      exact law_of _ _ _ _ _ _ (spec_n n hn k hk) (impl_n n hn k hk) w
end Go.Proofs.YtooaeafnneikkabDoor.ExCountBreaks
