/-
  Chances: the odds of the other side: the model and the program.
-/
import Derived.Test.YthlkndloggmehaaChDeuce
import Derived.Test.YthlkndloggmehaaObAt
namespace Go.Proofs.Ythlkndloggmehaa
open Go.RowKit
set_option linter.unusedVariables false
set_option linter.unusedSimpArgs false

def othA (n d : Int) : Int := if goodO n d then d - n else 0
def othB (n d : Int) : Int := if goodO n d then d else 0

theorem ot_keep {w X Y : World} {g h : Nat} {a b : Value} {T : TypeId} (bd : Below X.heap.size X Y) (H : X.cell? ⟨g, 0, none⟩ = some a ∧ X.cell? ⟨g, 1, none⟩ = some b ∧ g < X.heap.size ∧ Below w.heap.size w X ∧ ∃ x y, ObAt X h T #[.int .i64 x, .int .i64 y]) :
    Y.cell? ⟨g, 0, none⟩ = some a ∧ Y.cell? ⟨g, 1, none⟩ = some b ∧ g < Y.heap.size ∧ Below w.heap.size w Y ∧ ∃ x y, ObAt Y h T #[.int .i64 x, .int .i64 y] := by
  obtain ⟨h0, h1, h2, h3, x, y, h4⟩ := H
  refine ⟨?_, ?_, Nat.lt_of_lt_of_le h2 bd.size, h3.trans (bd.mono h3.size), x, y, h4.keep bd⟩
  · rw [bd.cell (p := ⟨g, 0, none⟩) h2]; exact h0
  · rw [bd.cell (p := ⟨g, 1, none⟩) h2]; exact h1

set_option maxHeartbeats 3200000 in
set_option maxRecDepth 100000 in
theorem implOther_any (n d : Int) (w : World) :
    Calls Try.prog 54 #[.agg #[.int .i64 n, .int .i64 d]] w fun e w' => e = .returned (.tuple #[.agg #[.int .i64 (othA n d), .int .i64 (othB n d)], .bool (goodO n d)]) ∧ Below w.heap.size w w' := by
  have P0 := ObAt.new w 25 #[.int .i64 n, .int .i64 d]
  have B0 := Below.ofNew (w := w) (.cells #[.int .i64 n, .int .i64 d] 25)
  have P1 := ObAt.new (w.alloc (.cells #[.int .i64 n, .int .i64 d] 25)) 25 #[.int .i64 0, .int .i64 0]
  have P0' := P0.old (.cells #[.int .i64 0, .int .i64 0] 25)
  have B1 := B0.alloc B0.size (.cells #[.int .i64 0, .int .i64 0] 25)
  rw [World.size_alloc] at P1
  clear P0 B0
  have HP := Lib.hid (And.intro P0' (And.intro P1 B1)); clear P0' P1 B1
  cases hg : goodO n d
  · have e1 : othA n d = 0 := by simp [othA, hg]
    have e2 : othB n d = 0 := by simp [othB, hg]
    rw [e1, e2]; clear e1 e2
    have HG := Lib.hid hg; clear hg
    go_enter Try.func54, Try.ntmps54
    go_wp2_with fail
    refine (implAreOdds_any n d _).mono ?_; rintro e w1 ⟨rfl, b1⟩
    rw [HG.out]
    have P1 := HP.out.2.1.keep b1
    have B1 := Lib.hid (HP.out.2.2.trans (b1.mono HP.out.2.2.size)); clear b1
    obtain ⟨y0, y1, y2, y3⟩ := P1.two
    have HQ := Lib.hid ((P1.put 0 (.int .i64 0)).put 1 (.int .i64 0)).two; clear P1
    go_wp2_with fail
    obtain ⟨q0, q1, q2, q3⟩ := HQ.out
    refine bodyPost_ret (v := .tuple #[.agg #[.int .i64 0, .int .i64 0], .bool false]) (by simp [results, Try.results54, go_sem, q0, q1]) rfl ⟨rfl, ?_⟩
    exact (B1.out.setCell (p := ⟨w.heap.size + 1, 0, none⟩) (by simp) _).setCell (p := ⟨w.heap.size + 1, 1, none⟩) (by simp) _
  · have e1 : othA n d = d - n := by simp [othA, hg]
    have e2 : othB n d = d := by simp [othB, hg]
    rw [e1, e2]; clear e1 e2
    have hb := goodO_bd.1 hg
    have HM := Lib.hid (missed_any n d (by omega) (by omega) (by omega))
    have HG := Lib.hid hg; clear hg hb
    generalize d - n = m at *
    go_enter Try.func54, Try.ntmps54
    go_wp2_with fail
    refine (implAreOdds_any n d _).mono ?_; rintro e w1 ⟨rfl, b1⟩
    rw [HG.out]
    have P1 := HP.out.2.1.keep b1
    have P0 := HP.out.1.keep b1
    have B1 := HP.out.2.2.trans (b1.mono HP.out.2.2.size); clear b1
    have S1 := Lib.hid (And.intro (P0.cell 0) (And.intro (P0.cell 1) (And.intro P0.lt (And.intro B1 P1)))); clear P0 P1 B1
    go_wp2_with fail
    refine wp_region_held_drew (S := fun w' => w'.cell? ⟨w.heap.size, 0, none⟩ = some (.int .i64 n) ∧ w'.cell? ⟨w.heap.size, 1, none⟩ = some (.int .i64 d) ∧ w.heap.size < w'.heap.size ∧ Below w.heap.size w w' ∧ ∃ x y, ObAt w' (w.heap.size + 1) 25 #[.int .i64 x, .int .i64 y]) (by kernel_rfl) ⟨S1.out.1, S1.out.2.1, S1.out.2.2.1, Below.drew S1.out.2.2.2.1, _, _, S1.out.2.2.2.2⟩ (fun hHeld => ?_)
    (refine wpAnyH_take (i := 0) (v := ?_) rfl (by kernel_rfl) (by kernel_rfl) (by kernel_rfl) (fun _ _ _ h => h) (Or.inl ⟨by kernel_rfl, ?_⟩) (by assumption) ?_; rotate_left; focus (intro w hSw; (try dsimp only at hSw); go_simp; try with_reducible rfl); (try simp only [List.getElem_toArray, List.getElem_cons_succ, List.getElem_cons_zero, Act.put, List.setIfInBounds_toArray, List.set_cons_zero, List.set_cons_succ])); (refine wpAnyH_take (i := 2) (v := ?_) rfl (by kernel_rfl) (by kernel_rfl) (by kernel_rfl) (fun _ _ _ h => h) (Or.inl ⟨by kernel_rfl, ?_⟩) (by assumption) ?_; rotate_left; focus (intro w hSw; (try dsimp only at hSw); go_simp; try with_reducible rfl); (try simp only [List.getElem_toArray, List.getElem_cons_succ, List.getElem_cons_zero, Act.put, List.setIfInBounds_toArray, List.set_cons_zero, List.set_cons_succ])); (refine wpAnyH_take (i := 3) (v := ?_) rfl (by kernel_rfl) (by kernel_rfl) (by kernel_rfl) (fun _ _ _ h => h) (Or.inl ⟨by kernel_rfl, ?_⟩) (by assumption) ?_; rotate_left; focus (intro w hSw; (try dsimp only at hSw); go_simp; try with_reducible rfl); (try simp only [List.getElem_toArray, List.getElem_cons_succ, List.getElem_cons_zero, Act.put, List.setIfInBounds_toArray, List.set_cons_zero, List.set_cons_succ]))
    refine wpAnyH_ready (rs := [1]) (by kernel_rfl) (by simp) ?_; refine AllReadyH.cons rfl (fun K hK => ?_) AllReadyH.nil
    go_simp
    go_at_call 102
    refine (HM.out _).mono ?_; rintro e w4 ⟨rfl, bd⟩
    have KS := Lib.hid (ot_keep (T := 25) bd hHeld); clear hHeld bd
    go_wp2_with fail
    refine hK.out _ _ KS.out (fun hHeld => ?_)
    clear hK K KS
    (try simp only [List.getElem_toArray, List.getElem_cons_succ, List.getElem_cons_zero, Act.put, List.setIfInBounds_toArray, List.set_cons_zero, List.set_cons_succ])
    (refine wpAnyH_take (i := 4) (v := ?_) rfl (by kernel_rfl) (by kernel_rfl) (by kernel_rfl) (fun _ _ _ h => h) (Or.inl ⟨by kernel_rfl, ?_⟩) (by assumption) ?_; rotate_left; focus (intro w hSw; (try dsimp only at hSw); go_simp; try with_reducible rfl); (try simp only [List.getElem_toArray, List.getElem_cons_succ, List.getElem_cons_zero, Act.put, List.setIfInBounds_toArray, List.set_cons_zero, List.set_cons_succ]))
    obtain ⟨h0, h1, h2, h3, x, y, h4⟩ := hHeld
    obtain ⟨z0, z1, z2, z3⟩ := h4.two
    have h5 : ObAt _ (w.heap.size + 1) 25 #[.int .i64 m, .int .i64 d] := (h4.put 0 (.int .i64 m)).put 1 (.int .i64 d)
    have hs : w.heap.size ≠ w.heap.size + 1 := by omega
    have KS : Hid (((w4.setCell ⟨w.heap.size + 1, 0, none⟩ (.int .i64 m)).setCell ⟨w.heap.size + 1, 1, none⟩ (.int .i64 d)).cell? ⟨w.heap.size, 0, none⟩ = some (.int .i64 n) ∧ ((w4.setCell ⟨w.heap.size + 1, 0, none⟩ (.int .i64 m)).setCell ⟨w.heap.size + 1, 1, none⟩ (.int .i64 d)).cell? ⟨w.heap.size, 1, none⟩ = some (.int .i64 d) ∧ w.heap.size < ((w4.setCell ⟨w.heap.size + 1, 0, none⟩ (.int .i64 m)).setCell ⟨w.heap.size + 1, 1, none⟩ (.int .i64 d)).heap.size ∧ Below w.heap.size w ((w4.setCell ⟨w.heap.size + 1, 0, none⟩ (.int .i64 m)).setCell ⟨w.heap.size + 1, 1, none⟩ (.int .i64 d)) ∧ ∃ x y, ObAt ((w4.setCell ⟨w.heap.size + 1, 0, none⟩ (.int .i64 m)).setCell ⟨w.heap.size + 1, 1, none⟩ (.int .i64 d)) (w.heap.size + 1) 25 #[.int .i64 x, .int .i64 y]) := by
      refine ⟨?_, ?_, by simpa using h2, (h3.setCell (p := ⟨w.heap.size + 1, 0, none⟩) (by simp) _).setCell (p := ⟨w.heap.size + 1, 1, none⟩) (by simp) _, _, _, h5⟩
      · rw [World.cell?_setCell_other _ _ _ _ (by intro e; injection e; omega), World.cell?_setCell_other _ _ _ _ (by intro e; injection e; omega)]; exact h0
      · rw [World.cell?_setCell_other _ _ _ _ (by intro e; injection e; omega), World.cell?_setCell_other _ _ _ _ (by intro e; injection e; omega)]; exact h1
    have HQ := Lib.hid h5.two
    clear h0 h1 h2 h3 h4 h5 hs
    refine wpAnyH_ready (rs := [5]) (by kernel_rfl) (by simp) ?_; refine AllReadyH.cons rfl (fun K hK => ?_) AllReadyH.nil
    go_simp
    clear z0 z1 z2 z3
    first
      | refine hK.out _ _ KS.out (fun hHeld => ?_)
      | refine hK _ _ KS.out (fun hHeld => ?_)
    clear hK K
    (try simp only [List.getElem_toArray, List.getElem_cons_succ, List.getElem_cons_zero, Act.put, List.setIfInBounds_toArray, List.set_cons_zero, List.set_cons_succ])
    (refine wpAnyH_take (i := 6) (v := ?_) rfl (by kernel_rfl) (by kernel_rfl) (by kernel_rfl) (fun _ _ _ h => h) (Or.inl ⟨by kernel_rfl, ?_⟩) (by assumption) ?_; rotate_left; focus (intro w hSw; (try dsimp only at hSw); go_simp; try with_reducible rfl); (try simp only [List.getElem_toArray, List.getElem_cons_succ, List.getElem_cons_zero, Act.put, List.setIfInBounds_toArray, List.set_cons_zero, List.set_cons_succ]))
    refine wpAnyH_done (by kernel_rfl) ?_ _
    clear hHeld
    go_wp2_with fail
    obtain ⟨q0, q1, q2, q3⟩ := HQ.out
    refine bodyPost_ret (v := .tuple #[.agg #[.int .i64 m, .int .i64 d], .bool true]) (by simp [results, Try.results54, go_sem, q0, q1]) rfl ⟨rfl, KS.out.2.2.2.1⟩

set_option maxHeartbeats 3200000 in
set_option maxRecDepth 100000 in
theorem specOther_any (n d : Int) (w : World) :
    Calls Try.prog 53 #[.agg #[.int .i64 n, .int .i64 d]] w fun e w' => e = .returned (.tuple #[.agg #[.int .i64 (othA n d), .int .i64 (othB n d)], .bool (goodO n d)]) ∧ Below w.heap.size w w' := by
  have P0 := ObAt.new w 25 #[.int .i64 n, .int .i64 d]
  have B0 := Below.ofNew (w := w) (.cells #[.int .i64 n, .int .i64 d] 25)
  have P1 := ObAt.new (w.alloc (.cells #[.int .i64 n, .int .i64 d] 25)) 25 #[.int .i64 0, .int .i64 0]
  have P0' := P0.old (.cells #[.int .i64 0, .int .i64 0] 25)
  have B1 := B0.alloc B0.size (.cells #[.int .i64 0, .int .i64 0] 25)
  rw [World.size_alloc] at P1
  clear P0 B0
  have HP := Lib.hid (And.intro P0' (And.intro P1 B1)); clear P0' P1 B1
  cases hg : goodO n d
  · have e1 : othA n d = 0 := by simp [othA, hg]
    have e2 : othB n d = 0 := by simp [othB, hg]
    rw [e1, e2]; clear e1 e2
    have HG := Lib.hid hg; clear hg
    go_enter Try.func53, Try.ntmps53
    go_wp2_with fail
    refine (chGood_any n d _).mono ?_; rintro e w1 ⟨rfl, b1⟩
    rw [HG.out]
    have P1 := HP.out.2.1.keep b1
    have B1 := Lib.hid (HP.out.2.2.trans (b1.mono HP.out.2.2.size)); clear b1
    obtain ⟨y0, y1, y2, y3⟩ := P1.two
    have HQ := Lib.hid ((P1.put 0 (.int .i64 0)).put 1 (.int .i64 0)).two; clear P1
    go_wp2_with fail
    obtain ⟨q0, q1, q2, q3⟩ := HQ.out
    refine bodyPost_ret (v := .tuple #[.agg #[.int .i64 0, .int .i64 0], .bool false]) (by simp [results, Try.results53, go_sem, q0, q1]) rfl ⟨rfl, ?_⟩
    exact (B1.out.setCell (p := ⟨w.heap.size + 1, 0, none⟩) (by simp) _).setCell (p := ⟨w.heap.size + 1, 1, none⟩) (by simp) _
  · have e1 : othA n d = d - n := by simp [othA, hg]
    have e2 : othB n d = d := by simp [othB, hg]
    rw [e1, e2]; clear e1 e2
    have hb := goodO_bd.1 hg
    obtain ⟨m, hm⟩ : ∃ m, m = d - n := ⟨_, rfl⟩
    have t1 : IntKind.i64.wrap (d - n) = m := by rw [hm]; exact IntWalk.i64_in _ (by omega)
    rw [← hm]
    have HG := Lib.hid hg; clear hg hb hm
    go_enter Try.func53, Try.ntmps53
    go_wp2_with fail
    refine (chGood_any n d _).mono ?_; rintro e w1 ⟨rfl, b1⟩
    rw [HG.out]
    have P1 := HP.out.2.1.keep b1
    have P0 := HP.out.1.keep b1
    have B1 := Lib.hid (HP.out.2.2.trans (b1.mono HP.out.2.2.size)); clear b1
    obtain ⟨y0, y1, y2, y3⟩ := P1.two
    obtain ⟨z0, z1, z2, z3⟩ := P0.two
    have HQ := Lib.hid ((P1.put 0 (.int .i64 m)).put 1 (.int .i64 d)).two; clear P1 P0
    go_wp2_with fail
    obtain ⟨q0, q1, q2, q3⟩ := HQ.out
    refine bodyPost_ret (v := .tuple #[.agg #[.int .i64 m, .int .i64 d], .bool true]) (by simp [results, Try.results53, go_sem, q0, q1]) rfl ⟨rfl, ?_⟩
    exact (B1.out.setCell (p := ⟨w.heap.size + 1, 0, none⟩) (by simp) _).setCell (p := ⟨w.heap.size + 1, 1, none⟩) (by simp) _
end Go.Proofs.Ythlkndloggmehaa
