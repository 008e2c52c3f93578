/-
  Puzzles: whether points fit a clue: the model.
-/
import Derived.Test.YtcigighklghjkaaDoorPzVal2
import Derived.Deep.RegionHeld3
namespace Go.Proofs.YtcigighklghjkaaDoor
open Go.RowKit
set_option linter.unusedVariables false
set_option linter.unusedSimpArgs false

/-- A clue in its block. -/
def ClB (w : World) (x y z : Int) (wi : World) : Prop := ObAt wi w.heap.size 26 #[.int .i64 x, .int .i64 y, .int .i64 z] ∧ Below w.heap.size w wi
theorem ClB.new (w : World) (x y z : Int) : ClB w x y z (w.alloc (.cells #[.int .i64 x, .int .i64 y, .int .i64 z] 26)) := ⟨ObAt.new _ _ _, Below.ofNew _⟩
theorem ClB.keep {w : World} {x y z : Int} {wi wj : World} (h : ClB w x y z wi) (hb : Below wi.heap.size wi wj) : ClB w x y z wj := ⟨h.1.keep hb, h.2.trans (hb.mono h.2.size)⟩
theorem ClB.cells {w : World} {x y z : Int} {wi : World} (h : ClB w x y z wi) : wi.cell? ⟨w.heap.size, 0, none⟩ = some (.int .i64 x) ∧ wi.cell? ⟨w.heap.size, 1, none⟩ = some (.int .i64 y) ∧ wi.cell? ⟨w.heap.size, 2, none⟩ = some (.int .i64 z) := ⟨h.1.cell 0, h.1.cell 1, h.1.cell 2⟩
theorem fit_beq (x y z : Int) (s : ByteArray) : (tellK x y s == z) = fitC (x, y, z) s := by unfold fitC; rw [Bool.eq_iff_iff]; simp

set_option maxHeartbeats 1600000 in
theorem pzFits_any (x y z : Int) (s : ByteArray) (w : World) (hk : kindOk s.size x y) (h : hidB s = true) :
    Calls Tryd.prog 50 #[.agg #[.int .i64 x, .int .i64 y, .int .i64 z], .string s] w fun e w' => e = .returned (.bool (fitC (x, y, z) s)) ∧ Below w.heap.size w w' := by
  rw [← fit_beq]
  have HV := Lib.hid (fun W => pzValue_any x y s W hk h); clear hk h
  generalize tellK x y s = T at *
  have HC := Lib.hid ((ClB.new w x y z).keep (Below.refl _ _).drew)
  go_enter Tryd.func50, Tryd.ntmps50
  go_wp2_with fail
  refine wp_region_held_drew (S := fun wi => wi.cell? ⟨w.heap.size, 0, none⟩ = some (.int .i64 x) ∧ wi.cell? ⟨w.heap.size, 1, none⟩ = some (.int .i64 y) ∧ wi.cell? ⟨w.heap.size, 2, none⟩ = some (.int .i64 z)) (by kernel_rfl) HC.out.cells (fun hHeld => ?_)
  (refine wpAnyH_take (i := 0) (v := ?_) rfl (by kernel_rfl) (by kernel_rfl) (by kernel_rfl) (fun _ _ _ h => h) (Or.inl ⟨by kernel_rfl, ?_⟩) (by assumption) ?_; rotate_left; focus (intro w hSw; (try dsimp only at hSw); go_simp; try with_reducible rfl); (try simp only [List.getElem_toArray, List.getElem_cons_succ, List.getElem_cons_zero, Act.put, List.setIfInBounds_toArray, List.set_cons_zero, List.set_cons_succ])); (refine wpAnyH_take (i := 1) (v := ?_) rfl (by kernel_rfl) (by kernel_rfl) (by kernel_rfl) (fun _ _ _ h => h) (Or.inl ⟨by kernel_rfl, ?_⟩) (by assumption) ?_; rotate_left; focus (intro w hSw; (try dsimp only at hSw); go_simp; try with_reducible rfl); (try simp only [List.getElem_toArray, List.getElem_cons_succ, List.getElem_cons_zero, Act.put, List.setIfInBounds_toArray, List.set_cons_zero, List.set_cons_succ])); (refine wpAnyH_take (i := 2) (v := ?_) rfl (by kernel_rfl) (by kernel_rfl) (by kernel_rfl) (fun _ _ _ h => h) (Or.inl ⟨by kernel_rfl, ?_⟩) (by assumption) ?_; rotate_left; focus (intro w hSw; (try dsimp only at hSw); go_simp; try with_reducible rfl); (try simp only [List.getElem_toArray, List.getElem_cons_succ, List.getElem_cons_zero, Act.put, List.setIfInBounds_toArray, List.set_cons_zero, List.set_cons_succ])); (refine wpAnyH_take (i := 3) (v := ?_) rfl (by kernel_rfl) (by kernel_rfl) (by kernel_rfl) (fun _ _ _ h => h) (Or.inl ⟨by kernel_rfl, ?_⟩) (by assumption) ?_; rotate_left; focus (intro w hSw; (try dsimp only at hSw); go_simp; try with_reducible rfl); (try simp only [List.getElem_toArray, List.getElem_cons_succ, List.getElem_cons_zero, Act.put, List.setIfInBounds_toArray, List.set_cons_zero, List.set_cons_succ])); (refine wpAnyH_take (i := 4) (v := ?_) rfl (by kernel_rfl) (by kernel_rfl) (by kernel_rfl) (fun _ _ _ h => h) (Or.inl ⟨by kernel_rfl, ?_⟩) (by assumption) ?_; rotate_left; focus (intro w hSw; (try dsimp only at hSw); go_simp; try with_reducible rfl); (try simp only [List.getElem_toArray, List.getElem_cons_succ, List.getElem_cons_zero, Act.put, List.setIfInBounds_toArray, List.set_cons_zero, List.set_cons_succ])); (refine wpAnyH_take (i := 6) (v := ?_) rfl (by kernel_rfl) (by kernel_rfl) (by kernel_rfl) (fun _ _ _ h => h) (Or.inl ⟨by kernel_rfl, ?_⟩) (by assumption) ?_; rotate_left; focus (intro w hSw; (try dsimp only at hSw); go_simp; try with_reducible rfl); (try simp only [List.getElem_toArray, List.getElem_cons_succ, List.getElem_cons_zero, Act.put, List.setIfInBounds_toArray, List.set_cons_zero, List.set_cons_succ])); (refine wpAnyH_take (i := 7) (v := ?_) rfl (by kernel_rfl) (by kernel_rfl) (by kernel_rfl) (fun _ _ _ h => h) (Or.inl ⟨by kernel_rfl, ?_⟩) (by assumption) ?_; rotate_left; focus (intro w hSw; (try dsimp only at hSw); go_simp; try with_reducible rfl); (try simp only [List.getElem_toArray, List.getElem_cons_succ, List.getElem_cons_zero, Act.put, List.setIfInBounds_toArray, List.set_cons_zero, List.set_cons_succ]))
  refine wpAnyH_ready (rs := [5]) (by kernel_rfl) (by simp) ?_; refine AllReadyH.cons rfl (fun K hK => ?_) AllReadyH.nil
  go_simp
  go_at_call 78
  refine (HV.out _).mono ?_; rintro e w2 ⟨rfl, b2⟩
  have HC2 := Lib.hid (HC.out.keep b2); clear b2 hHeld HC
  have KS := Lib.hid HC2.out.cells
  go_wp2_with fail
  first
    | refine hK.out _ _ KS.out (fun hHeld => ?_)
    | refine hK _ _ KS.out (fun hHeld => ?_)
  clear hK K KS
  (try simp only [List.getElem_toArray, List.getElem_cons_succ, List.getElem_cons_zero, Act.put, List.setIfInBounds_toArray, List.set_cons_zero, List.set_cons_succ])
  (refine wpAnyH_take (i := 8) (v := ?_) rfl (by kernel_rfl) (by kernel_rfl) (by kernel_rfl) (fun _ _ _ h => h) (Or.inl ⟨by kernel_rfl, ?_⟩) (by assumption) ?_; rotate_left; focus (intro w hSw; (try dsimp only at hSw); go_simp; try with_reducible rfl); (try simp only [List.getElem_toArray, List.getElem_cons_succ, List.getElem_cons_zero, Act.put, List.setIfInBounds_toArray, List.set_cons_zero, List.set_cons_succ])); (refine wpAnyH_take (i := 9) (v := ?_) rfl (by kernel_rfl) (by kernel_rfl) (by kernel_rfl) (fun _ _ _ h => h) (Or.inl ⟨by kernel_rfl, ?_⟩) (by assumption) ?_; rotate_left; focus (intro w hSw; (try dsimp only at hSw); go_simp; try with_reducible rfl); (try simp only [List.getElem_toArray, List.getElem_cons_succ, List.getElem_cons_zero, Act.put, List.setIfInBounds_toArray, List.set_cons_zero, List.set_cons_succ]))
  refine wpAnyH_done (by kernel_rfl) ?_ _
  clear hHeld
  go_wp2_with fail
  go_ret
  exact ⟨rfl, HC2.out.2⟩

set_option maxHeartbeats 800000 in
theorem pzHidden_any (s : ByteArray) (w : World) (hs : (s.size : Int) ≤ 1000000000000) :
    Calls Tryd.prog 48 #[.string s] w fun e w' => e = .returned (.bool (hidB s)) ∧ Below w.heap.size w w' := by
  have HP := Lib.hid (fun W => raPoints_any s W hs)
  have hv : hidB s = (ptsB s && inP s.size 1 8) := by
    have hb : inP s.size 1 8 = true → decide (s.data.toList.length ≤ 100) = true := fun h => by
      have := inP_iff.1 h; rw [len_list]; simp; omega
    unfold hidB ptsB
    cases h1 : inP s.size 1 8
    · simp
    · rw [hb h1]; simp
  rw [hv]; clear hv
  cases h1 : ptsB s
  · rw [h1] at HP; clear h1
    go_enter Tryd.func48, Tryd.ntmps48
    go_wp2_with fail
    refine (HP.out _).mono ?_; rintro e w1 ⟨rfl, rfl⟩
    go_wp2_with fail
    go_ret
    exact ⟨ret_bool (by simp), Below.refl _ _⟩
  · rw [h1] at HP; clear h1
    go_enter Tryd.func48, Tryd.ntmps48
    go_wp2_with fail
    refine (HP.out _).mono ?_; rintro e w1 ⟨rfl, rfl⟩
    go_wp2_with fail
    refine (pzPoints_any _ _).mono ?_; rintro e w2 ⟨rfl, rfl⟩
    go_wp2_with fail
    go_ret
    exact ⟨ret_bool (by simp), Below.refl _ _⟩

/-- What DoesFit hands back. -/
def doesOk (c : Cl) (s : ByteArray) : Bool := hidB s && goodC s.size c
def doesV (c : Cl) (s : ByteArray) : Bool := doesOk c s && fitC c s
theorem does_bad {c : Cl} {s : ByteArray} (h : doesOk c s = false) : doesV c s = false := by unfold doesV; rw [h]; rfl

set_option maxHeartbeats 1600000 in
theorem specDoesFit_any (x y z : Int) (s : ByteArray) (w : World) (hs : (s.size : Int) ≤ 1000000000000) :
    Calls Tryd.prog 14 #[.agg #[.int .i64 x, .int .i64 y, .int .i64 z], .string s] w fun e w' => e = .returned (.tuple #[.bool (doesV (x, y, z) s), .bool (doesOk (x, y, z) s)]) ∧ Below w.heap.size w w' := by
  have HP := Lib.hid (fun W => pzHidden_any s W hs)
  have HC := Lib.hid (ClB.new w x y z)
  obtain ⟨c0, c1, c2⟩ := HC.out.cells
  cases h1 : hidB s
  · have ho : doesOk (x, y, z) s = false := by unfold doesOk; rw [h1]; rfl
    rw [does_bad ho, ho]
    rw [h1] at HP; clear h1 ho
    go_enter Tryd.func14, Tryd.ntmps14
    go_wp2_with fail
    refine (HP.out _).mono ?_; rintro e w1 ⟨rfl, b1⟩
    have HC1 := Lib.hid (HC.out.keep b1); clear b1
    go_wp2_with fail
    refine bodyPost_ret (v := .tuple #[.bool false, .bool false]) (by simp [results, Tryd.results14, go_sem]) rfl ⟨rfl, HC1.out.2⟩
  · have hp := (hidB_iff.1 h1).1
    have HG := Lib.hid (fun W => pzClue_any s.size (x, y, z) W (by omega))
    cases h2 : goodC s.size (x, y, z)
    · have ho : doesOk (x, y, z) s = false := by unfold doesOk; rw [h1, h2]; rfl
      rw [does_bad ho, ho]
      rw [h2] at HG
      rw [h1] at HP; clear h1 h2 ho
      go_enter Tryd.func14, Tryd.ntmps14
      go_wp2_with fail
      refine (HP.out _).mono ?_; rintro e w1 ⟨rfl, b1⟩
      have HC1 := Lib.hid (HC.out.keep b1); clear b1 c0 c1 c2
      obtain ⟨c0, c1, c2⟩ := HC1.out.cells
      go_wp2_with fail
      refine (HG.out _).mono ?_; rintro e w2 ⟨rfl, b2⟩
      have HC2 := Lib.hid (HC1.out.keep b2); clear b2
      go_wp2_with fail
      refine bodyPost_ret (v := .tuple #[.bool false, .bool false]) (by simp [results, Tryd.results14, go_sem]) rfl ⟨rfl, HC2.out.2⟩
    · have ho : doesOk (x, y, z) s = true := by unfold doesOk; rw [h1, h2]; rfl
      have hv : doesV (x, y, z) s = fitC (x, y, z) s := by unfold doesV; rw [ho]; rfl
      rw [hv, ho]
      have HF := Lib.hid (fun W => pzFits_any x y z s W (kindOk_of h2) h1)
      rw [h2] at HG
      rw [h1] at HP; clear h1 h2 ho hv
      generalize fitC (x, y, z) s = F at *
      go_enter Tryd.func14, Tryd.ntmps14
      go_wp2_with fail
      refine (HP.out _).mono ?_; rintro e w1 ⟨rfl, b1⟩
      have HC1 := Lib.hid (HC.out.keep b1); clear b1 c0 c1 c2
      obtain ⟨c0, c1, c2⟩ := HC1.out.cells
      go_wp2_with fail
      refine (HG.out _).mono ?_; rintro e w2 ⟨rfl, b2⟩
      have HC2 := Lib.hid (HC1.out.keep b2); clear b2 c0 c1 c2
      obtain ⟨c0, c1, c2⟩ := HC2.out.cells
      go_wp2_with fail
      refine (HF.out _).mono ?_; rintro e w3 ⟨rfl, b3⟩
      have HC3 := Lib.hid (HC2.out.keep b3); clear b3
      go_wp2_with fail
      refine bodyPost_ret (v := .tuple #[.bool F, .bool true]) (by simp [results, Tryd.results14, go_sem]) rfl ⟨rfl, HC3.out.2⟩
end Go.Proofs.YtcigighklghjkaaDoor
