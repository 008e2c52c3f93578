/-
  Puzzles: the puzzle without a clue: both sides.
-/
import Derived.Test.YtbbojebonknklaaPzWs
namespace Go.Proofs.Ytbbojebonknklaa
open Go.RowKit
set_option linter.unusedVariables false
set_option linter.unusedSimpArgs false

/-- A puzzle in its block, and behind it the block of the result, still empty. -/
def Two (w : World) (p : Int) (v : Value) (wi : World) : Prop :=
  ObAt wi w.heap.size 35 #[.int .i64 p, v] ∧ ObAt wi (w.heap.size + 1) 35 #[.int .i64 0, .slice none 0 0] ∧ Below w.heap.size w wi
theorem Two.new (w : World) (p : Int) (v : Value) : Two w p v ((w.alloc (.cells #[.int .i64 p, v] 35)).alloc (.cells #[.int .i64 0, .slice none 0 0] 35)) := by
  have h := ObAt.new (w.alloc (.cells #[.int .i64 p, v] 35)) 35 #[.int .i64 0, .slice none 0 0]
  rw [World.size_alloc] at h
  exact ⟨(ObAt.new _ _ _).old _, h, (Below.ofNew _).alloc (Below.ofNew _).size _⟩
theorem Two.keep {w : World} {p : Int} {v : Value} {wi wj : World} (h : Two w p v wi) (hb : Below wi.heap.size wi wj) : Two w p v wj := ⟨h.1.keep hb, h.2.1.keep hb, h.2.2.trans (hb.mono h.2.2.size)⟩
theorem Two.cells {w : World} {p : Int} {v : Value} {wi : World} (h : Two w p v wi) :
    wi.cell? ⟨w.heap.size, 0, none⟩ = some (.int .i64 p) ∧ wi.cell? ⟨w.heap.size, 1, none⟩ = some v ∧ wi.cell? ⟨w.heap.size + 1, 0, none⟩ = some (.int .i64 0) ∧ wi.cell? ⟨w.heap.size + 1, 1, none⟩ = some (.slice none 0 0) ∧ wi.frozen? ⟨w.heap.size + 1, 0, none⟩ = false ∧ wi.frozen? ⟨w.heap.size + 1, 1, none⟩ = false :=
  ⟨h.1.cell 0, h.1.cell 1, h.2.1.cell 0, h.2.1.cell 1, h.2.1.free 0, h.2.1.free 1⟩
theorem Two.put {w : World} {p : Int} {v : Value} {wi : World} (h : Two w p v wi) (u0 u1 : Value) : Below w.heap.size w ((wi.setCell ⟨w.heap.size + 1, 0, none⟩ u0).setCell ⟨w.heap.size + 1, 1, none⟩ u1) :=
  (h.2.2.setCell (p := ⟨w.heap.size + 1, 0, none⟩) (by simp only; omega) u0).setCell (p := ⟨w.heap.size + 1, 1, none⟩) (by simp only; omega) u1
/-- .. with a row of the call's own beside them. -/
theorem Two.putOwn {w : World} {p : Int} {v : Value} {wi : World} (h : Two w p v wi) {r : Value} {n : Nat} {xs : List Value} (ho : wi.ownsRow w.heap.size 25 3 r n xs) (u0 u1 : Value) :
    ((wi.setCell ⟨w.heap.size + 1, 0, none⟩ u0).setCell ⟨w.heap.size + 1, 1, none⟩ u1).ownsRow w.heap.size 25 3 r n xs ∧ Below w.heap.size w ((wi.setCell ⟨w.heap.size + 1, 0, none⟩ u0).setCell ⟨w.heap.size + 1, 1, none⟩ u1) ∧ ObAt ((wi.setCell ⟨w.heap.size + 1, 0, none⟩ u0).setCell ⟨w.heap.size + 1, 1, none⟩ u1) (w.heap.size + 1) 35 #[u0, u1] ∧ ObAt ((wi.setCell ⟨w.heap.size + 1, 0, none⟩ u0).setCell ⟨w.heap.size + 1, 1, none⟩ u1) w.heap.size 35 #[.int .i64 p, v] := by
  refine ⟨owns_heap ho (fun g e => ?_), h.put u0 u1, (h.2.1.put 0 u0).put 1 u1, (h.1.other (by omega) u0).other (by omega) u1⟩
  have hne : g ≠ w.heap.size + 1 := by
    intro e2
    subst e2
    exact owns_apart (g := w.heap.size + 1) (T := 35) (fr := (0, 0)) h.2.1 (by decide) ho e
  rw [Below.heap_setCell _ _ _ _ hne, Below.heap_setCell _ _ _ _ hne]

def okK (p : Int) (l : List Cl) (k : Int) : Bool := goodP p l && decide (0 ≤ k ∧ k < l.length)
theorem okK_true {p : Int} {l : List Cl} {k : Int} (h : okK p l k = true) : goodP p l = true ∧ 0 ≤ k ∧ k < l.length := by
  simpa [okK] using h

set_option maxHeartbeats 3200000 in
set_option maxRecDepth 100000 in
theorem implDropClue_any (p : Int) (l : List Cl) (ad : Option Addr) (c : Nat) (k : Int) (w : World) (hl : (l.length : Int) ≤ 1000000000000) (hlc : l.length ≤ c) (hr : Reads w ad (clus l)) :
    Calls Try.prog 16 #[.agg #[.int .i64 p, .slice ad l.length c], .int .i64 k] w fun e w' => PzR (if okK p l k then p else 0) (if okK p l k then dropC l k.toNat else []) (okK p l k) w e w' := by
  have HG := Lib.hid (fun W (hb : Below w.heap.size w W) => isPuzzle_any p l ad c W hl (hr.old hb))
  have T0 := Lib.hid (Two.new w p (.slice ad l.length c))
  obtain ⟨p0, p1, -, -, -, -⟩ := T0.out.cells
  cases hok : okK p l k
  · simp only [Bool.false_eq_true, if_false]
    have hcs : goodP p l = false ∨ (goodP p l = true ∧ k < 0) ∨ (goodP p l = true ∧ 0 ≤ k ∧ (l.length : Int) ≤ k) := by
      unfold okK at hok
      cases hg : goodP p l
      · exact Or.inl rfl
      · rw [hg] at hok
        have h2 : ¬ (0 ≤ k ∧ k < l.length) := by simpa using hok
        rcases (show k < 0 ∨ (0 ≤ k ∧ (l.length : Int) ≤ k) by omega) with h | h
        · exact Or.inr (Or.inl ⟨rfl, h⟩)
        · exact Or.inr (Or.inr ⟨rfl, h⟩)
    clear hok hr
    rcases hcs with hg | ⟨hg, k0⟩ | ⟨hg, k0, k1⟩
    all_goals
      rw [hg] at HG; clear hg
      go_enter Try.func16, Try.ntmps16
      go_wp2_with fail
      refine (HG.out _ T0.out.2.2).mono ?_; rintro e w1 ⟨rfl, b1⟩
      have T1 := Lib.hid (T0.out.keep b1); clear b1 p0 p1
      obtain ⟨p0, p1, q0, q1, f0, f1⟩ := T1.out.cells
      have HF := Lib.hid (fun u0 u1 : Value => T1.out.put u0 u1)
      go_wp2_with fail
      refine bodyPost_ret (v := .tuple #[.agg #[.int .i64 0, .slice none 0 0], .bool false]) ?_ rfl ⟨none, 0, rfl, owns_nil3 _ _ _, HF.out _ _⟩
      simp [results, Try.results16, go_sem, *]
  · obtain ⟨hg, k0, k1⟩ := okK_true hok
    clear hok
    simp only [if_true]
    obtain ⟨kk, rfl⟩ : ∃ kk : Nat, k = kk := ⟨k.toNat, by omega⟩
    rw [Int.toNat_natCast]
    have h6 := (goodP_bd hg).2.1
    have HW := Lib.hid (fun W (hb : Below w.heap.size w W) => without_any p l ad c kk W (by omega) hlc (by omega) (hr.old hb))
    rw [hg] at HG
    clear hg hr
    generalize dropC l kk = m at *
    go_enter Try.func16, Try.ntmps16
    go_wp2_with fail
    refine (HG.out _ T0.out.2.2).mono ?_; rintro e w1 ⟨rfl, b1⟩
    have T1 := Lib.hid (T0.out.keep b1); clear b1 p0 p1
    obtain ⟨p0, p1, -, -, -, -⟩ := T1.out.cells
    go_wp2_with fail
    refine (HW.out _ T1.out.2.2).mono ?_; rintro e w2 ⟨a, c', rfl, o2, b2⟩
    have T2 := Lib.hid (T1.out.keep b2)
    have HF := Lib.hid (fun u0 u1 : Value => T2.out.putOwn (owns_mono o2 T1.out.2.2.size) u0 u1)
    clear b2 o2 p0 p1
    obtain ⟨-, -, q0, q1, f0, f1⟩ := T2.out.cells
    have HF2 := Lib.hid (HF.out (.int .i64 p) (.slice a m.length c'))
    obtain ⟨r0, r1, -, -⟩ := HF2.out.2.2.1.two
    go_wp2_with fail
    refine bodyPost_ret (v := .tuple #[.agg #[.int .i64 p, .slice a m.length c'], .bool true]) ?_ rfl ⟨a, c', rfl, HF2.out.1, HF2.out.2.1⟩
    simp [results, Try.results16, go_sem, *]

set_option maxHeartbeats 3200000 in
set_option maxRecDepth 100000 in
theorem specDropClue_any (p : Int) (l : List Cl) (ad : Option Addr) (c : Nat) (k : Int) (w : World) (hl : (l.length : Int) ≤ 1000000000000) (hlc : l.length ≤ c) (hr : Reads w ad (clus l)) :
    Calls Try.prog 15 #[.agg #[.int .i64 p, .slice ad l.length c], .int .i64 k] w fun e w' => PzR (if okK p l k then p else 0) (if okK p l k then dropC l k.toNat else []) (okK p l k) w e w' := by
  have HG := Lib.hid (fun W (hb : Below w.heap.size w W) => pzGood_any p l ad c W hl (hr.old hb))
  have T0 := Lib.hid (Two.new w p (.slice ad l.length c))
  obtain ⟨p0, p1, -, -, -, -⟩ := T0.out.cells
  have hwk : ∀ n : Nat, n ≤ 1000000000000 → IntKind.i64.wrap ((n : Int) - 1) = (n : Int) - 1 := fun n hn => by rw [IntKind.wrap_i64]; omega
  have hw1 := hwk l.length (by omega)
  clear hwk
  cases hok : okK p l k
  · simp only [Bool.false_eq_true, if_false]
    have hcs : goodP p l = false ∨ (goodP p l = true ∧ inP k 0 ((l.length : Int) - 1) = false) := by
      unfold okK at hok
      cases hg : goodP p l
      · exact Or.inl rfl
      · rw [hg] at hok
        have h2 : ¬ (0 ≤ k ∧ k < l.length) := by simpa using hok
        exact Or.inr ⟨rfl, inP_not.2 (by omega)⟩
    clear hok hr
    rcases hcs with hg | ⟨hg, hin⟩
    · rw [hg] at HG; clear hg
      go_enter Try.func15, Try.ntmps15
      go_wp2_with fail
      refine (HG.out _ T0.out.2.2).mono ?_; rintro e w1 ⟨rfl, b1⟩
      have T1 := Lib.hid (T0.out.keep b1); clear b1 p0 p1
      obtain ⟨p0, p1, q0, q1, f0, f1⟩ := T1.out.cells
      have HF := Lib.hid (fun u0 u1 : Value => T1.out.put u0 u1)
      go_wp2_with fail
      refine bodyPost_ret (v := .tuple #[.agg #[.int .i64 0, .slice none 0 0], .bool false]) ?_ rfl ⟨none, 0, rfl, owns_nil3 _ _ _, HF.out _ _⟩
      simp [results, Try.results15, go_sem, *]
    · rw [hg] at HG; clear hg
      have HIN := Lib.hid hin; clear hin
      go_enter Try.func15, Try.ntmps15
      go_wp2_with fail
      refine (HG.out _ T0.out.2.2).mono ?_; rintro e w1 ⟨rfl, b1⟩
      have T1 := Lib.hid (T0.out.keep b1); clear b1 p0 p1
      obtain ⟨p0, p1, q0, q1, f0, f1⟩ := T1.out.cells
      have HF := Lib.hid (fun u0 u1 : Value => T1.out.put u0 u1)
      go_wp2_with fail
      refine (l1In_pz _ _ _ _).mono ?_; rintro e w2 ⟨rfl, rfl⟩
      rw [HIN.out]
      go_wp2_with fail
      refine bodyPost_ret (v := .tuple #[.agg #[.int .i64 0, .slice none 0 0], .bool false]) ?_ rfl ⟨none, 0, rfl, owns_nil3 _ _ _, HF.out _ _⟩
      simp [results, Try.results15, go_sem, *]
  · obtain ⟨hg, k0, k1⟩ := okK_true hok
    clear hok
    simp only [if_true]
    obtain ⟨kk, rfl⟩ : ∃ kk : Nat, k = kk := ⟨k.toNat, by omega⟩
    rw [Int.toNat_natCast]
    have h6 := (goodP_bd hg).2.1
    have HW := Lib.hid (fun W (hb : Below w.heap.size w W) => pzWithout_any l ad c kk W (by omega) hlc (by omega) (hr.old hb))
    have HIN := Lib.hid (show inP kk 0 ((l.length : Int) - 1) = true from inP_iff.2 (by omega))
    rw [hg] at HG
    clear hg hr
    generalize dropC l kk = m at *
    go_enter Try.func15, Try.ntmps15
    go_wp2_with fail
    refine (HG.out _ T0.out.2.2).mono ?_; rintro e w1 ⟨rfl, b1⟩
    have T1 := Lib.hid (T0.out.keep b1); clear b1 p0 p1
    obtain ⟨p0, p1, -, -, -, -⟩ := T1.out.cells
    go_wp2_with fail
    refine (l1In_pz _ _ _ _).mono ?_; rintro e w2 ⟨rfl, rfl⟩
    rw [HIN.out]
    have T1d := Lib.hid (T1.out.keep (Below.refl _ _).drew)
    have HS1 := Lib.hid (And.intro (T1d.out.1.cell 0) (T1d.out.1.cell 1))
    go_wp2_with fail
    clear p0 p1
    refine wp_region_held_drew (S := fun wi => wi.cell? ⟨w.heap.size, 0, none⟩ = some (.int .i64 p) ∧ wi.cell? ⟨w.heap.size, 1, none⟩ = some (.slice ad l.length c)) (by kernel_rfl) HS1.out (fun hHeld => ?_)
    (refine wpAnyH_take (i := 0) (v := ?_) rfl (by kernel_rfl) (by kernel_rfl) (by kernel_rfl) (fun _ _ _ h => h) (Or.inl ⟨by kernel_rfl, ?_⟩) (by assumption) ?_; rotate_left; focus (intro w hSw; (try dsimp only at hSw); go_simp; try with_reducible rfl); (try simp only [List.getElem_toArray, List.getElem_cons_succ, List.getElem_cons_zero, Act.put, List.setIfInBounds_toArray, List.set_cons_zero, List.set_cons_succ])); (refine wpAnyH_take (i := 1) (v := ?_) rfl (by kernel_rfl) (by kernel_rfl) (by kernel_rfl) (fun _ _ _ h => h) (Or.inl ⟨by kernel_rfl, ?_⟩) (by assumption) ?_; rotate_left; focus (intro w hSw; (try dsimp only at hSw); go_simp; try with_reducible rfl); (try simp only [List.getElem_toArray, List.getElem_cons_succ, List.getElem_cons_zero, Act.put, List.setIfInBounds_toArray, List.set_cons_zero, List.set_cons_succ])); (refine wpAnyH_take (i := 2) (v := ?_) rfl (by kernel_rfl) (by kernel_rfl) (by kernel_rfl) (fun _ _ _ h => h) (Or.inl ⟨by kernel_rfl, ?_⟩) (by assumption) ?_; rotate_left; focus (intro w hSw; (try dsimp only at hSw); go_simp; try with_reducible rfl); (try simp only [List.getElem_toArray, List.getElem_cons_succ, List.getElem_cons_zero, Act.put, List.setIfInBounds_toArray, List.set_cons_zero, List.set_cons_succ])); (refine wpAnyH_take (i := 3) (v := ?_) rfl (by kernel_rfl) (by kernel_rfl) (by kernel_rfl) (fun _ _ _ h => h) (Or.inl ⟨by kernel_rfl, ?_⟩) (by assumption) ?_; rotate_left; focus (intro w hSw; (try dsimp only at hSw); go_simp; try with_reducible rfl); (try simp only [List.getElem_toArray, List.getElem_cons_succ, List.getElem_cons_zero, Act.put, List.setIfInBounds_toArray, List.set_cons_zero, List.set_cons_succ])); (refine wpAnyH_take (i := 4) (v := ?_) rfl (by kernel_rfl) (by kernel_rfl) (by kernel_rfl) (fun _ _ _ h => h) (Or.inl ⟨by kernel_rfl, ?_⟩) (by assumption) ?_; rotate_left; focus (intro w hSw; (try dsimp only at hSw); go_simp; try with_reducible rfl); (try simp only [List.getElem_toArray, List.getElem_cons_succ, List.getElem_cons_zero, Act.put, List.setIfInBounds_toArray, List.set_cons_zero, List.set_cons_succ]))
    refine wpAnyH_ready (rs := [5]) (by kernel_rfl) (by simp) ?_; refine AllReadyH.cons rfl (fun K hK => ?_) AllReadyH.nil
    go_simp
    go_at_call 30
    refine (HW.out _ T1d.out.2.2).mono ?_; rintro e w2 ⟨a, c', rfl, o2, b2⟩
    have T2 := Lib.hid (T1d.out.keep b2)
    have HF := Lib.hid (fun u0 u1 : Value => T2.out.putOwn (owns_mono o2 T1d.out.2.2.size) u0 u1)
    have KS := Lib.hid (And.intro (T2.out.1.cell 0) (T2.out.1.cell 1))
    clear b2 o2 T1d hHeld
    go_wp2_with fail
    first
      | refine hK.out _ _ KS.out (fun hHeld => ?_)
      | refine hK _ _ KS.out (fun hHeld => ?_)
    clear hK K KS
    (try simp only [List.getElem_toArray, List.getElem_cons_succ, List.getElem_cons_zero, Act.put, List.setIfInBounds_toArray, List.set_cons_zero, List.set_cons_succ])
    (refine wpAnyH_take (i := 6) (v := ?_) rfl (by kernel_rfl) (by kernel_rfl) (by kernel_rfl) (fun _ _ _ h => h) (Or.inl ⟨by kernel_rfl, ?_⟩) (by assumption) ?_; rotate_left; focus (intro w hSw; (try dsimp only at hSw); go_simp; try with_reducible rfl); (try simp only [List.getElem_toArray, List.getElem_cons_succ, List.getElem_cons_zero, Act.put, List.setIfInBounds_toArray, List.set_cons_zero, List.set_cons_succ]))
    obtain ⟨-, -, q0, q1, f0, f1⟩ := T2.out.cells
    have HF2 := Lib.hid (HF.out (.int .i64 p) (.slice a m.length c'))
    refine wpAnyH_ready (rs := [7]) (by kernel_rfl) (by simp) ?_; refine AllReadyH.cons rfl (fun K hK => ?_) AllReadyH.nil
    go_simp
    have KS := Lib.hid (And.intro (HF2.out.2.2.2.cell 0) (HF2.out.2.2.2.cell 1))
    clear q0 q1 f0 f1
    first
      | refine hK.out _ _ KS.out (fun hHeld => ?_)
      | refine hK _ _ KS.out (fun hHeld => ?_)
    clear hK K KS
    (try simp only [List.getElem_toArray, List.getElem_cons_succ, List.getElem_cons_zero, Act.put, List.setIfInBounds_toArray, List.set_cons_zero, List.set_cons_succ])
    (refine wpAnyH_take (i := 8) (v := ?_) rfl (by kernel_rfl) (by kernel_rfl) (by kernel_rfl) (fun _ _ _ h => h) (Or.inl ⟨by kernel_rfl, ?_⟩) (by assumption) ?_; rotate_left; focus (intro w hSw; (try dsimp only at hSw); go_simp; try with_reducible rfl); (try simp only [List.getElem_toArray, List.getElem_cons_succ, List.getElem_cons_zero, Act.put, List.setIfInBounds_toArray, List.set_cons_zero, List.set_cons_succ]))
    clear hHeld
    refine wpAnyH_done (by kernel_rfl) ?_ _
    obtain ⟨r0, r1, -, -⟩ := HF2.out.2.2.1.two
    go_wp2_with fail
    refine bodyPost_ret (v := .tuple #[.agg #[.int .i64 p, .slice a m.length c'], .bool true]) ?_ rfl ⟨a, c', rfl, HF2.out.1, HF2.out.2.1⟩
    simp [results, Try.results15, go_sem, *]
end Go.Proofs.Ytbbojebonknklaa
