/-
  Puzzles: the puzzle with a clue more: both sides.
-/
import Derived.Test.YtbbojebonknklaaPzWith
namespace Go.Proofs.Ytbbojebonknklaa
open Go.RowKit
set_option linter.unusedVariables false
set_option linter.unusedSimpArgs false

def okA (p : Int) (l : List Cl) (x : Cl) : Bool := goodP p l && (goodC p x && decide (l.length ≠ 6))
theorem okA_true {p : Int} {l : List Cl} {x : Cl} (h : okA p l x = true) : goodP p l = true ∧ goodC p x = true ∧ l.length ≠ 6 := by simpa [okA] using h

set_option maxHeartbeats 3200000 in
set_option maxRecDepth 100000 in
theorem implAddClue_any (p : Int) (l : List Cl) (ad : Option Addr) (c : Nat) (x y z : Int) (w : World) (hl : (l.length : Int) ≤ 1000000000000) (hlc : l.length ≤ c) (hr : Reads w ad (clus l)) :
    Calls Try.prog 20 #[.agg #[.int .i64 p, .slice ad l.length c], .agg #[.int .i64 x, .int .i64 y, .int .i64 z]] w fun e w' => PzR (if okA p l (x, y, z) then p else 0) (if okA p l (x, y, z) then l ++ [(x, y, z)] else []) (okA p l (x, y, z)) w e w' := by
  have HG := Lib.hid (fun W (hb : Below w.heap.size w W) => isPuzzle_any p l ad c W hl (hr.old hb))
  have HC : Hid (∀ (hp : 1 ≤ p ∧ p ≤ 8) (W : World), Calls Try.prog 9 #[.int .i64 p, .agg #[.int .i64 x, .int .i64 y, .int .i64 z]] W fun e w' => e = .returned (.bool (goodC p (x, y, z))) ∧ Below W.heap.size W w') := fun hp W => by have h := implIsClue_any p x y z W; rw [inP_iff.2 hp, Bool.true_and] at h; exact h
  have T0 := Lib.hid (Thr.new w p (.slice ad l.length c) x y z)
  obtain ⟨p0, p1, p2, p3, p4⟩ := T0.out.cells
  cases hok : okA p l (x, y, z)
  · simp only [Bool.false_eq_true, if_false]
    have hcs : goodP p l = false ∨ (goodP p l = true ∧ goodC p (x, y, z) = false) ∨ (goodP p l = true ∧ goodC p (x, y, z) = true ∧ l.length = 6) := by
      unfold okA at hok
      cases hg : goodP p l
      · exact Or.inl rfl
      · cases hc : goodC p (x, y, z)
        · exact Or.inr (Or.inl ⟨rfl, rfl⟩)
        · rw [hg, hc] at hok
          exact Or.inr (Or.inr ⟨rfl, rfl, by simpa using hok⟩)
    clear hok hr
    rcases hcs with hg | ⟨hg, hc⟩ | ⟨hg, hc, h6⟩
    · rw [hg] at HG; clear hg HC
      go_enter Try.func20, Try.ntmps20
      go_wp2_with fail
      refine (HG.out _ T0.out.2.2.2).mono ?_; rintro e w1 ⟨rfl, b1⟩
      have T1 := Lib.hid (T0.out.keep b1); clear b1 p0 p1 p2 p3 p4
      obtain ⟨q0, q1, f0, f1⟩ := T1.out.res
      have HF := Lib.hid (fun u0 u1 : Value => T1.out.put u0 u1)
      go_wp2_with fail
      refine bodyPost_ret (v := .tuple #[.agg #[.int .i64 0, .slice none 0 0], .bool false]) ?_ rfl ⟨none, 0, rfl, owns_nil3 _ _ _, HF.out _ _⟩
      simp [results, Try.results20, go_sem, *]
    · have HC2 := Lib.hid (HC.out (goodP_bd hg).1); clear HC
      rw [hc] at HC2
      rw [hg] at HG; clear hg hc
      go_enter Try.func20, Try.ntmps20
      go_wp2_with fail
      refine (HG.out _ T0.out.2.2.2).mono ?_; rintro e w1 ⟨rfl, b1⟩
      have T1 := Lib.hid (T0.out.keep b1); clear b1 p0 p1 p2 p3 p4
      obtain ⟨p0, p1, p2, p3, p4⟩ := T1.out.cells
      go_wp2_with fail
      refine (HC2.out _).mono ?_; rintro e w2 ⟨rfl, b2⟩
      have T2 := Lib.hid (T1.out.keep b2); clear b2 p0 p1 p2 p3 p4
      obtain ⟨p0, p1, p2, p3, p4⟩ := T2.out.cells
      obtain ⟨q0, q1, f0, f1⟩ := T2.out.res
      have HF := Lib.hid (fun u0 u1 : Value => T2.out.put u0 u1)
      go_wp2_with fail
      refine bodyPost_ret (v := .tuple #[.agg #[.int .i64 0, .slice none 0 0], .bool false]) ?_ rfl ⟨none, 0, rfl, owns_nil3 _ _ _, HF.out _ _⟩
      simp [results, Try.results20, go_sem, *]
    · have HC2 := Lib.hid (HC.out (goodP_bd hg).1); clear HC
      rw [hc] at HC2
      rw [hg] at HG; clear hg hc
      have h6' : ((l.length : Int) == 6) = true := by simp; omega
      clear h6
      go_enter Try.func20, Try.ntmps20
      go_wp2_with fail
      refine (HG.out _ T0.out.2.2.2).mono ?_; rintro e w1 ⟨rfl, b1⟩
      have T1 := Lib.hid (T0.out.keep b1); clear b1 p0 p1 p2 p3 p4
      obtain ⟨p0, p1, p2, p3, p4⟩ := T1.out.cells
      go_wp2_with fail
      refine (HC2.out _).mono ?_; rintro e w2 ⟨rfl, b2⟩
      have T2 := Lib.hid (T1.out.keep b2); clear b2 p0 p1 p2 p3 p4
      obtain ⟨p0, p1, p2, p3, p4⟩ := T2.out.cells
      obtain ⟨q0, q1, f0, f1⟩ := T2.out.res
      have HF := Lib.hid (fun u0 u1 : Value => T2.out.put u0 u1)
      go_wp2_with fail
      refine bodyPost_ret (v := .tuple #[.agg #[.int .i64 0, .slice none 0 0], .bool false]) ?_ rfl ⟨none, 0, rfl, owns_nil3 _ _ _, HF.out _ _⟩
      simp [results, Try.results20, go_sem, *]
  · obtain ⟨hg, hc, h6⟩ := okA_true hok
    clear hok
    simp only [if_true]
    have hle := (goodP_bd hg).2.1
    have hln : (l ++ [(x, y, z)]).length = l.length + 1 := by simp
    have HC2 := Lib.hid (HC.out (goodP_bd hg).1); clear HC
    rw [hc] at HC2
    rw [hg] at HG; clear hg hc
    have h6' : ((l.length : Int) == 6) = false := by simp; omega
    clear h6
    have HW := Lib.hid (fun W (hb : Below w.heap.size w W) => with_any p l ad c x y z W (by omega) hlc (hr.old hb)); clear hr
    rw [← hln] at HW
    clear hln
    generalize l ++ [(x, y, z)] = m at *
    go_enter Try.func20, Try.ntmps20
    go_wp2_with fail
    refine (HG.out _ T0.out.2.2.2).mono ?_; rintro e w1 ⟨rfl, b1⟩
    have T1 := Lib.hid (T0.out.keep b1); clear b1 p0 p1 p2 p3 p4
    obtain ⟨p0, p1, p2, p3, p4⟩ := T1.out.cells
    go_wp2_with fail
    refine (HC2.out _).mono ?_; rintro e w2 ⟨rfl, b2⟩
    have T2 := Lib.hid (T1.out.keep b2); clear b2 p0 p1 p2 p3 p4
    obtain ⟨p0, p1, p2, p3, p4⟩ := T2.out.cells
    go_wp2_with fail
    refine (HW.out _ T2.out.2.2.2).mono ?_; rintro e w3 ⟨a, c', rfl, o3, b3⟩
    have T3 := Lib.hid (T2.out.keep b3)
    have HF := Lib.hid (T3.out.putOwn (owns_mono o3 T2.out.2.2.2.size) (.int .i64 p) (.slice a m.length c'))
    clear b3 o3 p0 p1 p2 p3 p4
    obtain ⟨q0, q1, f0, f1⟩ := T3.out.res
    obtain ⟨r0, r1, -, -⟩ := HF.out.2.2.1.two
    go_wp2_with fail
    refine bodyPost_ret (v := .tuple #[.agg #[.int .i64 p, .slice a m.length c'], .bool true]) ?_ rfl ⟨a, c', rfl, HF.out.1, HF.out.2.1⟩
    simp [results, Try.results20, go_sem, *]

theorem ObAt.growNe {w w' : World} {g : Nat} {T : TypeId} {cs : Array Value} {ob : Option Nat} (h : ObAt w g T cs) (hg : w.grownBy w' ob) (hne : ob ≠ some g) : ObAt w' g T cs := by
  have hlt := h.lt
  unfold ObAt at *
  rw [hg.block g hlt (fun e => hne e.symm)]; exact h

set_option maxHeartbeats 3200000 in
set_option maxRecDepth 100000 in
theorem specAddClue_any (p : Int) (l : List Cl) (ad : Option Addr) (c : Nat) (x y z : Int) (w : World) (hl : (l.length : Int) ≤ 1000000000000) (hlc : l.length ≤ c) (hr : Reads w ad (clus l)) (hne : ad ≠ none) :
    Calls Try.prog 19 #[.agg #[.int .i64 p, .slice ad l.length c], .agg #[.int .i64 x, .int .i64 y, .int .i64 z]] w fun e w' => PzR (if okA p l (x, y, z) then p else 0) (if okA p l (x, y, z) then l ++ [(x, y, z)] else []) (okA p l (x, y, z)) w e w' := by
  have HG := Lib.hid (fun W (hb : Below w.heap.size w W) => pzGood_any p l ad c W hl (hr.old hb))
  have HC : Hid (∀ (hp : 1 ≤ p ∧ p ≤ 8) (W : World), Calls Try.prog 22 #[.int .i64 p, .agg #[.int .i64 x, .int .i64 y, .int .i64 z]] W fun e w' => e = .returned (.bool (goodC p (x, y, z))) ∧ Below W.heap.size W w') := fun hp W => pzClue_any p (x, y, z) W hp
  have T0 := Lib.hid (Thr.new w p (.slice ad l.length c) x y z)
  obtain ⟨p0, p1, p2, p3, p4⟩ := T0.out.cells
  cases hok : okA p l (x, y, z)
  · simp only [Bool.false_eq_true, if_false]
    have hcs : goodP p l = false ∨ (goodP p l = true ∧ goodC p (x, y, z) = false) ∨ (goodP p l = true ∧ goodC p (x, y, z) = true ∧ l.length = 6) := by
      unfold okA at hok
      cases hg : goodP p l
      · exact Or.inl rfl
      · cases hc : goodC p (x, y, z)
        · exact Or.inr (Or.inl ⟨rfl, rfl⟩)
        · rw [hg, hc] at hok
          exact Or.inr (Or.inr ⟨rfl, rfl, by simpa using hok⟩)
    clear hok hr
    rcases hcs with hg | ⟨hg, hc⟩ | ⟨hg, hc, h6⟩
    · rw [hg] at HG; clear hg HC
      go_enter Try.func19, Try.ntmps19
      go_wp2_with fail
      refine (HG.out _ T0.out.2.2.2).mono ?_; rintro e w1 ⟨rfl, b1⟩
      have T1 := Lib.hid (T0.out.keep b1); clear b1 p0 p1 p2 p3 p4
      obtain ⟨q0, q1, f0, f1⟩ := T1.out.res
      have HF := Lib.hid (fun u0 u1 : Value => T1.out.put u0 u1)
      go_wp2_with fail
      refine bodyPost_ret (v := .tuple #[.agg #[.int .i64 0, .slice none 0 0], .bool false]) ?_ rfl ⟨none, 0, rfl, owns_nil3 _ _ _, HF.out _ _⟩
      simp [results, Try.results19, go_sem, *]
    · have HC2 := Lib.hid (HC.out (goodP_bd hg).1); clear HC
      rw [hc] at HC2
      rw [hg] at HG; clear hg hc
      go_enter Try.func19, Try.ntmps19
      go_wp2_with fail
      refine (HG.out _ T0.out.2.2.2).mono ?_; rintro e w1 ⟨rfl, b1⟩
      have T1 := Lib.hid (T0.out.keep b1); clear b1 p0 p1 p2 p3 p4
      obtain ⟨p0, p1, p2, p3, p4⟩ := T1.out.cells
      go_wp2_with fail
      refine (HC2.out _).mono ?_; rintro e w2 ⟨rfl, b2⟩
      have T2 := Lib.hid (T1.out.keep b2); clear b2 p0 p1 p2 p3 p4
      obtain ⟨p0, p1, p2, p3, p4⟩ := T2.out.cells
      obtain ⟨q0, q1, f0, f1⟩ := T2.out.res
      have HF := Lib.hid (fun u0 u1 : Value => T2.out.put u0 u1)
      go_wp2_with fail
      refine bodyPost_ret (v := .tuple #[.agg #[.int .i64 0, .slice none 0 0], .bool false]) ?_ rfl ⟨none, 0, rfl, owns_nil3 _ _ _, HF.out _ _⟩
      simp [results, Try.results19, go_sem, *]
    · have HC2 := Lib.hid (HC.out (goodP_bd hg).1); clear HC
      rw [hc] at HC2
      rw [hg] at HG; clear hg hc
      have h6' : ((l.length : Int) == 6) = true := by simp; omega
      clear h6
      go_enter Try.func19, Try.ntmps19
      go_wp2_with fail
      refine (HG.out _ T0.out.2.2.2).mono ?_; rintro e w1 ⟨rfl, b1⟩
      have T1 := Lib.hid (T0.out.keep b1); clear b1 p0 p1 p2 p3 p4
      obtain ⟨p0, p1, p2, p3, p4⟩ := T1.out.cells
      go_wp2_with fail
      refine (HC2.out _).mono ?_; rintro e w2 ⟨rfl, b2⟩
      have T2 := Lib.hid (T1.out.keep b2); clear b2 p0 p1 p2 p3 p4
      obtain ⟨p0, p1, p2, p3, p4⟩ := T2.out.cells
      obtain ⟨q0, q1, f0, f1⟩ := T2.out.res
      have HF := Lib.hid (fun u0 u1 : Value => T2.out.put u0 u1)
      go_wp2_with fail
      refine bodyPost_ret (v := .tuple #[.agg #[.int .i64 0, .slice none 0 0], .bool false]) ?_ rfl ⟨none, 0, rfl, owns_nil3 _ _ _, HF.out _ _⟩
      simp [results, Try.results19, go_sem, *]
  · obtain ⟨hg, hc, h6⟩ := okA_true hok
    clear hok
    simp only [if_true]
    have hle := (goodP_bd hg).2.1
    have hln : (l ++ [(x, y, z)]).length = l.length + 1 := by simp
    have HC2 := Lib.hid (HC.out (goodP_bd hg).1); clear HC
    rw [hc] at HC2
    rw [hg] at HG; clear hg hc
    have h6' : ((l.length : Int) == 6) = false := by simp; omega
    clear h6
    have HLN : Hid (l.length + [(x, y, z)].length = (l ++ [(x, y, z)]).length) := by rw [hln]; rfl
    obtain ⟨m, hm⟩ : ∃ m, m = l ++ [(x, y, z)] := ⟨_, rfl⟩
    rw [← hm] at HLN hln ⊢
    have HMM := Lib.hid hm.symm
    clear hm hln
    have HRR := Lib.hid hr; clear hr
    go_enter Try.func19, Try.ntmps19
    go_wp2_with fail
    refine (HG.out _ T0.out.2.2.2).mono ?_; rintro e w1 ⟨rfl, b1⟩
    have T1 := Lib.hid (T0.out.keep b1); clear b1 p0 p1 p2 p3 p4
    obtain ⟨p0, p1, p2, p3, p4⟩ := T1.out.cells
    go_wp2_with fail
    refine (HC2.out _).mono ?_; rintro e X ⟨rfl, b2⟩
    have TX := Lib.hid (T1.out.keep b2); clear b2 p0 p1 p2 p3 p4
    obtain ⟨p0, p1, p2, p3, p4⟩ := TX.out.cells
    have HRX := Lib.hid (fun W (hb : Below X.heap.size X W) => HRR.out.old (TX.out.2.2.2.trans (hb.mono TX.out.2.2.2.size)))
    have HS5 : Hid (∀ wi, Below X.heap.size X wi → wi.cell? ⟨w.heap.size, 0, none⟩ = some (.int .i64 p) ∧ wi.cell? ⟨w.heap.size, 1, none⟩ = some (.slice ad l.length c) ∧ wi.cell? ⟨w.heap.size + 1, 0, none⟩ = some (.int .i64 x) ∧ wi.cell? ⟨w.heap.size + 1, 1, none⟩ = some (.int .i64 y) ∧ wi.cell? ⟨w.heap.size + 1, 2, none⟩ = some (.int .i64 z)) := fun wi hb => by
      obtain ⟨h0, h1, h2, h3, h4⟩ := (TX.out.keep hb).cells
      exact ⟨h0, h1, h2, h3, h4⟩
    go_wp2_with fail
    clear p0 p1 p2 p3 p4
    refine wp_region_held_drew (S := fun wi => wi.cell? ⟨w.heap.size, 0, none⟩ = some (.int .i64 p) ∧ wi.cell? ⟨w.heap.size, 1, none⟩ = some (.slice ad l.length c) ∧ wi.cell? ⟨w.heap.size + 1, 0, none⟩ = some (.int .i64 x) ∧ wi.cell? ⟨w.heap.size + 1, 1, none⟩ = some (.int .i64 y) ∧ wi.cell? ⟨w.heap.size + 1, 2, none⟩ = some (.int .i64 z)) (by kernel_rfl) (HS5.out _ (Below.drew (Below.refl _ _))) (fun hHeld => ?_)
    (refine wpAnyH_take (i := 0) (v := ?_) rfl (by kernel_rfl) (by kernel_rfl) (by kernel_rfl) (fun _ _ _ h => h) (Or.inl ⟨by kernel_rfl, ?_⟩) (by assumption) ?_; rotate_left; focus (intro w hSw; (try dsimp only at hSw); go_simp; try with_reducible rfl); (try simp only [List.getElem_toArray, List.getElem_cons_succ, List.getElem_cons_zero, Act.put, List.setIfInBounds_toArray, List.set_cons_zero, List.set_cons_succ])); (refine wpAnyH_take (i := 1) (v := ?_) rfl (by kernel_rfl) (by kernel_rfl) (by kernel_rfl) (fun _ _ _ h => h) (Or.inl ⟨by kernel_rfl, ?_⟩) (by assumption) ?_; rotate_left; focus (intro w hSw; (try dsimp only at hSw); go_simp; try with_reducible rfl); (try simp only [List.getElem_toArray, List.getElem_cons_succ, List.getElem_cons_zero, Act.put, List.setIfInBounds_toArray, List.set_cons_zero, List.set_cons_succ])); (refine wpAnyH_take (i := 3) (v := ?_) rfl (by kernel_rfl) (by kernel_rfl) (by kernel_rfl) (fun _ _ _ h => h) (Or.inl ⟨by kernel_rfl, ?_⟩) (by assumption) ?_; rotate_left; focus (intro w hSw; (try dsimp only at hSw); go_simp; try with_reducible rfl); (try simp only [List.getElem_toArray, List.getElem_cons_succ, List.getElem_cons_zero, Act.put, List.setIfInBounds_toArray, List.set_cons_zero, List.set_cons_succ])); (refine wpAnyH_take (i := 4) (v := ?_) rfl (by kernel_rfl) (by kernel_rfl) (by kernel_rfl) (fun _ _ _ h => h) (Or.inl ⟨by kernel_rfl, ?_⟩) (by assumption) ?_; rotate_left; focus (intro w hSw; (try dsimp only at hSw); go_simp; try with_reducible rfl); (try simp only [List.getElem_toArray, List.getElem_cons_succ, List.getElem_cons_zero, Act.put, List.setIfInBounds_toArray, List.set_cons_zero, List.set_cons_succ])); (refine wpAnyH_take (i := 6) (v := ?_) rfl (by kernel_rfl) (by kernel_rfl) (by kernel_rfl) (fun _ _ _ h => h) (Or.inl ⟨by kernel_rfl, ?_⟩) (by assumption) ?_; rotate_left; focus (intro w hSw; (try dsimp only at hSw); go_simp; try with_reducible rfl); (try simp only [List.getElem_toArray, List.getElem_cons_succ, List.getElem_cons_zero, Act.put, List.setIfInBounds_toArray, List.set_cons_zero, List.set_cons_succ]))
    have HX := Lib.hid (Below.drew (Below.refl X.heap.size X))
    generalize X.drew = X0 at *
    refine wpAnyH_ready (rs := [2, 7]) (by kernel_rfl) (by simp) (AllReadyH.cons rfl (fun K hK => ?_) (AllReadyH.cons rfl (fun K hK => ?_) AllReadyH.nil))
    · go_simp
      have bd := Below.ofNew (w := X0) (.cells #[] 25)
      have hbX := HX.out.trans (bd.mono HX.out.size)
      have K2 := Lib.hid (owns_mono (clus_empty X0) HX.out.size)
      have KS := Lib.hid (HS5.out _ hbX)
      have HXn := Lib.hid hbX; clear HX; have HX := HXn; clear HXn
      clear bd hHeld hbX
      generalize (Value.slice (some ⟨X0.heap.size, 0, none⟩) 0 0) = v2 at *
      generalize X0.alloc (.cells #[] 25) = wE at *
      first
        | refine hK.out _ _ KS.out (fun hHeld => ?_)
        | refine hK _ _ KS.out (fun hHeld => ?_)
      clear hK K KS
      (try simp only [List.getElem_toArray, List.getElem_cons_succ, List.getElem_cons_zero, Act.put, List.setIfInBounds_toArray, List.set_cons_zero, List.set_cons_succ])
      refine wpAnyH_ready (rs := [5, 7]) (by kernel_rfl) (by simp) (AllReadyH.cons rfl (fun K hK => ?_) (AllReadyH.cons rfl (fun K hK => ?_) AllReadyH.nil))
      · (try simp only [List.getElem_toArray, List.getElem_cons_succ, List.getElem_cons_zero, Act.put, List.setIfInBounds_toArray, List.set_cons_zero, List.set_cons_succ])
        refine wp_append_clu _ _ rfl X.heap.size X v2 0 [] l ad l.length c rfl rfl rfl K2.out (HRX.out _ HX.out) HX.out HX.out.size (by omega) hne ?_
        intro v5 w5 o5 b5 g5
        rw [Nat.zero_add, List.nil_append] at o5
        have K5 := Lib.hid o5
        have KS := Lib.hid (HS5.out _ b5)
        have HXn := Lib.hid b5; clear HX; have HX := HXn; clear HXn
        clear o5 b5 g5 K2 hHeld
        first
          | refine hK.out _ _ KS.out (fun hHeld => ?_)
          | refine hK _ _ KS.out (fun hHeld => ?_)
        clear hK K KS
        (try simp only [List.getElem_toArray, List.getElem_cons_succ, List.getElem_cons_zero, Act.put, List.setIfInBounds_toArray, List.set_cons_zero, List.set_cons_succ])
        refine wpAnyH_ready (rs := [7]) (by kernel_rfl) (by simp) ?_; refine AllReadyH.cons rfl (fun K hK => ?_) AllReadyH.nil
        go_simp
        have bd := Below.ofNew (w := w5) (.cells #[.int .i64 x, .int .i64 y, .int .i64 z] 25)
        have hbX := HX.out.trans (bd.mono HX.out.size)
        have K5n := Lib.hid (owns_below K5.out bd); clear K5; have K5 := K5n; clear K5n
        have K7 := Lib.hid (ObAt.new w5 25 #[.int .i64 x, .int .i64 y, .int .i64 z])
        have KS := Lib.hid (HS5.out _ hbX)
        have HXn := Lib.hid hbX; clear HX; have HX := HXn; clear HXn
        clear bd hHeld hbX
        generalize hg7 : w5.heap.size = g7 at *
        clear hg7
        generalize w5.alloc (.cells #[.int .i64 x, .int .i64 y, .int .i64 z] 25) = wC at *
        first
          | refine hK.out _ _ KS.out (fun hHeld => ?_)
          | refine hK _ _ KS.out (fun hHeld => ?_)
        clear hK K KS
        (try simp only [List.getElem_toArray, List.getElem_cons_succ, List.getElem_cons_zero, Act.put, List.setIfInBounds_toArray, List.set_cons_zero, List.set_cons_succ])
        refine wpAnyH_ready (rs := [8]) (by kernel_rfl) (by simp) ?_; refine AllReadyH.cons rfl (fun K hK => ?_) AllReadyH.nil
        (try simp only [List.getElem_toArray, List.getElem_cons_succ, List.getElem_cons_zero, Act.put, List.setIfInBounds_toArray, List.set_cons_zero, List.set_cons_succ])
        refine wp_append_clu _ _ rfl X.heap.size X v5 l.length l [(x, y, z)] (some ⟨g7, 0, none⟩) 1 1 rfl rfl rfl K5.out (reads_one K7.out) HX.out HX.out.size (by simp; omega) (by simp) ?_
        intro v8 w8 o8 b8 g8
        rw [show l.length + [(x, y, z)].length = m.length from HLN.out] at o8
        rw [HMM.out] at o8
        obtain ⟨a8, c8, rfl, hc8, hrd8, -⟩ := own_cap o8
        have KS := Lib.hid (HS5.out _ b8)
        have T8 := TX.out.keep b8
        have HF := Lib.hid (And.intro T8 (T8.putOwn (owns_mono o8 TX.out.2.2.2.size) (.int .i64 p) (.slice a8 m.length c8)))
        clear o8 b8 g8 hc8 hrd8 T8 K5 K7 hHeld
        first
          | refine hK.out _ _ KS.out (fun hHeld => ?_)
          | refine hK _ _ KS.out (fun hHeld => ?_)
        clear hK K KS
        (try simp only [List.getElem_toArray, List.getElem_cons_succ, List.getElem_cons_zero, Act.put, List.setIfInBounds_toArray, List.set_cons_zero, List.set_cons_succ])
        (refine wpAnyH_take (i := 9) (v := ?_) rfl (by kernel_rfl) (by kernel_rfl) (by kernel_rfl) (fun _ _ _ h => h) (Or.inl ⟨by kernel_rfl, ?_⟩) (by assumption) ?_; rotate_left; focus (intro w hSw; (try dsimp only at hSw); go_simp; try with_reducible rfl); (try simp only [List.getElem_toArray, List.getElem_cons_succ, List.getElem_cons_zero, Act.put, List.setIfInBounds_toArray, List.set_cons_zero, List.set_cons_succ]))
        obtain ⟨q0, q1, f0, f1⟩ := HF.out.1.res
        refine wpAnyH_ready (rs := [10]) (by kernel_rfl) (by simp) ?_; refine AllReadyH.cons rfl (fun K hK => ?_) AllReadyH.nil
        go_simp
        clear q0 q1 f0 f1
        have KS := Lib.hid (And.intro (HF.out.2.2.2.2.1.cell 0) (And.intro (HF.out.2.2.2.2.1.cell 1) (And.intro (HF.out.2.2.2.2.2.cell 0) (And.intro (HF.out.2.2.2.2.2.cell 1) (HF.out.2.2.2.2.2.cell 2)))))
        first
          | refine hK.out _ _ ⟨KS.out.1, KS.out.2.1, KS.out.2.2.1, KS.out.2.2.2.1, KS.out.2.2.2.2⟩ (fun hHeld => ?_)
          | refine hK _ _ ⟨KS.out.1, KS.out.2.1, KS.out.2.2.1, KS.out.2.2.2.1, KS.out.2.2.2.2⟩ (fun hHeld => ?_)
        clear hK K KS
        (try simp only [List.getElem_toArray, List.getElem_cons_succ, List.getElem_cons_zero, Act.put, List.setIfInBounds_toArray, List.set_cons_zero, List.set_cons_succ])
        (refine wpAnyH_take (i := 11) (v := ?_) rfl (by kernel_rfl) (by kernel_rfl) (by kernel_rfl) (fun _ _ _ h => h) (Or.inl ⟨by kernel_rfl, ?_⟩) (by assumption) ?_; rotate_left; focus (intro w hSw; (try dsimp only at hSw); go_simp; try with_reducible rfl); (try simp only [List.getElem_toArray, List.getElem_cons_succ, List.getElem_cons_zero, Act.put, List.setIfInBounds_toArray, List.set_cons_zero, List.set_cons_succ]))
        clear hHeld
        refine wpAnyH_done (by kernel_rfl) ?_ _
        obtain ⟨r0, r1, -, -⟩ := HF.out.2.2.2.1.two
        go_wp2_with fail
        refine bodyPost_ret (v := .tuple #[.agg #[.int .i64 p, .slice a8 m.length c8], .bool true]) ?_ rfl ⟨a8, c8, rfl, HF.out.2.1, HF.out.2.2.1⟩
        simp [results, Try.results19, go_sem, *]
      · go_simp
        have bd := Below.ofNew (w := wE) (.cells #[.int .i64 x, .int .i64 y, .int .i64 z] 25)
        have hbX := HX.out.trans (bd.mono HX.out.size)
        have GN := Lib.hid (show Value.ownBlock v2 ≠ some wE.heap.size from fun e => Nat.lt_irrefl _ (owns_ge K2.out e).2)
        have K2n := Lib.hid (owns_below K2.out bd); clear K2; have K2 := K2n; clear K2n
        have K7 := Lib.hid (ObAt.new wE 25 #[.int .i64 x, .int .i64 y, .int .i64 z])
        have KS := Lib.hid (HS5.out _ hbX)
        have HXn := Lib.hid hbX; clear HX; have HX := HXn; clear HXn
        clear bd hHeld hbX
        generalize hg7 : wE.heap.size = g7 at *
        clear hg7
        generalize wE.alloc (.cells #[.int .i64 x, .int .i64 y, .int .i64 z] 25) = wC at *
        first
          | refine hK.out _ _ KS.out (fun hHeld => ?_)
          | refine hK _ _ KS.out (fun hHeld => ?_)
        clear hK K KS
        (try simp only [List.getElem_toArray, List.getElem_cons_succ, List.getElem_cons_zero, Act.put, List.setIfInBounds_toArray, List.set_cons_zero, List.set_cons_succ])
        refine wpAnyH_ready (rs := [5]) (by kernel_rfl) (by simp) ?_; refine AllReadyH.cons rfl (fun K hK => ?_) AllReadyH.nil
        (try simp only [List.getElem_toArray, List.getElem_cons_succ, List.getElem_cons_zero, Act.put, List.setIfInBounds_toArray, List.set_cons_zero, List.set_cons_succ])
        refine wp_append_clu _ _ rfl X.heap.size X v2 0 [] l ad l.length c rfl rfl rfl K2.out (HRX.out _ HX.out) HX.out HX.out.size (by omega) hne ?_
        intro v5 w5 o5 b5 g5
        rw [Nat.zero_add, List.nil_append] at o5
        have K7n := Lib.hid (K7.out.growNe g5 GN.out); clear K7 GN; have K7 := K7n; clear K7n
        have K5 := Lib.hid o5
        have KS := Lib.hid (HS5.out _ b5)
        have HXn := Lib.hid b5; clear HX; have HX := HXn; clear HXn
        clear o5 b5 g5 K2 hHeld
        first
          | refine hK.out _ _ KS.out (fun hHeld => ?_)
          | refine hK _ _ KS.out (fun hHeld => ?_)
        clear hK K KS
        (try simp only [List.getElem_toArray, List.getElem_cons_succ, List.getElem_cons_zero, Act.put, List.setIfInBounds_toArray, List.set_cons_zero, List.set_cons_succ])
        refine wpAnyH_ready (rs := [8]) (by kernel_rfl) (by simp) ?_; refine AllReadyH.cons rfl (fun K hK => ?_) AllReadyH.nil
        (try simp only [List.getElem_toArray, List.getElem_cons_succ, List.getElem_cons_zero, Act.put, List.setIfInBounds_toArray, List.set_cons_zero, List.set_cons_succ])
        refine wp_append_clu _ _ rfl X.heap.size X v5 l.length l [(x, y, z)] (some ⟨g7, 0, none⟩) 1 1 rfl rfl rfl K5.out (reads_one K7.out) HX.out HX.out.size (by simp; omega) (by simp) ?_
        intro v8 w8 o8 b8 g8
        rw [show l.length + [(x, y, z)].length = m.length from HLN.out] at o8
        rw [HMM.out] at o8
        obtain ⟨a8, c8, rfl, hc8, hrd8, -⟩ := own_cap o8
        have KS := Lib.hid (HS5.out _ b8)
        have T8 := TX.out.keep b8
        have HF := Lib.hid (And.intro T8 (T8.putOwn (owns_mono o8 TX.out.2.2.2.size) (.int .i64 p) (.slice a8 m.length c8)))
        clear o8 b8 g8 hc8 hrd8 T8 K5 K7 hHeld
        first
          | refine hK.out _ _ KS.out (fun hHeld => ?_)
          | refine hK _ _ KS.out (fun hHeld => ?_)
        clear hK K KS
        (try simp only [List.getElem_toArray, List.getElem_cons_succ, List.getElem_cons_zero, Act.put, List.setIfInBounds_toArray, List.set_cons_zero, List.set_cons_succ])
        (refine wpAnyH_take (i := 9) (v := ?_) rfl (by kernel_rfl) (by kernel_rfl) (by kernel_rfl) (fun _ _ _ h => h) (Or.inl ⟨by kernel_rfl, ?_⟩) (by assumption) ?_; rotate_left; focus (intro w hSw; (try dsimp only at hSw); go_simp; try with_reducible rfl); (try simp only [List.getElem_toArray, List.getElem_cons_succ, List.getElem_cons_zero, Act.put, List.setIfInBounds_toArray, List.set_cons_zero, List.set_cons_succ]))
        obtain ⟨q0, q1, f0, f1⟩ := HF.out.1.res
        refine wpAnyH_ready (rs := [10]) (by kernel_rfl) (by simp) ?_; refine AllReadyH.cons rfl (fun K hK => ?_) AllReadyH.nil
        go_simp
        clear q0 q1 f0 f1
        have KS := Lib.hid (And.intro (HF.out.2.2.2.2.1.cell 0) (And.intro (HF.out.2.2.2.2.1.cell 1) (And.intro (HF.out.2.2.2.2.2.cell 0) (And.intro (HF.out.2.2.2.2.2.cell 1) (HF.out.2.2.2.2.2.cell 2)))))
        first
          | refine hK.out _ _ ⟨KS.out.1, KS.out.2.1, KS.out.2.2.1, KS.out.2.2.2.1, KS.out.2.2.2.2⟩ (fun hHeld => ?_)
          | refine hK _ _ ⟨KS.out.1, KS.out.2.1, KS.out.2.2.1, KS.out.2.2.2.1, KS.out.2.2.2.2⟩ (fun hHeld => ?_)
        clear hK K KS
        (try simp only [List.getElem_toArray, List.getElem_cons_succ, List.getElem_cons_zero, Act.put, List.setIfInBounds_toArray, List.set_cons_zero, List.set_cons_succ])
        (refine wpAnyH_take (i := 11) (v := ?_) rfl (by kernel_rfl) (by kernel_rfl) (by kernel_rfl) (fun _ _ _ h => h) (Or.inl ⟨by kernel_rfl, ?_⟩) (by assumption) ?_; rotate_left; focus (intro w hSw; (try dsimp only at hSw); go_simp; try with_reducible rfl); (try simp only [List.getElem_toArray, List.getElem_cons_succ, List.getElem_cons_zero, Act.put, List.setIfInBounds_toArray, List.set_cons_zero, List.set_cons_succ]))
        clear hHeld
        refine wpAnyH_done (by kernel_rfl) ?_ _
        obtain ⟨r0, r1, -, -⟩ := HF.out.2.2.2.1.two
        go_wp2_with fail
        refine bodyPost_ret (v := .tuple #[.agg #[.int .i64 p, .slice a8 m.length c8], .bool true]) ?_ rfl ⟨a8, c8, rfl, HF.out.2.1, HF.out.2.2.1⟩
        simp [results, Try.results19, go_sem, *]
    · go_simp
      have bd := Below.ofNew (w := X0) (.cells #[.int .i64 x, .int .i64 y, .int .i64 z] 25)
      have hbX := HX.out.trans (bd.mono HX.out.size)
      have K7 := Lib.hid (ObAt.new X0 25 #[.int .i64 x, .int .i64 y, .int .i64 z])
      have KS := Lib.hid (HS5.out _ hbX)
      have HXn := Lib.hid hbX; clear HX; have HX := HXn; clear HXn
      clear bd hHeld hbX
      generalize hg7 : X0.heap.size = g7 at *
      clear hg7
      generalize X0.alloc (.cells #[.int .i64 x, .int .i64 y, .int .i64 z] 25) = wC at *
      first
        | refine hK.out _ _ KS.out (fun hHeld => ?_)
        | refine hK _ _ KS.out (fun hHeld => ?_)
      clear hK K KS
      (try simp only [List.getElem_toArray, List.getElem_cons_succ, List.getElem_cons_zero, Act.put, List.setIfInBounds_toArray, List.set_cons_zero, List.set_cons_succ])
      refine wpAnyH_ready (rs := [2]) (by kernel_rfl) (by simp) ?_; refine AllReadyH.cons rfl (fun K hK => ?_) AllReadyH.nil
      go_simp
      have bd := Below.ofNew (w := wC) (.cells #[] 25)
      have hbX := HX.out.trans (bd.mono HX.out.size)
      have K7n := Lib.hid (K7.out.keep bd)
      have GN := Lib.hid (show Value.ownBlock (.slice (some ⟨wC.heap.size, 0, none⟩) 0 0) ≠ some g7 from fun e => by simp [Value.ownBlock] at e; have := K7.out.lt; omega)
      clear K7; have K7 := K7n; clear K7n
      have K2 := Lib.hid (owns_mono (clus_empty wC) HX.out.size)
      have KS := Lib.hid (HS5.out _ hbX)
      have HXn := Lib.hid hbX; clear HX; have HX := HXn; clear HXn
      clear bd hHeld hbX
      generalize (Value.slice (some ⟨wC.heap.size, 0, none⟩) 0 0) = v2 at *
      generalize wC.alloc (.cells #[] 25) = wE at *
      first
        | refine hK.out _ _ KS.out (fun hHeld => ?_)
        | refine hK _ _ KS.out (fun hHeld => ?_)
      clear hK K KS
      (try simp only [List.getElem_toArray, List.getElem_cons_succ, List.getElem_cons_zero, Act.put, List.setIfInBounds_toArray, List.set_cons_zero, List.set_cons_succ])
      refine wpAnyH_ready (rs := [5]) (by kernel_rfl) (by simp) ?_; refine AllReadyH.cons rfl (fun K hK => ?_) AllReadyH.nil
      (try simp only [List.getElem_toArray, List.getElem_cons_succ, List.getElem_cons_zero, Act.put, List.setIfInBounds_toArray, List.set_cons_zero, List.set_cons_succ])
      refine wp_append_clu _ _ rfl X.heap.size X v2 0 [] l ad l.length c rfl rfl rfl K2.out (HRX.out _ HX.out) HX.out HX.out.size (by omega) hne ?_
      intro v5 w5 o5 b5 g5
      rw [Nat.zero_add, List.nil_append] at o5
      have K7n := Lib.hid (K7.out.growNe g5 GN.out); clear K7 GN; have K7 := K7n; clear K7n
      have K5 := Lib.hid o5
      have KS := Lib.hid (HS5.out _ b5)
      have HXn := Lib.hid b5; clear HX; have HX := HXn; clear HXn
      clear o5 b5 g5 K2 hHeld
      first
        | refine hK.out _ _ KS.out (fun hHeld => ?_)
        | refine hK _ _ KS.out (fun hHeld => ?_)
      clear hK K KS
      (try simp only [List.getElem_toArray, List.getElem_cons_succ, List.getElem_cons_zero, Act.put, List.setIfInBounds_toArray, List.set_cons_zero, List.set_cons_succ])
      refine wpAnyH_ready (rs := [8]) (by kernel_rfl) (by simp) ?_; refine AllReadyH.cons rfl (fun K hK => ?_) AllReadyH.nil
      (try simp only [List.getElem_toArray, List.getElem_cons_succ, List.getElem_cons_zero, Act.put, List.setIfInBounds_toArray, List.set_cons_zero, List.set_cons_succ])
      refine wp_append_clu _ _ rfl X.heap.size X v5 l.length l [(x, y, z)] (some ⟨g7, 0, none⟩) 1 1 rfl rfl rfl K5.out (reads_one K7.out) HX.out HX.out.size (by simp; omega) (by simp) ?_
      intro v8 w8 o8 b8 g8
      rw [show l.length + [(x, y, z)].length = m.length from HLN.out] at o8
      rw [HMM.out] at o8
      obtain ⟨a8, c8, rfl, hc8, hrd8, -⟩ := own_cap o8
      have KS := Lib.hid (HS5.out _ b8)
      have T8 := TX.out.keep b8
      have HF := Lib.hid (And.intro T8 (T8.putOwn (owns_mono o8 TX.out.2.2.2.size) (.int .i64 p) (.slice a8 m.length c8)))
      clear o8 b8 g8 hc8 hrd8 T8 K5 K7 hHeld
      first
        | refine hK.out _ _ KS.out (fun hHeld => ?_)
        | refine hK _ _ KS.out (fun hHeld => ?_)
      clear hK K KS
      (try simp only [List.getElem_toArray, List.getElem_cons_succ, List.getElem_cons_zero, Act.put, List.setIfInBounds_toArray, List.set_cons_zero, List.set_cons_succ])
      (refine wpAnyH_take (i := 9) (v := ?_) rfl (by kernel_rfl) (by kernel_rfl) (by kernel_rfl) (fun _ _ _ h => h) (Or.inl ⟨by kernel_rfl, ?_⟩) (by assumption) ?_; rotate_left; focus (intro w hSw; (try dsimp only at hSw); go_simp; try with_reducible rfl); (try simp only [List.getElem_toArray, List.getElem_cons_succ, List.getElem_cons_zero, Act.put, List.setIfInBounds_toArray, List.set_cons_zero, List.set_cons_succ]))
      obtain ⟨q0, q1, f0, f1⟩ := HF.out.1.res
      refine wpAnyH_ready (rs := [10]) (by kernel_rfl) (by simp) ?_; refine AllReadyH.cons rfl (fun K hK => ?_) AllReadyH.nil
      go_simp
      clear q0 q1 f0 f1
      have KS := Lib.hid (And.intro (HF.out.2.2.2.2.1.cell 0) (And.intro (HF.out.2.2.2.2.1.cell 1) (And.intro (HF.out.2.2.2.2.2.cell 0) (And.intro (HF.out.2.2.2.2.2.cell 1) (HF.out.2.2.2.2.2.cell 2)))))
      first
        | refine hK.out _ _ ⟨KS.out.1, KS.out.2.1, KS.out.2.2.1, KS.out.2.2.2.1, KS.out.2.2.2.2⟩ (fun hHeld => ?_)
        | refine hK _ _ ⟨KS.out.1, KS.out.2.1, KS.out.2.2.1, KS.out.2.2.2.1, KS.out.2.2.2.2⟩ (fun hHeld => ?_)
      clear hK K KS
      (try simp only [List.getElem_toArray, List.getElem_cons_succ, List.getElem_cons_zero, Act.put, List.setIfInBounds_toArray, List.set_cons_zero, List.set_cons_succ])
      (refine wpAnyH_take (i := 11) (v := ?_) rfl (by kernel_rfl) (by kernel_rfl) (by kernel_rfl) (fun _ _ _ h => h) (Or.inl ⟨by kernel_rfl, ?_⟩) (by assumption) ?_; rotate_left; focus (intro w hSw; (try dsimp only at hSw); go_simp; try with_reducible rfl); (try simp only [List.getElem_toArray, List.getElem_cons_succ, List.getElem_cons_zero, Act.put, List.setIfInBounds_toArray, List.set_cons_zero, List.set_cons_succ]))
      clear hHeld
      refine wpAnyH_done (by kernel_rfl) ?_ _
      obtain ⟨r0, r1, -, -⟩ := HF.out.2.2.2.1.two
      go_wp2_with fail
      refine bodyPost_ret (v := .tuple #[.agg #[.int .i64 p, .slice a8 m.length c8], .bool true]) ?_ rfl ⟨a8, c8, rfl, HF.out.2.1, HF.out.2.2.1⟩
      simp [results, Try.results19, go_sem, *]
end Go.Proofs.Ytbbojebonknklaa
