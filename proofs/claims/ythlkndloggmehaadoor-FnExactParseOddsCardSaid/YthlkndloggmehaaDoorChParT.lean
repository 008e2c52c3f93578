/-
  Two numbers out of the pieces of a text: the model's region in all its orders.
-/
import Derived.Test.YthlkndloggmehaaDoorChParS
namespace Go.Proofs.YthlkndloggmehaaDoor
open Go.RowKit
set_option linter.unusedVariables false
set_option linter.unusedSimpArgs false

/-- The pieces lie there, and the result's own block. -/
def SBCh (w : World) (b off : Nat) (p q : ByteArray) (w' : World) : Prop := w'.cell? ⟨b, off, none⟩ = some (.string p) ∧ w'.cell? ⟨b, off + 1, none⟩ = some (.string q) ∧ b < w'.heap.size ∧ Below w.heap.size w w' ∧ ObAt w' w.heap.size 26 #[.int .i64 0, .int .i64 0]
theorem SBCh.keep {w : World} {b off : Nat} {p q : ByteArray} {X Y : World} (h : SBCh w b off p q X) (bd : Below X.heap.size X Y) : SBCh w b off p q Y := by
  obtain ⟨h0, h1, h2, h3, h4⟩ := h
  refine ⟨?_, ?_, Nat.lt_of_lt_of_le h2 bd.size, h3.trans (bd.mono h3.size), h4.keep bd⟩
  · rw [bd.cell (p := ⟨b, off, none⟩) h2]; exact h0
  · rw [bd.cell (p := ⟨b, off + 1, none⟩) h2]; exact h1
theorem SBCh.drew {w : World} {b off : Nat} {p q : ByteArray} {X : World} (h : SBCh w b off p q X) : SBCh w b off p q X.drew := ⟨h.1, h.2.1, h.2.2.1, Below.drew h.2.2.2.1, h.2.2.2.2.drew⟩
theorem SBCh.full {w : World} {b off : Nat} {p q : ByteArray} {X : World} (h : SBCh w b off p q X) : X.cell? ⟨b, off, none⟩ = some (.string p) ∧ X.cell? ⟨b, off + 1, none⟩ = some (.string q) ∧ SBCh w b off p q X := ⟨h.1, h.2.1, h⟩
theorem SBCh.puts {w : World} {b off : Nat} {p q : ByteArray} {X : World} {N : Nat} (h : SBCh w b off p q X) (hb : b ≠ N) (hN : w.heap.size < N) (x y : Int) : SBCh w b off p q ((X.setCell ⟨N, 0, none⟩ (.int .i64 x)).setCell ⟨N, 1, none⟩ (.int .i64 y)) := by
  obtain ⟨h0, h1, h2, h3, h4⟩ := h
  refine ⟨?_, ?_, by simpa using h2, (h3.setCell (p := ⟨N, 0, none⟩) (by simp only; omega) _).setCell (p := ⟨N, 1, none⟩) (by simp only; omega) _, (h4.other (by omega) _).other (by omega) _⟩
  · rw [World.cell?_setCell_other _ _ _ _ (by intro e; injection e; omega), World.cell?_setCell_other _ _ _ _ (by intro e; injection e; omega)]; exact h0
  · rw [World.cell?_setCell_other _ _ _ _ (by intro e; injection e; omega), World.cell?_setCell_other _ _ _ _ (by intro e; injection e; omega)]; exact h1

set_option maxHeartbeats 3200000 in
set_option maxRecDepth 100000 in
theorem parse_twoCh (s p q : ByteArray) (x y : Int) (h5 : s.size ≤ 5) (hp : p.size ≤ s.size) (hq : q.size ≤ s.size) (rp : readL p.data.toList = x) (rq : readL q.data.toList = y)
    (hsp : ∀ w : World, Calls Tryd.prog 61 #[.string s, .int .u8 47] w fun e w' => ∃ v, e = .returned v ∧ w'.ownsRow w.heap.size 9 1 v 2 (strS [p, q]) ∧ Below w.heap.size w w') (o : Bool) (hg : goodO x y = o) (w : World) :
    Calls Tryd.prog 35 #[.string s] w fun e w' => e = .returned (.tuple #[.agg #[.int .i64 (if o then x else 0), .int .i64 (if o then y else 0)], .bool o]) ∧ Below w.heap.size w w' := by
  have lp := fun w => l1Read_any p (by omega) w
  have lq := fun w => l1Read_any q (by omega) w
  rw [rp] at lp
  rw [rq] at lq
  have HL := Lib.hid (And.intro lp lq); clear lp lq rp rq
  have HSP := Lib.hid hsp; clear hsp
  have HG := Lib.hid (fun w => chGood_any x y w)
  rw [hg] at HG; clear hg
  have d5 : ¬ (5 : Int) < (s.size : Int) := by omega
  clear hp hq h5
  go_enter Tryd.func35, Tryd.ntmps35
  go_wp2_with fail
  have P0 := ObAt.new w 26 #[.int .i64 0, .int .i64 0]
  have B0 := Below.ofNew (w := w) (.cells #[.int .i64 0, .int .i64 0] 26)
  refine (HSP.out _).mono ?_; rintro e w1 ⟨v, rfl, hown, hbel⟩
  have P1 := P0.keep hbel
  have B1 := B0.trans (hbel.mono B0.size)
  have hlt : w.heap.size < w1.heap.size := by have := hbel.size; simp at this; omega
  clear hbel P0 B0
  obtain ⟨a, c, rfl, hrd, -, -, -⟩ := Reads.own hown
  clear hown
  rcases hrd with hr | ⟨b, off, rfl, hlb, hc⟩
  · simp [strS] at hr
  have c0 := hc 0 (by simp [strS])
  have c1 := hc 1 (by simp [strS])
  rw [show (strS [p, q])[0]? = some (.string p) from rfl] at c0
  rw [show (strS [p, q])[1]? = some (.string q) from rfl] at c1
  clear hc
  simp only [Nat.add_zero] at c0
  have HS : Hid (SBCh w b off p q w1 ∧ w.heap.size < w1.heap.size) := Lib.hid ⟨⟨c0, c1, hlb, B1, P1⟩, hlt⟩
  clear c0 c1 hlb B1 P1 hlt
  go_wp2_with fail
  refine wp_region_held_drew (S := fun w' => w'.cell? ⟨b, off, none⟩ = some (.string p) ∧ w'.cell? ⟨b, off + 1, none⟩ = some (.string q) ∧ SBCh w b off p q w') (by kernel_rfl) ⟨HS.out.1.1, HS.out.1.2.1, HS.out.1.1, HS.out.1.2.1, HS.out.1.2.2.1, Below.drew HS.out.1.2.2.2.1, HS.out.1.2.2.2.2⟩ (fun hHeld => ?_)
  (refine wpAnyH_take (i := 0) (v := ?_) rfl (by kernel_rfl) (by kernel_rfl) (by kernel_rfl) (fun _ _ _ h => h) (Or.inl ⟨by kernel_rfl, ?_⟩) (by assumption) ?_; rotate_left; focus (intro w hSw; (try dsimp only at hSw); go_simp; try with_reducible rfl); (try simp only [List.getElem_toArray, List.getElem_cons_succ, List.getElem_cons_zero, Act.put, List.setIfInBounds_toArray, List.set_cons_zero, List.set_cons_succ])); (refine wpAnyH_take (i := 1) (v := ?_) rfl (by kernel_rfl) (by kernel_rfl) (by kernel_rfl) (fun _ _ _ h => h) (Or.inl ⟨by kernel_rfl, ?_⟩) (by assumption) ?_; rotate_left; focus (intro w hSw; (try dsimp only at hSw); go_simp; try with_reducible rfl); (try simp only [List.getElem_toArray, List.getElem_cons_succ, List.getElem_cons_zero, Act.put, List.setIfInBounds_toArray, List.set_cons_zero, List.set_cons_succ])); (refine wpAnyH_take (i := 2) (v := ?_) rfl (by kernel_rfl) (by kernel_rfl) (by kernel_rfl) (fun _ _ _ h => h) (Or.inl ⟨by kernel_rfl, ?_⟩) (by assumption) ?_; rotate_left; focus (intro w hSw; (try dsimp only at hSw); go_simp; try with_reducible rfl); (try simp only [List.getElem_toArray, List.getElem_cons_succ, List.getElem_cons_zero, Act.put, List.setIfInBounds_toArray, List.set_cons_zero, List.set_cons_succ])); (refine wpAnyH_take (i := 4) (v := ?_) rfl (by kernel_rfl) (by kernel_rfl) (by kernel_rfl) (fun _ _ _ h => h) (Or.inl ⟨by kernel_rfl, ?_⟩) (by assumption) ?_; rotate_left; focus (intro w hSw; (try dsimp only at hSw); go_simp; try with_reducible rfl); (try simp only [List.getElem_toArray, List.getElem_cons_succ, List.getElem_cons_zero, Act.put, List.setIfInBounds_toArray, List.set_cons_zero, List.set_cons_succ])); (refine wpAnyH_take (i := 5) (v := ?_) rfl (by kernel_rfl) (by kernel_rfl) (by kernel_rfl) (fun _ _ _ h => h) (Or.inl ⟨by kernel_rfl, ?_⟩) (by assumption) ?_; rotate_left; focus (intro w hSw; (try dsimp only at hSw); go_simp; try with_reducible rfl); (try simp only [List.getElem_toArray, List.getElem_cons_succ, List.getElem_cons_zero, Act.put, List.setIfInBounds_toArray, List.set_cons_zero, List.set_cons_succ])); (refine wpAnyH_take (i := 6) (v := ?_) rfl (by kernel_rfl) (by kernel_rfl) (by kernel_rfl) (fun _ _ _ h => h) (Or.inl ⟨by kernel_rfl, ?_⟩) (by assumption) ?_; rotate_left; focus (intro w hSw; (try dsimp only at hSw); go_simp; try with_reducible rfl); (try simp only [List.getElem_toArray, List.getElem_cons_succ, List.getElem_cons_zero, Act.put, List.setIfInBounds_toArray, List.set_cons_zero, List.set_cons_succ]))
  refine wpAnyH_ready (rs := [3, 9]) (by kernel_rfl) (by simp) (AllReadyH.cons rfl (fun K hK => ?_) (AllReadyH.cons rfl (fun K hK => ?_) AllReadyH.nil))
  · go_simp
    go_at_call 62
    refine (HL.out.1 _).mono ?_; rintro e w4 ⟨rfl, rfl⟩
    have KS := Lib.hid hHeld.2.2.full; clear hHeld
    go_wp2_with fail
    first
      | refine hK.out _ _ KS.out (fun hHeld => ?_)
      | refine hK _ _ KS.out (fun hHeld => ?_)
    clear hK K KS
    (try simp only [List.getElem_toArray, List.getElem_cons_succ, List.getElem_cons_zero, Act.put, List.setIfInBounds_toArray, List.set_cons_zero, List.set_cons_succ])
    refine wpAnyH_ready (rs := [7, 9]) (by kernel_rfl) (by simp) (AllReadyH.cons rfl (fun K hK => ?_) (AllReadyH.cons rfl (fun K hK => ?_) AllReadyH.nil))
    · go_simp
      go_at_call 62
      refine (HL.out.2 _).mono ?_; rintro e w4 ⟨rfl, rfl⟩
      have KS := Lib.hid hHeld.2.2.full; clear hHeld
      go_wp2_with fail
      first
        | refine hK.out _ _ KS.out (fun hHeld => ?_)
        | refine hK _ _ KS.out (fun hHeld => ?_)
      clear hK K KS
      (try simp only [List.getElem_toArray, List.getElem_cons_succ, List.getElem_cons_zero, Act.put, List.setIfInBounds_toArray, List.set_cons_zero, List.set_cons_succ])
      (refine wpAnyH_take (i := 8) (v := ?_) rfl (by kernel_rfl) (by kernel_rfl) (by kernel_rfl) (fun _ _ _ h => h) (Or.inl ⟨by kernel_rfl, ?_⟩) (by assumption) ?_; rotate_left; focus (intro w hSw; (try dsimp only at hSw); go_simp; try with_reducible rfl); (try simp only [List.getElem_toArray, List.getElem_cons_succ, List.getElem_cons_zero, Act.put, List.setIfInBounds_toArray, List.set_cons_zero, List.set_cons_succ]))
      refine wpAnyH_ready (rs := [9]) (by kernel_rfl) (by simp) (AllReadyH.cons rfl (fun K hK => ?_) AllReadyH.nil)
      go_simp
      have KS := Lib.hid ((hHeld.2.2.keep (Below.ofNew (.cells #[.int .i64 0, .int .i64 0] 26))).full)
      clear hHeld
      first
        | refine hK.out _ _ KS.out (fun hHeld => ?_)
        | refine hK _ _ KS.out (fun hHeld => ?_)
      clear hK K KS
      (try simp only [List.getElem_toArray, List.getElem_cons_succ, List.getElem_cons_zero, Act.put, List.setIfInBounds_toArray, List.set_cons_zero, List.set_cons_succ])
      have K9 := ObAt.new w1.drew 26 #[.int .i64 0, .int .i64 0]
      clear hHeld
      obtain ⟨z0, z1, z2, z3⟩ := K9.two
      have KBH : Hid (ObAt (w1.alloc (.cells #[.int .i64 x, .int .i64 y] 26)).drew w1.heap.size 26 #[.int .i64 x, .int .i64 y]) := Lib.hid (ObAt.new w1 26 #[.int .i64 x, .int .i64 y]).drew
      have KS := Lib.hid ((HS.out.1.keep (Below.ofNew (.cells #[.int .i64 x, .int .i64 y] 26))).drew.full)
      clear K9
      refine wpAnyH_ready (rs := [10]) (by kernel_rfl) (by simp) ?_; refine AllReadyH.cons rfl (fun K hK => ?_) AllReadyH.nil
      go_simp
      clear z0 z1 z2 z3
      first
        | refine hK.out _ _ KS.out (fun hHeld => ?_)
        | refine hK _ _ KS.out (fun hHeld => ?_)
      clear hK K hHeld
      refine wpAnyH_done (by kernel_rfl) ?_ _
      obtain ⟨y0, y1, y2, y3⟩ := KBH.out.two
      go_wp2_with fail
      refine (HG.out _).mono ?_; rintro e w5 ⟨rfl, b5⟩
      have P3 := KS.out.2.2.2.2.2.2.keep b5
      have P2 := KBH.out.keep b5
      have B2 := Lib.hid (KS.out.2.2.2.2.2.1.trans (b5.mono KS.out.2.2.2.2.2.1.size)); clear b5 KS KBH y0 y1 y2 y3
      obtain ⟨y0, y1, y2, y3⟩ := P3.two
      obtain ⟨z0, z1, z2, z3⟩ := P2.two
      cases o
      · have HQ := Lib.hid ((P3.put 0 (.int .i64 0)).put 1 (.int .i64 0)).two; clear P2 P3
        go_wp2_with fail
        obtain ⟨q0, q1, q2, q3⟩ := HQ.out
        refine bodyPost_ret (v := .tuple #[.agg #[.int .i64 0, .int .i64 0], .bool false]) (by simp [results, Tryd.results35, go_sem, q0, q1]) rfl ⟨rfl, ?_⟩
        exact (B2.out.setCell (p := ⟨w.heap.size, 0, none⟩) (Nat.le_refl _) _).setCell (p := ⟨w.heap.size, 1, none⟩) (Nat.le_refl _) _
      · have HQ := Lib.hid ((P3.put 0 (.int .i64 x)).put 1 (.int .i64 y)).two; clear P2 P3
        go_wp2_with fail
        obtain ⟨q0, q1, q2, q3⟩ := HQ.out
        refine bodyPost_ret (v := .tuple #[.agg #[.int .i64 x, .int .i64 y], .bool true]) (by simp [results, Tryd.results35, go_sem, q0, q1]) rfl ⟨rfl, ?_⟩
        exact (B2.out.setCell (p := ⟨w.heap.size, 0, none⟩) (Nat.le_refl _) _).setCell (p := ⟨w.heap.size, 1, none⟩) (Nat.le_refl _) _
      
    · go_simp
      have KS := Lib.hid ((hHeld.2.2.keep (Below.ofNew (.cells #[.int .i64 0, .int .i64 0] 26))).full)
      clear hHeld
      first
        | refine hK.out _ _ KS.out (fun hHeld => ?_)
        | refine hK _ _ KS.out (fun hHeld => ?_)
      clear hK K KS
      (try simp only [List.getElem_toArray, List.getElem_cons_succ, List.getElem_cons_zero, Act.put, List.setIfInBounds_toArray, List.set_cons_zero, List.set_cons_succ])
      refine wpAnyH_ready (rs := [7]) (by kernel_rfl) (by simp) (AllReadyH.cons rfl (fun K hK => ?_) AllReadyH.nil)
      go_simp
      go_at_call 62
      refine (HL.out.2 _).mono ?_; rintro e w4 ⟨rfl, rfl⟩
      have KS := Lib.hid hHeld.2.2.full; clear hHeld
      go_wp2_with fail
      first
        | refine hK.out _ _ KS.out (fun hHeld => ?_)
        | refine hK _ _ KS.out (fun hHeld => ?_)
      clear hK K KS
      (try simp only [List.getElem_toArray, List.getElem_cons_succ, List.getElem_cons_zero, Act.put, List.setIfInBounds_toArray, List.set_cons_zero, List.set_cons_succ])
      (refine wpAnyH_take (i := 8) (v := ?_) rfl (by kernel_rfl) (by kernel_rfl) (by kernel_rfl) (fun _ _ _ h => h) (Or.inl ⟨by kernel_rfl, ?_⟩) (by assumption) ?_; rotate_left; focus (intro w hSw; (try dsimp only at hSw); go_simp; try with_reducible rfl); (try simp only [List.getElem_toArray, List.getElem_cons_succ, List.getElem_cons_zero, Act.put, List.setIfInBounds_toArray, List.set_cons_zero, List.set_cons_succ]))
      have K9 := ObAt.new w1.drew 26 #[.int .i64 0, .int .i64 0]
      clear hHeld
      obtain ⟨z0, z1, z2, z3⟩ := K9.two
      have KBH : Hid (ObAt (w1.alloc (.cells #[.int .i64 x, .int .i64 y] 26)).drew w1.heap.size 26 #[.int .i64 x, .int .i64 y]) := Lib.hid (ObAt.new w1 26 #[.int .i64 x, .int .i64 y]).drew
      have KS := Lib.hid ((HS.out.1.keep (Below.ofNew (.cells #[.int .i64 x, .int .i64 y] 26))).drew.full)
      clear K9
      refine wpAnyH_ready (rs := [10]) (by kernel_rfl) (by simp) ?_; refine AllReadyH.cons rfl (fun K hK => ?_) AllReadyH.nil
      go_simp
      clear z0 z1 z2 z3
      first
        | refine hK.out _ _ KS.out (fun hHeld => ?_)
        | refine hK _ _ KS.out (fun hHeld => ?_)
      clear hK K hHeld
      refine wpAnyH_done (by kernel_rfl) ?_ _
      obtain ⟨y0, y1, y2, y3⟩ := KBH.out.two
      go_wp2_with fail
      refine (HG.out _).mono ?_; rintro e w5 ⟨rfl, b5⟩
      have P3 := KS.out.2.2.2.2.2.2.keep b5
      have P2 := KBH.out.keep b5
      have B2 := Lib.hid (KS.out.2.2.2.2.2.1.trans (b5.mono KS.out.2.2.2.2.2.1.size)); clear b5 KS KBH y0 y1 y2 y3
      obtain ⟨y0, y1, y2, y3⟩ := P3.two
      obtain ⟨z0, z1, z2, z3⟩ := P2.two
      cases o
      · have HQ := Lib.hid ((P3.put 0 (.int .i64 0)).put 1 (.int .i64 0)).two; clear P2 P3
        go_wp2_with fail
        obtain ⟨q0, q1, q2, q3⟩ := HQ.out
        refine bodyPost_ret (v := .tuple #[.agg #[.int .i64 0, .int .i64 0], .bool false]) (by simp [results, Tryd.results35, go_sem, q0, q1]) rfl ⟨rfl, ?_⟩
        exact (B2.out.setCell (p := ⟨w.heap.size, 0, none⟩) (Nat.le_refl _) _).setCell (p := ⟨w.heap.size, 1, none⟩) (Nat.le_refl _) _
      · have HQ := Lib.hid ((P3.put 0 (.int .i64 x)).put 1 (.int .i64 y)).two; clear P2 P3
        go_wp2_with fail
        obtain ⟨q0, q1, q2, q3⟩ := HQ.out
        refine bodyPost_ret (v := .tuple #[.agg #[.int .i64 x, .int .i64 y], .bool true]) (by simp [results, Tryd.results35, go_sem, q0, q1]) rfl ⟨rfl, ?_⟩
        exact (B2.out.setCell (p := ⟨w.heap.size, 0, none⟩) (Nat.le_refl _) _).setCell (p := ⟨w.heap.size, 1, none⟩) (Nat.le_refl _) _
      
  · go_simp
    have KS := Lib.hid ((hHeld.2.2.keep (Below.ofNew (.cells #[.int .i64 0, .int .i64 0] 26))).full)
    clear hHeld
    first
      | refine hK.out _ _ KS.out (fun hHeld => ?_)
      | refine hK _ _ KS.out (fun hHeld => ?_)
    clear hK K KS
    (try simp only [List.getElem_toArray, List.getElem_cons_succ, List.getElem_cons_zero, Act.put, List.setIfInBounds_toArray, List.set_cons_zero, List.set_cons_succ])
    refine wpAnyH_ready (rs := [3]) (by kernel_rfl) (by simp) (AllReadyH.cons rfl (fun K hK => ?_) AllReadyH.nil)
    go_simp
    go_at_call 62
    refine (HL.out.1 _).mono ?_; rintro e w4 ⟨rfl, rfl⟩
    have KS := Lib.hid hHeld.2.2.full; clear hHeld
    go_wp2_with fail
    first
      | refine hK.out _ _ KS.out (fun hHeld => ?_)
      | refine hK _ _ KS.out (fun hHeld => ?_)
    clear hK K KS
    (try simp only [List.getElem_toArray, List.getElem_cons_succ, List.getElem_cons_zero, Act.put, List.setIfInBounds_toArray, List.set_cons_zero, List.set_cons_succ])
    refine wpAnyH_ready (rs := [7]) (by kernel_rfl) (by simp) (AllReadyH.cons rfl (fun K hK => ?_) AllReadyH.nil)
    go_simp
    go_at_call 62
    refine (HL.out.2 _).mono ?_; rintro e w4 ⟨rfl, rfl⟩
    have KS := Lib.hid hHeld.2.2.full; clear hHeld
    go_wp2_with fail
    first
      | refine hK.out _ _ KS.out (fun hHeld => ?_)
      | refine hK _ _ KS.out (fun hHeld => ?_)
    clear hK K KS
    (try simp only [List.getElem_toArray, List.getElem_cons_succ, List.getElem_cons_zero, Act.put, List.setIfInBounds_toArray, List.set_cons_zero, List.set_cons_succ])
    (refine wpAnyH_take (i := 8) (v := ?_) rfl (by kernel_rfl) (by kernel_rfl) (by kernel_rfl) (fun _ _ _ h => h) (Or.inl ⟨by kernel_rfl, ?_⟩) (by assumption) ?_; rotate_left; focus (intro w hSw; (try dsimp only at hSw); go_simp; try with_reducible rfl); (try simp only [List.getElem_toArray, List.getElem_cons_succ, List.getElem_cons_zero, Act.put, List.setIfInBounds_toArray, List.set_cons_zero, List.set_cons_succ]))
    have K9 := ObAt.new w1.drew 26 #[.int .i64 0, .int .i64 0]
    clear hHeld
    obtain ⟨z0, z1, z2, z3⟩ := K9.two
    have KBH : Hid (ObAt (w1.alloc (.cells #[.int .i64 x, .int .i64 y] 26)).drew w1.heap.size 26 #[.int .i64 x, .int .i64 y]) := Lib.hid (ObAt.new w1 26 #[.int .i64 x, .int .i64 y]).drew
    have KS := Lib.hid ((HS.out.1.keep (Below.ofNew (.cells #[.int .i64 x, .int .i64 y] 26))).drew.full)
    clear K9
    refine wpAnyH_ready (rs := [10]) (by kernel_rfl) (by simp) ?_; refine AllReadyH.cons rfl (fun K hK => ?_) AllReadyH.nil
    go_simp
    clear z0 z1 z2 z3
    first
      | refine hK.out _ _ KS.out (fun hHeld => ?_)
      | refine hK _ _ KS.out (fun hHeld => ?_)
    clear hK K hHeld
    refine wpAnyH_done (by kernel_rfl) ?_ _
    obtain ⟨y0, y1, y2, y3⟩ := KBH.out.two
    go_wp2_with fail
    refine (HG.out _).mono ?_; rintro e w5 ⟨rfl, b5⟩
    have P3 := KS.out.2.2.2.2.2.2.keep b5
    have P2 := KBH.out.keep b5
    have B2 := Lib.hid (KS.out.2.2.2.2.2.1.trans (b5.mono KS.out.2.2.2.2.2.1.size)); clear b5 KS KBH y0 y1 y2 y3
    obtain ⟨y0, y1, y2, y3⟩ := P3.two
    obtain ⟨z0, z1, z2, z3⟩ := P2.two
    cases o
    · have HQ := Lib.hid ((P3.put 0 (.int .i64 0)).put 1 (.int .i64 0)).two; clear P2 P3
      go_wp2_with fail
      obtain ⟨q0, q1, q2, q3⟩ := HQ.out
      refine bodyPost_ret (v := .tuple #[.agg #[.int .i64 0, .int .i64 0], .bool false]) (by simp [results, Tryd.results35, go_sem, q0, q1]) rfl ⟨rfl, ?_⟩
      exact (B2.out.setCell (p := ⟨w.heap.size, 0, none⟩) (Nat.le_refl _) _).setCell (p := ⟨w.heap.size, 1, none⟩) (Nat.le_refl _) _
    · have HQ := Lib.hid ((P3.put 0 (.int .i64 x)).put 1 (.int .i64 y)).two; clear P2 P3
      go_wp2_with fail
      obtain ⟨q0, q1, q2, q3⟩ := HQ.out
      refine bodyPost_ret (v := .tuple #[.agg #[.int .i64 x, .int .i64 y], .bool true]) (by simp [results, Tryd.results35, go_sem, q0, q1]) rfl ⟨rfl, ?_⟩
      exact (B2.out.setCell (p := ⟨w.heap.size, 0, none⟩) (Nat.le_refl _) _).setCell (p := ⟨w.heap.size, 1, none⟩) (Nat.le_refl _) _
    
end Go.Proofs.YthlkndloggmehaaDoor
