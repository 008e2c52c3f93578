/-
  Two numbers out of the pieces of a text: the model's region in all its orders.
-/
import Derived.Test.YthlkndloggmehaaDoorRaParS
namespace Go.Proofs.YthlkndloggmehaaDoor
open Go.RowKit
set_option linter.unusedVariables false
set_option linter.unusedSimpArgs false

/-- The pieces lie there, and the result's own block. -/
def SBRa (w : World) (b off : Nat) (p q : ByteArray) (w' : World) : Prop := w'.cell? ⟨b, off, none⟩ = some (.string p) ∧ w'.cell? ⟨b, off + 1, none⟩ = some (.string q) ∧ b < w'.heap.size ∧ Below w.heap.size w w' ∧ ObAt w' w.heap.size 37 #[.int .i64 0, .int .i64 0]
theorem SBRa.keep {w : World} {b off : Nat} {p q : ByteArray} {X Y : World} (h : SBRa w b off p q X) (bd : Below X.heap.size X Y) : SBRa w b off p q Y := by
  obtain ⟨h0, h1, h2, h3, h4⟩ := h
  refine ⟨?_, ?_, Nat.lt_of_lt_of_le h2 bd.size, h3.trans (bd.mono h3.size), h4.keep bd⟩
  · rw [bd.cell (p := ⟨b, off, none⟩) h2]; exact h0
  · rw [bd.cell (p := ⟨b, off + 1, none⟩) h2]; exact h1
theorem SBRa.drew {w : World} {b off : Nat} {p q : ByteArray} {X : World} (h : SBRa w b off p q X) : SBRa w b off p q X.drew := ⟨h.1, h.2.1, h.2.2.1, Below.drew h.2.2.2.1, h.2.2.2.2.drew⟩
theorem SBRa.full {w : World} {b off : Nat} {p q : ByteArray} {X : World} (h : SBRa w b off p q X) : X.cell? ⟨b, off, none⟩ = some (.string p) ∧ X.cell? ⟨b, off + 1, none⟩ = some (.string q) ∧ SBRa w b off p q X := ⟨h.1, h.2.1, h⟩
theorem SBRa.puts {w : World} {b off : Nat} {p q : ByteArray} {X : World} {N : Nat} (h : SBRa w b off p q X) (hb : b ≠ N) (hN : w.heap.size < N) (x y : Int) : SBRa w b off p q ((X.setCell ⟨N, 0, none⟩ (.int .i64 x)).setCell ⟨N, 1, none⟩ (.int .i64 y)) := by
  obtain ⟨h0, h1, h2, h3, h4⟩ := h
  refine ⟨?_, ?_, by simpa using h2, (h3.setCell (p := ⟨N, 0, none⟩) (by simp only; omega) _).setCell (p := ⟨N, 1, none⟩) (by simp only; omega) _, (h4.other (by omega) _).other (by omega) _⟩
  · rw [World.cell?_setCell_other _ _ _ _ (by intro e; injection e; omega), World.cell?_setCell_other _ _ _ _ (by intro e; injection e; omega)]; exact h0
  · rw [World.cell?_setCell_other _ _ _ _ (by intro e; injection e; omega), World.cell?_setCell_other _ _ _ _ (by intro e; injection e; omega)]; exact h1

theorem rt_keep {w X Y : World} {g h : Nat} {a b : Value} {T : TypeId} (bd : Below X.heap.size X Y) (H : X.cell? ⟨g, 0, none⟩ = some a ∧ X.cell? ⟨g, 1, none⟩ = some b ∧ g < X.heap.size ∧ Below w.heap.size w X ∧ ∃ x y, ObAt X h T #[.int .i64 x, .int .i64 y]) :
    Y.cell? ⟨g, 0, none⟩ = some a ∧ Y.cell? ⟨g, 1, none⟩ = some b ∧ g < Y.heap.size ∧ Below w.heap.size w Y ∧ ∃ x y, ObAt Y h T #[.int .i64 x, .int .i64 y] := by
  obtain ⟨h0, h1, h2, h3, x, y, h4⟩ := H
  refine ⟨?_, ?_, Nat.lt_of_lt_of_le h2 bd.size, h3.trans (bd.mono h3.size), x, y, h4.keep bd⟩
  · rw [bd.cell (p := ⟨g, 0, none⟩) h2]; exact h0
  · rw [bd.cell (p := ⟨g, 1, none⟩) h2]; exact h1

set_option maxHeartbeats 6400000 in
set_option maxRecDepth 100000 in
theorem parse_twoRa (s p q : ByteArray) (x y : Int) (h5 : s.size ≤ 4) (hp : p.size ≤ s.size) (hq : q.size ≤ s.size) (rp : readL p.data.toList = x) (rq : readL q.data.toList = y)
    (hsp : ∀ w : World, Calls Tryd.prog 61 #[.string s, .int .u8 43] w fun e w' => ∃ v, e = .returned v ∧ w'.ownsRow w.heap.size 9 1 v 2 (strS [p, q]) ∧ Below w.heap.size w w') (o : Bool) (hg : (goodR x y && decide (textRa x.toNat y.toNat = s.data.toList)) = o) (w : World) :
    Calls Tryd.prog 53 #[.string s] w fun e w' => e = .returned (.tuple #[.agg #[.int .i64 x, .int .i64 y], .bool o]) ∧ Below w.heap.size w w' := by
  have lp := fun w => l1Read_any p (by omega) w
  have lq := fun w => l1Read_any q (by omega) w
  rw [rp] at lp
  rw [rq] at lq
  have HL := Lib.hid (And.intro lp lq); clear lp lq rp rq
  have HSP := Lib.hid hsp; clear hsp
  have HG := Lib.hid (fun w => raGood_any x y w)
  have d5 : ¬ (4 : Int) < (s.size : Int) := by omega
  clear hp hq h5
  go_enter Tryd.func53, Tryd.ntmps53
  go_wp2_with fail
  have P0 := ObAt.new w 37 #[.int .i64 0, .int .i64 0]
  have B0 := Below.ofNew (w := w) (.cells #[.int .i64 0, .int .i64 0] 37)
  refine (HSP.out _).mono ?_; rintro e w1 ⟨v, rfl, hown, hbel⟩
  have P1 := P0.keep hbel
  have B1 := B0.trans (hbel.mono B0.size)
  have hlt : w.heap.size < w1.heap.size := by have := hbel.size; simp at this; omega
  clear hbel P0 B0
  obtain ⟨a, c, rfl, hrd, -, -, -⟩ := Reads.own hown
  clear hown
  rcases hrd with hr | ⟨b, off, rfl, hlb, hc⟩
  · simp [strS] at hr
  have c0 := hc 0 (by simp [strS])
  have c1 := hc 1 (by simp [strS])
  rw [show (strS [p, q])[0]? = some (.string p) from rfl] at c0
  rw [show (strS [p, q])[1]? = some (.string q) from rfl] at c1
  clear hc
  simp only [Nat.add_zero] at c0
  have HS : Hid (SBRa w b off p q w1 ∧ w.heap.size < w1.heap.size) := Lib.hid ⟨⟨c0, c1, hlb, B1, P1⟩, hlt⟩
  clear c0 c1 hlb B1 P1 hlt
  go_wp2_with fail
  refine wp_region_held_drew (S := fun w' => w'.cell? ⟨b, off, none⟩ = some (.string p) ∧ w'.cell? ⟨b, off + 1, none⟩ = some (.string q) ∧ SBRa w b off p q w') (by kernel_rfl) ⟨HS.out.1.1, HS.out.1.2.1, HS.out.1.1, HS.out.1.2.1, HS.out.1.2.2.1, Below.drew HS.out.1.2.2.2.1, HS.out.1.2.2.2.2⟩ (fun hHeld => ?_)
  (refine wpAnyH_take (i := 0) (v := ?_) rfl (by kernel_rfl) (by kernel_rfl) (by kernel_rfl) (fun _ _ _ h => h) (Or.inl ⟨by kernel_rfl, ?_⟩) (by assumption) ?_; rotate_left; focus (intro w hSw; (try dsimp only at hSw); go_simp; try with_reducible rfl); (try simp only [List.getElem_toArray, List.getElem_cons_succ, List.getElem_cons_zero, Act.put, List.setIfInBounds_toArray, List.set_cons_zero, List.set_cons_succ])); (refine wpAnyH_take (i := 1) (v := ?_) rfl (by kernel_rfl) (by kernel_rfl) (by kernel_rfl) (fun _ _ _ h => h) (Or.inl ⟨by kernel_rfl, ?_⟩) (by assumption) ?_; rotate_left; focus (intro w hSw; (try dsimp only at hSw); go_simp; try with_reducible rfl); (try simp only [List.getElem_toArray, List.getElem_cons_succ, List.getElem_cons_zero, Act.put, List.setIfInBounds_toArray, List.set_cons_zero, List.set_cons_succ])); (refine wpAnyH_take (i := 2) (v := ?_) rfl (by kernel_rfl) (by kernel_rfl) (by kernel_rfl) (fun _ _ _ h => h) (Or.inl ⟨by kernel_rfl, ?_⟩) (by assumption) ?_; rotate_left; focus (intro w hSw; (try dsimp only at hSw); go_simp; try with_reducible rfl); (try simp only [List.getElem_toArray, List.getElem_cons_succ, List.getElem_cons_zero, Act.put, List.setIfInBounds_toArray, List.set_cons_zero, List.set_cons_succ])); (refine wpAnyH_take (i := 4) (v := ?_) rfl (by kernel_rfl) (by kernel_rfl) (by kernel_rfl) (fun _ _ _ h => h) (Or.inl ⟨by kernel_rfl, ?_⟩) (by assumption) ?_; rotate_left; focus (intro w hSw; (try dsimp only at hSw); go_simp; try with_reducible rfl); (try simp only [List.getElem_toArray, List.getElem_cons_succ, List.getElem_cons_zero, Act.put, List.setIfInBounds_toArray, List.set_cons_zero, List.set_cons_succ])); (refine wpAnyH_take (i := 5) (v := ?_) rfl (by kernel_rfl) (by kernel_rfl) (by kernel_rfl) (fun _ _ _ h => h) (Or.inl ⟨by kernel_rfl, ?_⟩) (by assumption) ?_; rotate_left; focus (intro w hSw; (try dsimp only at hSw); go_simp; try with_reducible rfl); (try simp only [List.getElem_toArray, List.getElem_cons_succ, List.getElem_cons_zero, Act.put, List.setIfInBounds_toArray, List.set_cons_zero, List.set_cons_succ])); (refine wpAnyH_take (i := 6) (v := ?_) rfl (by kernel_rfl) (by kernel_rfl) (by kernel_rfl) (fun _ _ _ h => h) (Or.inl ⟨by kernel_rfl, ?_⟩) (by assumption) ?_; rotate_left; focus (intro w hSw; (try dsimp only at hSw); go_simp; try with_reducible rfl); (try simp only [List.getElem_toArray, List.getElem_cons_succ, List.getElem_cons_zero, Act.put, List.setIfInBounds_toArray, List.set_cons_zero, List.set_cons_succ]))
  refine wpAnyH_ready (rs := [3, 9]) (by kernel_rfl) (by simp) (AllReadyH.cons rfl (fun K hK => ?_) (AllReadyH.cons rfl (fun K hK => ?_) AllReadyH.nil))
  · go_simp
    go_at_call 62
    refine (HL.out.1 _).mono ?_; rintro e w4 ⟨rfl, rfl⟩
    have KS := Lib.hid hHeld.2.2.full; clear hHeld
    go_wp2_with fail
    first
      | refine hK.out _ _ KS.out (fun hHeld => ?_)
      | refine hK _ _ KS.out (fun hHeld => ?_)
    clear hK K KS
    (try simp only [List.getElem_toArray, List.getElem_cons_succ, List.getElem_cons_zero, Act.put, List.setIfInBounds_toArray, List.set_cons_zero, List.set_cons_succ])
    refine wpAnyH_ready (rs := [7, 9]) (by kernel_rfl) (by simp) (AllReadyH.cons rfl (fun K hK => ?_) (AllReadyH.cons rfl (fun K hK => ?_) AllReadyH.nil))
    · go_simp
      go_at_call 62
      refine (HL.out.2 _).mono ?_; rintro e w4 ⟨rfl, rfl⟩
      have KS := Lib.hid hHeld.2.2.full; clear hHeld
      go_wp2_with fail
      first
        | refine hK.out _ _ KS.out (fun hHeld => ?_)
        | refine hK _ _ KS.out (fun hHeld => ?_)
      clear hK K KS
      (try simp only [List.getElem_toArray, List.getElem_cons_succ, List.getElem_cons_zero, Act.put, List.setIfInBounds_toArray, List.set_cons_zero, List.set_cons_succ])
      (refine wpAnyH_take (i := 8) (v := ?_) rfl (by kernel_rfl) (by kernel_rfl) (by kernel_rfl) (fun _ _ _ h => h) (Or.inl ⟨by kernel_rfl, ?_⟩) (by assumption) ?_; rotate_left; focus (intro w hSw; (try dsimp only at hSw); go_simp; try with_reducible rfl); (try simp only [List.getElem_toArray, List.getElem_cons_succ, List.getElem_cons_zero, Act.put, List.setIfInBounds_toArray, List.set_cons_zero, List.set_cons_succ]))
      refine wpAnyH_ready (rs := [9]) (by kernel_rfl) (by simp) (AllReadyH.cons rfl (fun K hK => ?_) AllReadyH.nil)
      go_simp
      have KS := Lib.hid ((hHeld.2.2.keep (Below.ofNew (.cells #[.int .i64 0, .int .i64 0] 37))).full)
      clear hHeld
      first
        | refine hK.out _ _ KS.out (fun hHeld => ?_)
        | refine hK _ _ KS.out (fun hHeld => ?_)
      clear hK K KS
      (try simp only [List.getElem_toArray, List.getElem_cons_succ, List.getElem_cons_zero, Act.put, List.setIfInBounds_toArray, List.set_cons_zero, List.set_cons_succ])
      have K9 := ObAt.new w1.drew 37 #[.int .i64 0, .int .i64 0]
      clear hHeld
      obtain ⟨z0, z1, z2, z3⟩ := K9.two
      have KBH : Hid (ObAt (w1.alloc (.cells #[.int .i64 x, .int .i64 y] 37)).drew w1.heap.size 37 #[.int .i64 x, .int .i64 y]) := Lib.hid (ObAt.new w1 37 #[.int .i64 x, .int .i64 y]).drew
      have KS := Lib.hid ((HS.out.1.keep (Below.ofNew (.cells #[.int .i64 x, .int .i64 y] 37))).drew.full)
      clear K9
      refine wpAnyH_ready (rs := [10]) (by kernel_rfl) (by simp) ?_; refine AllReadyH.cons rfl (fun K hK => ?_) AllReadyH.nil
      go_simp
      clear z0 z1 z2 z3
      first
        | refine hK.out _ _ KS.out (fun hHeld => ?_)
        | refine hK _ _ KS.out (fun hHeld => ?_)
      clear hK K hHeld
      refine wpAnyH_done (by kernel_rfl) ?_ _
      have S5 : Hid ((w1.alloc (.cells #[.int .i64 x, .int .i64 y] 37)).drew.cell? ⟨w1.heap.size, 0, none⟩ = some (.int .i64 x) ∧ (w1.alloc (.cells #[.int .i64 x, .int .i64 y] 37)).drew.cell? ⟨w1.heap.size, 1, none⟩ = some (.int .i64 y) ∧ w1.heap.size < (w1.alloc (.cells #[.int .i64 x, .int .i64 y] 37)).drew.heap.size ∧ Below w.heap.size w (w1.alloc (.cells #[.int .i64 x, .int .i64 y] 37)).drew ∧ ∃ u v, ObAt (w1.alloc (.cells #[.int .i64 x, .int .i64 y] 37)).drew w.heap.size 37 #[.int .i64 u, .int .i64 v]) := ⟨KBH.out.cell 0, KBH.out.cell 1, KBH.out.lt, KS.out.2.2.2.2.2.1, 0, 0, KS.out.2.2.2.2.2.2⟩
      generalize (w1.alloc (.cells #[.int .i64 x, .int .i64 y] 37)).drew = w5 at *
      generalize hB : w1.heap.size = B at *
      have hlt : w.heap.size < B := HS.out.2
      clear KS KBH HS
      cases hgr : goodR x y
      · rw [hgr] at HG hg
        simp only [Bool.false_and] at hg
        subst hg
        go_wp2_with fail
        refine wp_region_held_drew (S := fun w' => w'.cell? ⟨B, 0, none⟩ = some (.int .i64 x) ∧ w'.cell? ⟨B, 1, none⟩ = some (.int .i64 y) ∧ B < w'.heap.size ∧ Below w.heap.size w w' ∧ ∃ u v, ObAt w' w.heap.size 37 #[.int .i64 u, .int .i64 v]) (by kernel_rfl) ⟨S5.out.1, S5.out.2.1, S5.out.2.2.1, Below.drew S5.out.2.2.2.1, S5.out.2.2.2.2⟩ (fun hHeld => ?_)
        (refine wpAnyH_take (i := 0) (v := ?_) rfl (by kernel_rfl) (by kernel_rfl) (by kernel_rfl) (fun _ _ _ h => h) (Or.inl ⟨by kernel_rfl, ?_⟩) (by assumption) ?_; rotate_left; focus (intro w hSw; (try dsimp only at hSw); go_simp; try with_reducible rfl); (try simp only [List.getElem_toArray, List.getElem_cons_succ, List.getElem_cons_zero, Act.put, List.setIfInBounds_toArray, List.set_cons_zero, List.set_cons_succ])); (refine wpAnyH_take (i := 1) (v := ?_) rfl (by kernel_rfl) (by kernel_rfl) (by kernel_rfl) (fun _ _ _ h => h) (Or.inl ⟨by kernel_rfl, ?_⟩) (by assumption) ?_; rotate_left; focus (intro w hSw; (try dsimp only at hSw); go_simp; try with_reducible rfl); (try simp only [List.getElem_toArray, List.getElem_cons_succ, List.getElem_cons_zero, Act.put, List.setIfInBounds_toArray, List.set_cons_zero, List.set_cons_succ]))
        refine wpAnyH_ready (rs := [2]) (by kernel_rfl) (by simp) ?_; refine AllReadyH.cons rfl (fun K hK => ?_) AllReadyH.nil
        go_simp
        go_at_call 45
        refine (HG.out _).mono ?_; rintro e w6 ⟨rfl, bd⟩
        have KS := Lib.hid (rt_keep (T := 37) bd hHeld); clear hHeld bd
        go_wp2_with fail
        refine hK.out _ _ KS.out (fun hHeld => ?_)
        clear hK K KS
        (try simp only [List.getElem_toArray, List.getElem_cons_succ, List.getElem_cons_zero, Act.put, List.setIfInBounds_toArray, List.set_cons_zero, List.set_cons_succ])
        (refine wpAnyH_take (i := 3) (v := ?_) rfl (by kernel_rfl) (by kernel_rfl) (by kernel_rfl) (fun _ _ _ h => h) (Or.inl ⟨by kernel_rfl, ?_⟩) (by assumption) ?_; rotate_left; focus (intro w hSw; (try dsimp only at hSw); go_simp; try with_reducible rfl); (try simp only [List.getElem_toArray, List.getElem_cons_succ, List.getElem_cons_zero, Act.put, List.setIfInBounds_toArray, List.set_cons_zero, List.set_cons_succ]))
        (refine wpAnyH_take (i := 4) (v := undef) rfl (by kernel_rfl) (by kernel_rfl) (by kernel_rfl) (fun _ _ _ h => h) (Or.inr ⟨by kernel_rfl, rfl⟩) (by assumption) ?_; (try simp only [List.getElem_toArray, List.getElem_cons_succ, List.getElem_cons_zero, Act.put, List.setIfInBounds_toArray, List.set_cons_zero, List.set_cons_succ])); (refine wpAnyH_take (i := 5) (v := undef) rfl (by kernel_rfl) (by kernel_rfl) (by kernel_rfl) (fun _ _ _ h => h) (Or.inr ⟨by kernel_rfl, rfl⟩) (by assumption) ?_; (try simp only [List.getElem_toArray, List.getElem_cons_succ, List.getElem_cons_zero, Act.put, List.setIfInBounds_toArray, List.set_cons_zero, List.set_cons_succ])); (refine wpAnyH_take (i := 6) (v := undef) rfl (by kernel_rfl) (by kernel_rfl) (by kernel_rfl) (fun _ _ _ h => h) (Or.inr ⟨by kernel_rfl, rfl⟩) (by assumption) ?_; (try simp only [List.getElem_toArray, List.getElem_cons_succ, List.getElem_cons_zero, Act.put, List.setIfInBounds_toArray, List.set_cons_zero, List.set_cons_succ])); (refine wpAnyH_take (i := 7) (v := undef) rfl (by kernel_rfl) (by kernel_rfl) (by kernel_rfl) (fun _ _ _ h => h) (Or.inr ⟨by kernel_rfl, rfl⟩) (by assumption) ?_; (try simp only [List.getElem_toArray, List.getElem_cons_succ, List.getElem_cons_zero, Act.put, List.setIfInBounds_toArray, List.set_cons_zero, List.set_cons_succ]))
        (refine wpAnyH_take (i := 8) (v := ?_) rfl (by kernel_rfl) (by kernel_rfl) (by kernel_rfl) (fun _ _ _ h => h) (Or.inl ⟨by kernel_rfl, ?_⟩) (by assumption) ?_; rotate_left; focus (intro w hSw; (try dsimp only at hSw); go_simp; try with_reducible rfl); (try simp only [List.getElem_toArray, List.getElem_cons_succ, List.getElem_cons_zero, Act.put, List.setIfInBounds_toArray, List.set_cons_zero, List.set_cons_succ]))
        obtain ⟨h0, h1, h2, h3, u, v, h4⟩ := hHeld
        obtain ⟨z0, z1, z2, z3⟩ := h4.two
        have h5 : ObAt _ w.heap.size 37 #[.int .i64 x, .int .i64 y] := (h4.put 0 (.int .i64 x)).put 1 (.int .i64 y)
        have KS : Hid (((w6.setCell ⟨w.heap.size, 0, none⟩ (.int .i64 x)).setCell ⟨w.heap.size, 1, none⟩ (.int .i64 y)).cell? ⟨B, 0, none⟩ = some (.int .i64 x) ∧ ((w6.setCell ⟨w.heap.size, 0, none⟩ (.int .i64 x)).setCell ⟨w.heap.size, 1, none⟩ (.int .i64 y)).cell? ⟨B, 1, none⟩ = some (.int .i64 y) ∧ B < ((w6.setCell ⟨w.heap.size, 0, none⟩ (.int .i64 x)).setCell ⟨w.heap.size, 1, none⟩ (.int .i64 y)).heap.size ∧ Below w.heap.size w ((w6.setCell ⟨w.heap.size, 0, none⟩ (.int .i64 x)).setCell ⟨w.heap.size, 1, none⟩ (.int .i64 y)) ∧ ∃ u v, ObAt ((w6.setCell ⟨w.heap.size, 0, none⟩ (.int .i64 x)).setCell ⟨w.heap.size, 1, none⟩ (.int .i64 y)) w.heap.size 37 #[.int .i64 u, .int .i64 v]) := by
          refine ⟨?_, ?_, by simpa using h2, (h3.setCell (p := ⟨w.heap.size, 0, none⟩) (by simp) _).setCell (p := ⟨w.heap.size, 1, none⟩) (by simp) _, _, _, h5⟩
          · rw [World.cell?_setCell_other _ _ _ _ (by intro e; injection e; omega), World.cell?_setCell_other _ _ _ _ (by intro e; injection e; omega)]; exact h0
          · rw [World.cell?_setCell_other _ _ _ _ (by intro e; injection e; omega), World.cell?_setCell_other _ _ _ _ (by intro e; injection e; omega)]; exact h1
        have HQ := Lib.hid h5.two
        clear h0 h1 h2 h3 h4 h5
        refine wpAnyH_ready (rs := [9]) (by kernel_rfl) (by simp) ?_; refine AllReadyH.cons rfl (fun K hK => ?_) AllReadyH.nil
        go_simp
        clear z0 z1 z2 z3
        first
          | refine hK.out _ _ KS.out (fun hHeld => ?_)
          | refine hK _ _ KS.out (fun hHeld => ?_)
        clear hK K
        (try simp only [List.getElem_toArray, List.getElem_cons_succ, List.getElem_cons_zero, Act.put, List.setIfInBounds_toArray, List.set_cons_zero, List.set_cons_succ])
        (refine wpAnyH_take (i := 10) (v := ?_) rfl (by kernel_rfl) (by kernel_rfl) (by kernel_rfl) (fun _ _ _ h => h) (Or.inl ⟨by kernel_rfl, ?_⟩) (by assumption) ?_; rotate_left; focus (intro w hSw; (try dsimp only at hSw); go_simp; try with_reducible rfl); (try simp only [List.getElem_toArray, List.getElem_cons_succ, List.getElem_cons_zero, Act.put, List.setIfInBounds_toArray, List.set_cons_zero, List.set_cons_succ]))
        refine wpAnyH_done (by kernel_rfl) ?_ _
        clear hHeld
        go_wp2_with fail
        obtain ⟨q0, q1, q2, q3⟩ := HQ.out
        refine bodyPost_ret (v := .tuple #[.agg #[.int .i64 x, .int .i64 y], .bool false]) (by simp [results, Tryd.results53, go_sem, q0, q1]) rfl ⟨rfl, KS.out.2.2.2.1⟩
      · have hb := goodR_bd.1 hgr
        obtain ⟨a, rfl⟩ : ∃ a : Nat, x = a := ⟨x.toNat, by omega⟩
        obtain ⟨c2, rfl⟩ : ∃ c2 : Nat, y = c2 := ⟨y.toNat, by omega⟩
        have HT := Lib.hid (fun w => specTextRa a c2 (by omega) (by omega) w)
        rw [hgr] at HG hg
        have hq := eq_listRa (textRa a c2) s
        simp only [Bool.true_and, Int.toNat_natCast] at hg
        rw [hg] at hq
        clear hb hg hgr
        generalize (⟨(textRa a c2).toArray⟩ : ByteArray) = T at *
        go_wp2_with fail
        refine wp_region_held_drew (S := fun w' => w'.cell? ⟨B, 0, none⟩ = some (.int .i64 (a : Int)) ∧ w'.cell? ⟨B, 1, none⟩ = some (.int .i64 (c2 : Int)) ∧ B < w'.heap.size ∧ Below w.heap.size w w' ∧ ∃ u v, ObAt w' w.heap.size 37 #[.int .i64 u, .int .i64 v]) (by kernel_rfl) ⟨S5.out.1, S5.out.2.1, S5.out.2.2.1, Below.drew S5.out.2.2.2.1, S5.out.2.2.2.2⟩ (fun hHeld => ?_)
        (refine wpAnyH_take (i := 0) (v := ?_) rfl (by kernel_rfl) (by kernel_rfl) (by kernel_rfl) (fun _ _ _ h => h) (Or.inl ⟨by kernel_rfl, ?_⟩) (by assumption) ?_; rotate_left; focus (intro w hSw; (try dsimp only at hSw); go_simp; try with_reducible rfl); (try simp only [List.getElem_toArray, List.getElem_cons_succ, List.getElem_cons_zero, Act.put, List.setIfInBounds_toArray, List.set_cons_zero, List.set_cons_succ])); (refine wpAnyH_take (i := 1) (v := ?_) rfl (by kernel_rfl) (by kernel_rfl) (by kernel_rfl) (fun _ _ _ h => h) (Or.inl ⟨by kernel_rfl, ?_⟩) (by assumption) ?_; rotate_left; focus (intro w hSw; (try dsimp only at hSw); go_simp; try with_reducible rfl); (try simp only [List.getElem_toArray, List.getElem_cons_succ, List.getElem_cons_zero, Act.put, List.setIfInBounds_toArray, List.set_cons_zero, List.set_cons_succ]))
        refine wpAnyH_ready (rs := [2]) (by kernel_rfl) (by simp) ?_; refine AllReadyH.cons rfl (fun K hK => ?_) AllReadyH.nil
        go_simp
        go_at_call 45
        refine (HG.out _).mono ?_; rintro e w6 ⟨rfl, bd⟩
        have KS := Lib.hid (rt_keep (T := 37) bd hHeld); clear hHeld bd
        go_wp2_with fail
        refine hK.out _ _ KS.out (fun hHeld => ?_)
        clear hK K KS
        (try simp only [List.getElem_toArray, List.getElem_cons_succ, List.getElem_cons_zero, Act.put, List.setIfInBounds_toArray, List.set_cons_zero, List.set_cons_succ])
        (refine wpAnyH_take (i := 3) (v := ?_) rfl (by kernel_rfl) (by kernel_rfl) (by kernel_rfl) (fun _ _ _ h => h) (Or.inl ⟨by kernel_rfl, ?_⟩) (by assumption) ?_; rotate_left; focus (intro w hSw; (try dsimp only at hSw); go_simp; try with_reducible rfl); (try simp only [List.getElem_toArray, List.getElem_cons_succ, List.getElem_cons_zero, Act.put, List.setIfInBounds_toArray, List.set_cons_zero, List.set_cons_succ])); (refine wpAnyH_take (i := 4) (v := ?_) rfl (by kernel_rfl) (by kernel_rfl) (by kernel_rfl) (fun _ _ _ h => h) (Or.inl ⟨by kernel_rfl, ?_⟩) (by assumption) ?_; rotate_left; focus (intro w hSw; (try dsimp only at hSw); go_simp; try with_reducible rfl); (try simp only [List.getElem_toArray, List.getElem_cons_succ, List.getElem_cons_zero, Act.put, List.setIfInBounds_toArray, List.set_cons_zero, List.set_cons_succ])); (refine wpAnyH_take (i := 6) (v := ?_) rfl (by kernel_rfl) (by kernel_rfl) (by kernel_rfl) (fun _ _ _ h => h) (Or.inl ⟨by kernel_rfl, ?_⟩) (by assumption) ?_; rotate_left; focus (intro w hSw; (try dsimp only at hSw); go_simp; try with_reducible rfl); (try simp only [List.getElem_toArray, List.getElem_cons_succ, List.getElem_cons_zero, Act.put, List.setIfInBounds_toArray, List.set_cons_zero, List.set_cons_succ]))
        refine wpAnyH_ready (rs := [5]) (by kernel_rfl) (by simp) ?_; refine AllReadyH.cons rfl (fun K hK => ?_) AllReadyH.nil
        go_simp
        go_at_call 52
        refine (HT.out _).mono ?_; rintro e w7 ⟨rfl, bd⟩
        have KS := Lib.hid (rt_keep (T := 37) bd hHeld); clear hHeld bd
        go_wp2_with fail
        refine hK.out _ _ KS.out (fun hHeld => ?_)
        clear hK K KS
        (try simp only [List.getElem_toArray, List.getElem_cons_succ, List.getElem_cons_zero, Act.put, List.setIfInBounds_toArray, List.set_cons_zero, List.set_cons_succ])
        (refine wpAnyH_take (i := 7) (v := ?_) rfl (by kernel_rfl) (by kernel_rfl) (by kernel_rfl) (fun _ _ _ h => h) (Or.inl ⟨by kernel_rfl, ?_⟩) (by assumption) ?_; rotate_left; focus (intro w hSw; (try dsimp only at hSw); go_simp; try with_reducible rfl); (try simp only [List.getElem_toArray, List.getElem_cons_succ, List.getElem_cons_zero, Act.put, List.setIfInBounds_toArray, List.set_cons_zero, List.set_cons_succ])); (refine wpAnyH_take (i := 8) (v := ?_) rfl (by kernel_rfl) (by kernel_rfl) (by kernel_rfl) (fun _ _ _ h => h) (Or.inl ⟨by kernel_rfl, ?_⟩) (by assumption) ?_; rotate_left; focus (intro w hSw; (try dsimp only at hSw); go_simp; try with_reducible rfl); (try simp only [List.getElem_toArray, List.getElem_cons_succ, List.getElem_cons_zero, Act.put, List.setIfInBounds_toArray, List.set_cons_zero, List.set_cons_succ]))
        obtain ⟨h0, h1, h2, h3, u, v, h4⟩ := hHeld
        obtain ⟨z0, z1, z2, z3⟩ := h4.two
        have h5 : ObAt _ w.heap.size 37 #[.int .i64 (a : Int), .int .i64 (c2 : Int)] := (h4.put 0 (.int .i64 (a : Int))).put 1 (.int .i64 (c2 : Int))
        have KS : Hid (((w7.setCell ⟨w.heap.size, 0, none⟩ (.int .i64 (a : Int))).setCell ⟨w.heap.size, 1, none⟩ (.int .i64 (c2 : Int))).cell? ⟨B, 0, none⟩ = some (.int .i64 (a : Int)) ∧ ((w7.setCell ⟨w.heap.size, 0, none⟩ (.int .i64 (a : Int))).setCell ⟨w.heap.size, 1, none⟩ (.int .i64 (c2 : Int))).cell? ⟨B, 1, none⟩ = some (.int .i64 (c2 : Int)) ∧ B < ((w7.setCell ⟨w.heap.size, 0, none⟩ (.int .i64 (a : Int))).setCell ⟨w.heap.size, 1, none⟩ (.int .i64 (c2 : Int))).heap.size ∧ Below w.heap.size w ((w7.setCell ⟨w.heap.size, 0, none⟩ (.int .i64 (a : Int))).setCell ⟨w.heap.size, 1, none⟩ (.int .i64 (c2 : Int))) ∧ ∃ u v, ObAt ((w7.setCell ⟨w.heap.size, 0, none⟩ (.int .i64 (a : Int))).setCell ⟨w.heap.size, 1, none⟩ (.int .i64 (c2 : Int))) w.heap.size 37 #[.int .i64 u, .int .i64 v]) := by
          refine ⟨?_, ?_, by simpa using h2, (h3.setCell (p := ⟨w.heap.size, 0, none⟩) (by simp) _).setCell (p := ⟨w.heap.size, 1, none⟩) (by simp) _, _, _, h5⟩
          · rw [World.cell?_setCell_other _ _ _ _ (by intro e; injection e; omega), World.cell?_setCell_other _ _ _ _ (by intro e; injection e; omega)]; exact h0
          · rw [World.cell?_setCell_other _ _ _ _ (by intro e; injection e; omega), World.cell?_setCell_other _ _ _ _ (by intro e; injection e; omega)]; exact h1
        have HQ := Lib.hid h5.two
        clear h0 h1 h2 h3 h4 h5
        refine wpAnyH_ready (rs := [9]) (by kernel_rfl) (by simp) ?_; refine AllReadyH.cons rfl (fun K hK => ?_) AllReadyH.nil
        go_simp
        clear z0 z1 z2 z3
        first
          | refine hK.out _ _ KS.out (fun hHeld => ?_)
          | refine hK _ _ KS.out (fun hHeld => ?_)
        clear hK K
        (try simp only [List.getElem_toArray, List.getElem_cons_succ, List.getElem_cons_zero, Act.put, List.setIfInBounds_toArray, List.set_cons_zero, List.set_cons_succ])
        (refine wpAnyH_take (i := 10) (v := ?_) rfl (by kernel_rfl) (by kernel_rfl) (by kernel_rfl) (fun _ _ _ h => h) (Or.inl ⟨by kernel_rfl, ?_⟩) (by assumption) ?_; rotate_left; focus (intro w hSw; (try dsimp only at hSw); go_simp; try with_reducible rfl); (try simp only [List.getElem_toArray, List.getElem_cons_succ, List.getElem_cons_zero, Act.put, List.setIfInBounds_toArray, List.set_cons_zero, List.set_cons_succ]))
        refine wpAnyH_done (by kernel_rfl) ?_ _
        clear hHeld
        go_wp2_with fail
        obtain ⟨q0, q1, q2, q3⟩ := HQ.out
        refine bodyPost_ret (v := .tuple #[.agg #[.int .i64 (a : Int), .int .i64 (c2 : Int)], .bool o]) (by simp [results, Tryd.results53, go_sem, q0, q1]) rfl ⟨rfl, KS.out.2.2.2.1⟩
    · go_simp
      have KS := Lib.hid ((hHeld.2.2.keep (Below.ofNew (.cells #[.int .i64 0, .int .i64 0] 37))).full)
      clear hHeld
      first
        | refine hK.out _ _ KS.out (fun hHeld => ?_)
        | refine hK _ _ KS.out (fun hHeld => ?_)
      clear hK K KS
      (try simp only [List.getElem_toArray, List.getElem_cons_succ, List.getElem_cons_zero, Act.put, List.setIfInBounds_toArray, List.set_cons_zero, List.set_cons_succ])
      refine wpAnyH_ready (rs := [7]) (by kernel_rfl) (by simp) (AllReadyH.cons rfl (fun K hK => ?_) AllReadyH.nil)
      go_simp
      go_at_call 62
      refine (HL.out.2 _).mono ?_; rintro e w4 ⟨rfl, rfl⟩
      have KS := Lib.hid hHeld.2.2.full; clear hHeld
      go_wp2_with fail
      first
        | refine hK.out _ _ KS.out (fun hHeld => ?_)
        | refine hK _ _ KS.out (fun hHeld => ?_)
      clear hK K KS
      (try simp only [List.getElem_toArray, List.getElem_cons_succ, List.getElem_cons_zero, Act.put, List.setIfInBounds_toArray, List.set_cons_zero, List.set_cons_succ])
      (refine wpAnyH_take (i := 8) (v := ?_) rfl (by kernel_rfl) (by kernel_rfl) (by kernel_rfl) (fun _ _ _ h => h) (Or.inl ⟨by kernel_rfl, ?_⟩) (by assumption) ?_; rotate_left; focus (intro w hSw; (try dsimp only at hSw); go_simp; try with_reducible rfl); (try simp only [List.getElem_toArray, List.getElem_cons_succ, List.getElem_cons_zero, Act.put, List.setIfInBounds_toArray, List.set_cons_zero, List.set_cons_succ]))
      have K9 := ObAt.new w1.drew 37 #[.int .i64 0, .int .i64 0]
      clear hHeld
      obtain ⟨z0, z1, z2, z3⟩ := K9.two
      have KBH : Hid (ObAt (w1.alloc (.cells #[.int .i64 x, .int .i64 y] 37)).drew w1.heap.size 37 #[.int .i64 x, .int .i64 y]) := Lib.hid (ObAt.new w1 37 #[.int .i64 x, .int .i64 y]).drew
      have KS := Lib.hid ((HS.out.1.keep (Below.ofNew (.cells #[.int .i64 x, .int .i64 y] 37))).drew.full)
      clear K9
      refine wpAnyH_ready (rs := [10]) (by kernel_rfl) (by simp) ?_; refine AllReadyH.cons rfl (fun K hK => ?_) AllReadyH.nil
      go_simp
      clear z0 z1 z2 z3
      first
        | refine hK.out _ _ KS.out (fun hHeld => ?_)
        | refine hK _ _ KS.out (fun hHeld => ?_)
      clear hK K hHeld
      refine wpAnyH_done (by kernel_rfl) ?_ _
      have S5 : Hid ((w1.alloc (.cells #[.int .i64 x, .int .i64 y] 37)).drew.cell? ⟨w1.heap.size, 0, none⟩ = some (.int .i64 x) ∧ (w1.alloc (.cells #[.int .i64 x, .int .i64 y] 37)).drew.cell? ⟨w1.heap.size, 1, none⟩ = some (.int .i64 y) ∧ w1.heap.size < (w1.alloc (.cells #[.int .i64 x, .int .i64 y] 37)).drew.heap.size ∧ Below w.heap.size w (w1.alloc (.cells #[.int .i64 x, .int .i64 y] 37)).drew ∧ ∃ u v, ObAt (w1.alloc (.cells #[.int .i64 x, .int .i64 y] 37)).drew w.heap.size 37 #[.int .i64 u, .int .i64 v]) := ⟨KBH.out.cell 0, KBH.out.cell 1, KBH.out.lt, KS.out.2.2.2.2.2.1, 0, 0, KS.out.2.2.2.2.2.2⟩
      generalize (w1.alloc (.cells #[.int .i64 x, .int .i64 y] 37)).drew = w5 at *
      generalize hB : w1.heap.size = B at *
      have hlt : w.heap.size < B := HS.out.2
      clear KS KBH HS
      cases hgr : goodR x y
      · rw [hgr] at HG hg
        simp only [Bool.false_and] at hg
        subst hg
        go_wp2_with fail
        refine wp_region_held_drew (S := fun w' => w'.cell? ⟨B, 0, none⟩ = some (.int .i64 x) ∧ w'.cell? ⟨B, 1, none⟩ = some (.int .i64 y) ∧ B < w'.heap.size ∧ Below w.heap.size w w' ∧ ∃ u v, ObAt w' w.heap.size 37 #[.int .i64 u, .int .i64 v]) (by kernel_rfl) ⟨S5.out.1, S5.out.2.1, S5.out.2.2.1, Below.drew S5.out.2.2.2.1, S5.out.2.2.2.2⟩ (fun hHeld => ?_)
        (refine wpAnyH_take (i := 0) (v := ?_) rfl (by kernel_rfl) (by kernel_rfl) (by kernel_rfl) (fun _ _ _ h => h) (Or.inl ⟨by kernel_rfl, ?_⟩) (by assumption) ?_; rotate_left; focus (intro w hSw; (try dsimp only at hSw); go_simp; try with_reducible rfl); (try simp only [List.getElem_toArray, List.getElem_cons_succ, List.getElem_cons_zero, Act.put, List.setIfInBounds_toArray, List.set_cons_zero, List.set_cons_succ])); (refine wpAnyH_take (i := 1) (v := ?_) rfl (by kernel_rfl) (by kernel_rfl) (by kernel_rfl) (fun _ _ _ h => h) (Or.inl ⟨by kernel_rfl, ?_⟩) (by assumption) ?_; rotate_left; focus (intro w hSw; (try dsimp only at hSw); go_simp; try with_reducible rfl); (try simp only [List.getElem_toArray, List.getElem_cons_succ, List.getElem_cons_zero, Act.put, List.setIfInBounds_toArray, List.set_cons_zero, List.set_cons_succ]))
        refine wpAnyH_ready (rs := [2]) (by kernel_rfl) (by simp) ?_; refine AllReadyH.cons rfl (fun K hK => ?_) AllReadyH.nil
        go_simp
        go_at_call 45
        refine (HG.out _).mono ?_; rintro e w6 ⟨rfl, bd⟩
        have KS := Lib.hid (rt_keep (T := 37) bd hHeld); clear hHeld bd
        go_wp2_with fail
        refine hK.out _ _ KS.out (fun hHeld => ?_)
        clear hK K KS
        (try simp only [List.getElem_toArray, List.getElem_cons_succ, List.getElem_cons_zero, Act.put, List.setIfInBounds_toArray, List.set_cons_zero, List.set_cons_succ])
        (refine wpAnyH_take (i := 3) (v := ?_) rfl (by kernel_rfl) (by kernel_rfl) (by kernel_rfl) (fun _ _ _ h => h) (Or.inl ⟨by kernel_rfl, ?_⟩) (by assumption) ?_; rotate_left; focus (intro w hSw; (try dsimp only at hSw); go_simp; try with_reducible rfl); (try simp only [List.getElem_toArray, List.getElem_cons_succ, List.getElem_cons_zero, Act.put, List.setIfInBounds_toArray, List.set_cons_zero, List.set_cons_succ]))
        (refine wpAnyH_take (i := 4) (v := undef) rfl (by kernel_rfl) (by kernel_rfl) (by kernel_rfl) (fun _ _ _ h => h) (Or.inr ⟨by kernel_rfl, rfl⟩) (by assumption) ?_; (try simp only [List.getElem_toArray, List.getElem_cons_succ, List.getElem_cons_zero, Act.put, List.setIfInBounds_toArray, List.set_cons_zero, List.set_cons_succ])); (refine wpAnyH_take (i := 5) (v := undef) rfl (by kernel_rfl) (by kernel_rfl) (by kernel_rfl) (fun _ _ _ h => h) (Or.inr ⟨by kernel_rfl, rfl⟩) (by assumption) ?_; (try simp only [List.getElem_toArray, List.getElem_cons_succ, List.getElem_cons_zero, Act.put, List.setIfInBounds_toArray, List.set_cons_zero, List.set_cons_succ])); (refine wpAnyH_take (i := 6) (v := undef) rfl (by kernel_rfl) (by kernel_rfl) (by kernel_rfl) (fun _ _ _ h => h) (Or.inr ⟨by kernel_rfl, rfl⟩) (by assumption) ?_; (try simp only [List.getElem_toArray, List.getElem_cons_succ, List.getElem_cons_zero, Act.put, List.setIfInBounds_toArray, List.set_cons_zero, List.set_cons_succ])); (refine wpAnyH_take (i := 7) (v := undef) rfl (by kernel_rfl) (by kernel_rfl) (by kernel_rfl) (fun _ _ _ h => h) (Or.inr ⟨by kernel_rfl, rfl⟩) (by assumption) ?_; (try simp only [List.getElem_toArray, List.getElem_cons_succ, List.getElem_cons_zero, Act.put, List.setIfInBounds_toArray, List.set_cons_zero, List.set_cons_succ]))
        (refine wpAnyH_take (i := 8) (v := ?_) rfl (by kernel_rfl) (by kernel_rfl) (by kernel_rfl) (fun _ _ _ h => h) (Or.inl ⟨by kernel_rfl, ?_⟩) (by assumption) ?_; rotate_left; focus (intro w hSw; (try dsimp only at hSw); go_simp; try with_reducible rfl); (try simp only [List.getElem_toArray, List.getElem_cons_succ, List.getElem_cons_zero, Act.put, List.setIfInBounds_toArray, List.set_cons_zero, List.set_cons_succ]))
        obtain ⟨h0, h1, h2, h3, u, v, h4⟩ := hHeld
        obtain ⟨z0, z1, z2, z3⟩ := h4.two
        have h5 : ObAt _ w.heap.size 37 #[.int .i64 x, .int .i64 y] := (h4.put 0 (.int .i64 x)).put 1 (.int .i64 y)
        have KS : Hid (((w6.setCell ⟨w.heap.size, 0, none⟩ (.int .i64 x)).setCell ⟨w.heap.size, 1, none⟩ (.int .i64 y)).cell? ⟨B, 0, none⟩ = some (.int .i64 x) ∧ ((w6.setCell ⟨w.heap.size, 0, none⟩ (.int .i64 x)).setCell ⟨w.heap.size, 1, none⟩ (.int .i64 y)).cell? ⟨B, 1, none⟩ = some (.int .i64 y) ∧ B < ((w6.setCell ⟨w.heap.size, 0, none⟩ (.int .i64 x)).setCell ⟨w.heap.size, 1, none⟩ (.int .i64 y)).heap.size ∧ Below w.heap.size w ((w6.setCell ⟨w.heap.size, 0, none⟩ (.int .i64 x)).setCell ⟨w.heap.size, 1, none⟩ (.int .i64 y)) ∧ ∃ u v, ObAt ((w6.setCell ⟨w.heap.size, 0, none⟩ (.int .i64 x)).setCell ⟨w.heap.size, 1, none⟩ (.int .i64 y)) w.heap.size 37 #[.int .i64 u, .int .i64 v]) := by
          refine ⟨?_, ?_, by simpa using h2, (h3.setCell (p := ⟨w.heap.size, 0, none⟩) (by simp) _).setCell (p := ⟨w.heap.size, 1, none⟩) (by simp) _, _, _, h5⟩
          · rw [World.cell?_setCell_other _ _ _ _ (by intro e; injection e; omega), World.cell?_setCell_other _ _ _ _ (by intro e; injection e; omega)]; exact h0
          · rw [World.cell?_setCell_other _ _ _ _ (by intro e; injection e; omega), World.cell?_setCell_other _ _ _ _ (by intro e; injection e; omega)]; exact h1
        have HQ := Lib.hid h5.two
        clear h0 h1 h2 h3 h4 h5
        refine wpAnyH_ready (rs := [9]) (by kernel_rfl) (by simp) ?_; refine AllReadyH.cons rfl (fun K hK => ?_) AllReadyH.nil
        go_simp
        clear z0 z1 z2 z3
        first
          | refine hK.out _ _ KS.out (fun hHeld => ?_)
          | refine hK _ _ KS.out (fun hHeld => ?_)
        clear hK K
        (try simp only [List.getElem_toArray, List.getElem_cons_succ, List.getElem_cons_zero, Act.put, List.setIfInBounds_toArray, List.set_cons_zero, List.set_cons_succ])
        (refine wpAnyH_take (i := 10) (v := ?_) rfl (by kernel_rfl) (by kernel_rfl) (by kernel_rfl) (fun _ _ _ h => h) (Or.inl ⟨by kernel_rfl, ?_⟩) (by assumption) ?_; rotate_left; focus (intro w hSw; (try dsimp only at hSw); go_simp; try with_reducible rfl); (try simp only [List.getElem_toArray, List.getElem_cons_succ, List.getElem_cons_zero, Act.put, List.setIfInBounds_toArray, List.set_cons_zero, List.set_cons_succ]))
        refine wpAnyH_done (by kernel_rfl) ?_ _
        clear hHeld
        go_wp2_with fail
        obtain ⟨q0, q1, q2, q3⟩ := HQ.out
        refine bodyPost_ret (v := .tuple #[.agg #[.int .i64 x, .int .i64 y], .bool false]) (by simp [results, Tryd.results53, go_sem, q0, q1]) rfl ⟨rfl, KS.out.2.2.2.1⟩
      · have hb := goodR_bd.1 hgr
        obtain ⟨a, rfl⟩ : ∃ a : Nat, x = a := ⟨x.toNat, by omega⟩
        obtain ⟨c2, rfl⟩ : ∃ c2 : Nat, y = c2 := ⟨y.toNat, by omega⟩
        have HT := Lib.hid (fun w => specTextRa a c2 (by omega) (by omega) w)
        rw [hgr] at HG hg
        have hq := eq_listRa (textRa a c2) s
        simp only [Bool.true_and, Int.toNat_natCast] at hg
        rw [hg] at hq
        clear hb hg hgr
        generalize (⟨(textRa a c2).toArray⟩ : ByteArray) = T at *
        go_wp2_with fail
        refine wp_region_held_drew (S := fun w' => w'.cell? ⟨B, 0, none⟩ = some (.int .i64 (a : Int)) ∧ w'.cell? ⟨B, 1, none⟩ = some (.int .i64 (c2 : Int)) ∧ B < w'.heap.size ∧ Below w.heap.size w w' ∧ ∃ u v, ObAt w' w.heap.size 37 #[.int .i64 u, .int .i64 v]) (by kernel_rfl) ⟨S5.out.1, S5.out.2.1, S5.out.2.2.1, Below.drew S5.out.2.2.2.1, S5.out.2.2.2.2⟩ (fun hHeld => ?_)
        (refine wpAnyH_take (i := 0) (v := ?_) rfl (by kernel_rfl) (by kernel_rfl) (by kernel_rfl) (fun _ _ _ h => h) (Or.inl ⟨by kernel_rfl, ?_⟩) (by assumption) ?_; rotate_left; focus (intro w hSw; (try dsimp only at hSw); go_simp; try with_reducible rfl); (try simp only [List.getElem_toArray, List.getElem_cons_succ, List.getElem_cons_zero, Act.put, List.setIfInBounds_toArray, List.set_cons_zero, List.set_cons_succ])); (refine wpAnyH_take (i := 1) (v := ?_) rfl (by kernel_rfl) (by kernel_rfl) (by kernel_rfl) (fun _ _ _ h => h) (Or.inl ⟨by kernel_rfl, ?_⟩) (by assumption) ?_; rotate_left; focus (intro w hSw; (try dsimp only at hSw); go_simp; try with_reducible rfl); (try simp only [List.getElem_toArray, List.getElem_cons_succ, List.getElem_cons_zero, Act.put, List.setIfInBounds_toArray, List.set_cons_zero, List.set_cons_succ]))
        refine wpAnyH_ready (rs := [2]) (by kernel_rfl) (by simp) ?_; refine AllReadyH.cons rfl (fun K hK => ?_) AllReadyH.nil
        go_simp
        go_at_call 45
        refine (HG.out _).mono ?_; rintro e w6 ⟨rfl, bd⟩
        have KS := Lib.hid (rt_keep (T := 37) bd hHeld); clear hHeld bd
        go_wp2_with fail
        refine hK.out _ _ KS.out (fun hHeld => ?_)
        clear hK K KS
        (try simp only [List.getElem_toArray, List.getElem_cons_succ, List.getElem_cons_zero, Act.put, List.setIfInBounds_toArray, List.set_cons_zero, List.set_cons_succ])
        (refine wpAnyH_take (i := 3) (v := ?_) rfl (by kernel_rfl) (by kernel_rfl) (by kernel_rfl) (fun _ _ _ h => h) (Or.inl ⟨by kernel_rfl, ?_⟩) (by assumption) ?_; rotate_left; focus (intro w hSw; (try dsimp only at hSw); go_simp; try with_reducible rfl); (try simp only [List.getElem_toArray, List.getElem_cons_succ, List.getElem_cons_zero, Act.put, List.setIfInBounds_toArray, List.set_cons_zero, List.set_cons_succ])); (refine wpAnyH_take (i := 4) (v := ?_) rfl (by kernel_rfl) (by kernel_rfl) (by kernel_rfl) (fun _ _ _ h => h) (Or.inl ⟨by kernel_rfl, ?_⟩) (by assumption) ?_; rotate_left; focus (intro w hSw; (try dsimp only at hSw); go_simp; try with_reducible rfl); (try simp only [List.getElem_toArray, List.getElem_cons_succ, List.getElem_cons_zero, Act.put, List.setIfInBounds_toArray, List.set_cons_zero, List.set_cons_succ])); (refine wpAnyH_take (i := 6) (v := ?_) rfl (by kernel_rfl) (by kernel_rfl) (by kernel_rfl) (fun _ _ _ h => h) (Or.inl ⟨by kernel_rfl, ?_⟩) (by assumption) ?_; rotate_left; focus (intro w hSw; (try dsimp only at hSw); go_simp; try with_reducible rfl); (try simp only [List.getElem_toArray, List.getElem_cons_succ, List.getElem_cons_zero, Act.put, List.setIfInBounds_toArray, List.set_cons_zero, List.set_cons_succ]))
        refine wpAnyH_ready (rs := [5]) (by kernel_rfl) (by simp) ?_; refine AllReadyH.cons rfl (fun K hK => ?_) AllReadyH.nil
        go_simp
        go_at_call 52
        refine (HT.out _).mono ?_; rintro e w7 ⟨rfl, bd⟩
        have KS := Lib.hid (rt_keep (T := 37) bd hHeld); clear hHeld bd
        go_wp2_with fail
        refine hK.out _ _ KS.out (fun hHeld => ?_)
        clear hK K KS
        (try simp only [List.getElem_toArray, List.getElem_cons_succ, List.getElem_cons_zero, Act.put, List.setIfInBounds_toArray, List.set_cons_zero, List.set_cons_succ])
        (refine wpAnyH_take (i := 7) (v := ?_) rfl (by kernel_rfl) (by kernel_rfl) (by kernel_rfl) (fun _ _ _ h => h) (Or.inl ⟨by kernel_rfl, ?_⟩) (by assumption) ?_; rotate_left; focus (intro w hSw; (try dsimp only at hSw); go_simp; try with_reducible rfl); (try simp only [List.getElem_toArray, List.getElem_cons_succ, List.getElem_cons_zero, Act.put, List.setIfInBounds_toArray, List.set_cons_zero, List.set_cons_succ])); (refine wpAnyH_take (i := 8) (v := ?_) rfl (by kernel_rfl) (by kernel_rfl) (by kernel_rfl) (fun _ _ _ h => h) (Or.inl ⟨by kernel_rfl, ?_⟩) (by assumption) ?_; rotate_left; focus (intro w hSw; (try dsimp only at hSw); go_simp; try with_reducible rfl); (try simp only [List.getElem_toArray, List.getElem_cons_succ, List.getElem_cons_zero, Act.put, List.setIfInBounds_toArray, List.set_cons_zero, List.set_cons_succ]))
        obtain ⟨h0, h1, h2, h3, u, v, h4⟩ := hHeld
        obtain ⟨z0, z1, z2, z3⟩ := h4.two
        have h5 : ObAt _ w.heap.size 37 #[.int .i64 (a : Int), .int .i64 (c2 : Int)] := (h4.put 0 (.int .i64 (a : Int))).put 1 (.int .i64 (c2 : Int))
        have KS : Hid (((w7.setCell ⟨w.heap.size, 0, none⟩ (.int .i64 (a : Int))).setCell ⟨w.heap.size, 1, none⟩ (.int .i64 (c2 : Int))).cell? ⟨B, 0, none⟩ = some (.int .i64 (a : Int)) ∧ ((w7.setCell ⟨w.heap.size, 0, none⟩ (.int .i64 (a : Int))).setCell ⟨w.heap.size, 1, none⟩ (.int .i64 (c2 : Int))).cell? ⟨B, 1, none⟩ = some (.int .i64 (c2 : Int)) ∧ B < ((w7.setCell ⟨w.heap.size, 0, none⟩ (.int .i64 (a : Int))).setCell ⟨w.heap.size, 1, none⟩ (.int .i64 (c2 : Int))).heap.size ∧ Below w.heap.size w ((w7.setCell ⟨w.heap.size, 0, none⟩ (.int .i64 (a : Int))).setCell ⟨w.heap.size, 1, none⟩ (.int .i64 (c2 : Int))) ∧ ∃ u v, ObAt ((w7.setCell ⟨w.heap.size, 0, none⟩ (.int .i64 (a : Int))).setCell ⟨w.heap.size, 1, none⟩ (.int .i64 (c2 : Int))) w.heap.size 37 #[.int .i64 u, .int .i64 v]) := by
          refine ⟨?_, ?_, by simpa using h2, (h3.setCell (p := ⟨w.heap.size, 0, none⟩) (by simp) _).setCell (p := ⟨w.heap.size, 1, none⟩) (by simp) _, _, _, h5⟩
          · rw [World.cell?_setCell_other _ _ _ _ (by intro e; injection e; omega), World.cell?_setCell_other _ _ _ _ (by intro e; injection e; omega)]; exact h0
          · rw [World.cell?_setCell_other _ _ _ _ (by intro e; injection e; omega), World.cell?_setCell_other _ _ _ _ (by intro e; injection e; omega)]; exact h1
        have HQ := Lib.hid h5.two
        clear h0 h1 h2 h3 h4 h5
        refine wpAnyH_ready (rs := [9]) (by kernel_rfl) (by simp) ?_; refine AllReadyH.cons rfl (fun K hK => ?_) AllReadyH.nil
        go_simp
        clear z0 z1 z2 z3
        first
          | refine hK.out _ _ KS.out (fun hHeld => ?_)
          | refine hK _ _ KS.out (fun hHeld => ?_)
        clear hK K
        (try simp only [List.getElem_toArray, List.getElem_cons_succ, List.getElem_cons_zero, Act.put, List.setIfInBounds_toArray, List.set_cons_zero, List.set_cons_succ])
        (refine wpAnyH_take (i := 10) (v := ?_) rfl (by kernel_rfl) (by kernel_rfl) (by kernel_rfl) (fun _ _ _ h => h) (Or.inl ⟨by kernel_rfl, ?_⟩) (by assumption) ?_; rotate_left; focus (intro w hSw; (try dsimp only at hSw); go_simp; try with_reducible rfl); (try simp only [List.getElem_toArray, List.getElem_cons_succ, List.getElem_cons_zero, Act.put, List.setIfInBounds_toArray, List.set_cons_zero, List.set_cons_succ]))
        refine wpAnyH_done (by kernel_rfl) ?_ _
        clear hHeld
        go_wp2_with fail
        obtain ⟨q0, q1, q2, q3⟩ := HQ.out
        refine bodyPost_ret (v := .tuple #[.agg #[.int .i64 (a : Int), .int .i64 (c2 : Int)], .bool o]) (by simp [results, Tryd.results53, go_sem, q0, q1]) rfl ⟨rfl, KS.out.2.2.2.1⟩
  · go_simp
    have KS := Lib.hid ((hHeld.2.2.keep (Below.ofNew (.cells #[.int .i64 0, .int .i64 0] 37))).full)
    clear hHeld
    first
      | refine hK.out _ _ KS.out (fun hHeld => ?_)
      | refine hK _ _ KS.out (fun hHeld => ?_)
    clear hK K KS
    (try simp only [List.getElem_toArray, List.getElem_cons_succ, List.getElem_cons_zero, Act.put, List.setIfInBounds_toArray, List.set_cons_zero, List.set_cons_succ])
    refine wpAnyH_ready (rs := [3]) (by kernel_rfl) (by simp) (AllReadyH.cons rfl (fun K hK => ?_) AllReadyH.nil)
    go_simp
    go_at_call 62
    refine (HL.out.1 _).mono ?_; rintro e w4 ⟨rfl, rfl⟩
    have KS := Lib.hid hHeld.2.2.full; clear hHeld
    go_wp2_with fail
    first
      | refine hK.out _ _ KS.out (fun hHeld => ?_)
      | refine hK _ _ KS.out (fun hHeld => ?_)
    clear hK K KS
    (try simp only [List.getElem_toArray, List.getElem_cons_succ, List.getElem_cons_zero, Act.put, List.setIfInBounds_toArray, List.set_cons_zero, List.set_cons_succ])
    refine wpAnyH_ready (rs := [7]) (by kernel_rfl) (by simp) (AllReadyH.cons rfl (fun K hK => ?_) AllReadyH.nil)
    go_simp
    go_at_call 62
    refine (HL.out.2 _).mono ?_; rintro e w4 ⟨rfl, rfl⟩
    have KS := Lib.hid hHeld.2.2.full; clear hHeld
    go_wp2_with fail
    first
      | refine hK.out _ _ KS.out (fun hHeld => ?_)
      | refine hK _ _ KS.out (fun hHeld => ?_)
    clear hK K KS
    (try simp only [List.getElem_toArray, List.getElem_cons_succ, List.getElem_cons_zero, Act.put, List.setIfInBounds_toArray, List.set_cons_zero, List.set_cons_succ])
    (refine wpAnyH_take (i := 8) (v := ?_) rfl (by kernel_rfl) (by kernel_rfl) (by kernel_rfl) (fun _ _ _ h => h) (Or.inl ⟨by kernel_rfl, ?_⟩) (by assumption) ?_; rotate_left; focus (intro w hSw; (try dsimp only at hSw); go_simp; try with_reducible rfl); (try simp only [List.getElem_toArray, List.getElem_cons_succ, List.getElem_cons_zero, Act.put, List.setIfInBounds_toArray, List.set_cons_zero, List.set_cons_succ]))
    have K9 := ObAt.new w1.drew 37 #[.int .i64 0, .int .i64 0]
    clear hHeld
    obtain ⟨z0, z1, z2, z3⟩ := K9.two
    have KBH : Hid (ObAt (w1.alloc (.cells #[.int .i64 x, .int .i64 y] 37)).drew w1.heap.size 37 #[.int .i64 x, .int .i64 y]) := Lib.hid (ObAt.new w1 37 #[.int .i64 x, .int .i64 y]).drew
    have KS := Lib.hid ((HS.out.1.keep (Below.ofNew (.cells #[.int .i64 x, .int .i64 y] 37))).drew.full)
    clear K9
    refine wpAnyH_ready (rs := [10]) (by kernel_rfl) (by simp) ?_; refine AllReadyH.cons rfl (fun K hK => ?_) AllReadyH.nil
    go_simp
    clear z0 z1 z2 z3
    first
      | refine hK.out _ _ KS.out (fun hHeld => ?_)
      | refine hK _ _ KS.out (fun hHeld => ?_)
    clear hK K hHeld
    refine wpAnyH_done (by kernel_rfl) ?_ _
    have S5 : Hid ((w1.alloc (.cells #[.int .i64 x, .int .i64 y] 37)).drew.cell? ⟨w1.heap.size, 0, none⟩ = some (.int .i64 x) ∧ (w1.alloc (.cells #[.int .i64 x, .int .i64 y] 37)).drew.cell? ⟨w1.heap.size, 1, none⟩ = some (.int .i64 y) ∧ w1.heap.size < (w1.alloc (.cells #[.int .i64 x, .int .i64 y] 37)).drew.heap.size ∧ Below w.heap.size w (w1.alloc (.cells #[.int .i64 x, .int .i64 y] 37)).drew ∧ ∃ u v, ObAt (w1.alloc (.cells #[.int .i64 x, .int .i64 y] 37)).drew w.heap.size 37 #[.int .i64 u, .int .i64 v]) := ⟨KBH.out.cell 0, KBH.out.cell 1, KBH.out.lt, KS.out.2.2.2.2.2.1, 0, 0, KS.out.2.2.2.2.2.2⟩
    generalize (w1.alloc (.cells #[.int .i64 x, .int .i64 y] 37)).drew = w5 at *
    generalize hB : w1.heap.size = B at *
    have hlt : w.heap.size < B := HS.out.2
    clear KS KBH HS
    cases hgr : goodR x y
    · rw [hgr] at HG hg
      simp only [Bool.false_and] at hg
      subst hg
      go_wp2_with fail
      refine wp_region_held_drew (S := fun w' => w'.cell? ⟨B, 0, none⟩ = some (.int .i64 x) ∧ w'.cell? ⟨B, 1, none⟩ = some (.int .i64 y) ∧ B < w'.heap.size ∧ Below w.heap.size w w' ∧ ∃ u v, ObAt w' w.heap.size 37 #[.int .i64 u, .int .i64 v]) (by kernel_rfl) ⟨S5.out.1, S5.out.2.1, S5.out.2.2.1, Below.drew S5.out.2.2.2.1, S5.out.2.2.2.2⟩ (fun hHeld => ?_)
      (refine wpAnyH_take (i := 0) (v := ?_) rfl (by kernel_rfl) (by kernel_rfl) (by kernel_rfl) (fun _ _ _ h => h) (Or.inl ⟨by kernel_rfl, ?_⟩) (by assumption) ?_; rotate_left; focus (intro w hSw; (try dsimp only at hSw); go_simp; try with_reducible rfl); (try simp only [List.getElem_toArray, List.getElem_cons_succ, List.getElem_cons_zero, Act.put, List.setIfInBounds_toArray, List.set_cons_zero, List.set_cons_succ])); (refine wpAnyH_take (i := 1) (v := ?_) rfl (by kernel_rfl) (by kernel_rfl) (by kernel_rfl) (fun _ _ _ h => h) (Or.inl ⟨by kernel_rfl, ?_⟩) (by assumption) ?_; rotate_left; focus (intro w hSw; (try dsimp only at hSw); go_simp; try with_reducible rfl); (try simp only [List.getElem_toArray, List.getElem_cons_succ, List.getElem_cons_zero, Act.put, List.setIfInBounds_toArray, List.set_cons_zero, List.set_cons_succ]))
      refine wpAnyH_ready (rs := [2]) (by kernel_rfl) (by simp) ?_; refine AllReadyH.cons rfl (fun K hK => ?_) AllReadyH.nil
      go_simp
      go_at_call 45
      refine (HG.out _).mono ?_; rintro e w6 ⟨rfl, bd⟩
      have KS := Lib.hid (rt_keep (T := 37) bd hHeld); clear hHeld bd
      go_wp2_with fail
      refine hK.out _ _ KS.out (fun hHeld => ?_)
      clear hK K KS
      (try simp only [List.getElem_toArray, List.getElem_cons_succ, List.getElem_cons_zero, Act.put, List.setIfInBounds_toArray, List.set_cons_zero, List.set_cons_succ])
      (refine wpAnyH_take (i := 3) (v := ?_) rfl (by kernel_rfl) (by kernel_rfl) (by kernel_rfl) (fun _ _ _ h => h) (Or.inl ⟨by kernel_rfl, ?_⟩) (by assumption) ?_; rotate_left; focus (intro w hSw; (try dsimp only at hSw); go_simp; try with_reducible rfl); (try simp only [List.getElem_toArray, List.getElem_cons_succ, List.getElem_cons_zero, Act.put, List.setIfInBounds_toArray, List.set_cons_zero, List.set_cons_succ]))
      (refine wpAnyH_take (i := 4) (v := undef) rfl (by kernel_rfl) (by kernel_rfl) (by kernel_rfl) (fun _ _ _ h => h) (Or.inr ⟨by kernel_rfl, rfl⟩) (by assumption) ?_; (try simp only [List.getElem_toArray, List.getElem_cons_succ, List.getElem_cons_zero, Act.put, List.setIfInBounds_toArray, List.set_cons_zero, List.set_cons_succ])); (refine wpAnyH_take (i := 5) (v := undef) rfl (by kernel_rfl) (by kernel_rfl) (by kernel_rfl) (fun _ _ _ h => h) (Or.inr ⟨by kernel_rfl, rfl⟩) (by assumption) ?_; (try simp only [List.getElem_toArray, List.getElem_cons_succ, List.getElem_cons_zero, Act.put, List.setIfInBounds_toArray, List.set_cons_zero, List.set_cons_succ])); (refine wpAnyH_take (i := 6) (v := undef) rfl (by kernel_rfl) (by kernel_rfl) (by kernel_rfl) (fun _ _ _ h => h) (Or.inr ⟨by kernel_rfl, rfl⟩) (by assumption) ?_; (try simp only [List.getElem_toArray, List.getElem_cons_succ, List.getElem_cons_zero, Act.put, List.setIfInBounds_toArray, List.set_cons_zero, List.set_cons_succ])); (refine wpAnyH_take (i := 7) (v := undef) rfl (by kernel_rfl) (by kernel_rfl) (by kernel_rfl) (fun _ _ _ h => h) (Or.inr ⟨by kernel_rfl, rfl⟩) (by assumption) ?_; (try simp only [List.getElem_toArray, List.getElem_cons_succ, List.getElem_cons_zero, Act.put, List.setIfInBounds_toArray, List.set_cons_zero, List.set_cons_succ]))
      (refine wpAnyH_take (i := 8) (v := ?_) rfl (by kernel_rfl) (by kernel_rfl) (by kernel_rfl) (fun _ _ _ h => h) (Or.inl ⟨by kernel_rfl, ?_⟩) (by assumption) ?_; rotate_left; focus (intro w hSw; (try dsimp only at hSw); go_simp; try with_reducible rfl); (try simp only [List.getElem_toArray, List.getElem_cons_succ, List.getElem_cons_zero, Act.put, List.setIfInBounds_toArray, List.set_cons_zero, List.set_cons_succ]))
      obtain ⟨h0, h1, h2, h3, u, v, h4⟩ := hHeld
      obtain ⟨z0, z1, z2, z3⟩ := h4.two
      have h5 : ObAt _ w.heap.size 37 #[.int .i64 x, .int .i64 y] := (h4.put 0 (.int .i64 x)).put 1 (.int .i64 y)
      have KS : Hid (((w6.setCell ⟨w.heap.size, 0, none⟩ (.int .i64 x)).setCell ⟨w.heap.size, 1, none⟩ (.int .i64 y)).cell? ⟨B, 0, none⟩ = some (.int .i64 x) ∧ ((w6.setCell ⟨w.heap.size, 0, none⟩ (.int .i64 x)).setCell ⟨w.heap.size, 1, none⟩ (.int .i64 y)).cell? ⟨B, 1, none⟩ = some (.int .i64 y) ∧ B < ((w6.setCell ⟨w.heap.size, 0, none⟩ (.int .i64 x)).setCell ⟨w.heap.size, 1, none⟩ (.int .i64 y)).heap.size ∧ Below w.heap.size w ((w6.setCell ⟨w.heap.size, 0, none⟩ (.int .i64 x)).setCell ⟨w.heap.size, 1, none⟩ (.int .i64 y)) ∧ ∃ u v, ObAt ((w6.setCell ⟨w.heap.size, 0, none⟩ (.int .i64 x)).setCell ⟨w.heap.size, 1, none⟩ (.int .i64 y)) w.heap.size 37 #[.int .i64 u, .int .i64 v]) := by
        refine ⟨?_, ?_, by simpa using h2, (h3.setCell (p := ⟨w.heap.size, 0, none⟩) (by simp) _).setCell (p := ⟨w.heap.size, 1, none⟩) (by simp) _, _, _, h5⟩
        · rw [World.cell?_setCell_other _ _ _ _ (by intro e; injection e; omega), World.cell?_setCell_other _ _ _ _ (by intro e; injection e; omega)]; exact h0
        · rw [World.cell?_setCell_other _ _ _ _ (by intro e; injection e; omega), World.cell?_setCell_other _ _ _ _ (by intro e; injection e; omega)]; exact h1
      have HQ := Lib.hid h5.two
      clear h0 h1 h2 h3 h4 h5
      refine wpAnyH_ready (rs := [9]) (by kernel_rfl) (by simp) ?_; refine AllReadyH.cons rfl (fun K hK => ?_) AllReadyH.nil
      go_simp
      clear z0 z1 z2 z3
      first
        | refine hK.out _ _ KS.out (fun hHeld => ?_)
        | refine hK _ _ KS.out (fun hHeld => ?_)
      clear hK K
      (try simp only [List.getElem_toArray, List.getElem_cons_succ, List.getElem_cons_zero, Act.put, List.setIfInBounds_toArray, List.set_cons_zero, List.set_cons_succ])
      (refine wpAnyH_take (i := 10) (v := ?_) rfl (by kernel_rfl) (by kernel_rfl) (by kernel_rfl) (fun _ _ _ h => h) (Or.inl ⟨by kernel_rfl, ?_⟩) (by assumption) ?_; rotate_left; focus (intro w hSw; (try dsimp only at hSw); go_simp; try with_reducible rfl); (try simp only [List.getElem_toArray, List.getElem_cons_succ, List.getElem_cons_zero, Act.put, List.setIfInBounds_toArray, List.set_cons_zero, List.set_cons_succ]))
      refine wpAnyH_done (by kernel_rfl) ?_ _
      clear hHeld
      go_wp2_with fail
      obtain ⟨q0, q1, q2, q3⟩ := HQ.out
      refine bodyPost_ret (v := .tuple #[.agg #[.int .i64 x, .int .i64 y], .bool false]) (by simp [results, Tryd.results53, go_sem, q0, q1]) rfl ⟨rfl, KS.out.2.2.2.1⟩
    · have hb := goodR_bd.1 hgr
      obtain ⟨a, rfl⟩ : ∃ a : Nat, x = a := ⟨x.toNat, by omega⟩
      obtain ⟨c2, rfl⟩ : ∃ c2 : Nat, y = c2 := ⟨y.toNat, by omega⟩
      have HT := Lib.hid (fun w => specTextRa a c2 (by omega) (by omega) w)
      rw [hgr] at HG hg
      have hq := eq_listRa (textRa a c2) s
      simp only [Bool.true_and, Int.toNat_natCast] at hg
      rw [hg] at hq
      clear hb hg hgr
      generalize (⟨(textRa a c2).toArray⟩ : ByteArray) = T at *
      go_wp2_with fail
      refine wp_region_held_drew (S := fun w' => w'.cell? ⟨B, 0, none⟩ = some (.int .i64 (a : Int)) ∧ w'.cell? ⟨B, 1, none⟩ = some (.int .i64 (c2 : Int)) ∧ B < w'.heap.size ∧ Below w.heap.size w w' ∧ ∃ u v, ObAt w' w.heap.size 37 #[.int .i64 u, .int .i64 v]) (by kernel_rfl) ⟨S5.out.1, S5.out.2.1, S5.out.2.2.1, Below.drew S5.out.2.2.2.1, S5.out.2.2.2.2⟩ (fun hHeld => ?_)
      (refine wpAnyH_take (i := 0) (v := ?_) rfl (by kernel_rfl) (by kernel_rfl) (by kernel_rfl) (fun _ _ _ h => h) (Or.inl ⟨by kernel_rfl, ?_⟩) (by assumption) ?_; rotate_left; focus (intro w hSw; (try dsimp only at hSw); go_simp; try with_reducible rfl); (try simp only [List.getElem_toArray, List.getElem_cons_succ, List.getElem_cons_zero, Act.put, List.setIfInBounds_toArray, List.set_cons_zero, List.set_cons_succ])); (refine wpAnyH_take (i := 1) (v := ?_) rfl (by kernel_rfl) (by kernel_rfl) (by kernel_rfl) (fun _ _ _ h => h) (Or.inl ⟨by kernel_rfl, ?_⟩) (by assumption) ?_; rotate_left; focus (intro w hSw; (try dsimp only at hSw); go_simp; try with_reducible rfl); (try simp only [List.getElem_toArray, List.getElem_cons_succ, List.getElem_cons_zero, Act.put, List.setIfInBounds_toArray, List.set_cons_zero, List.set_cons_succ]))
      refine wpAnyH_ready (rs := [2]) (by kernel_rfl) (by simp) ?_; refine AllReadyH.cons rfl (fun K hK => ?_) AllReadyH.nil
      go_simp
      go_at_call 45
      refine (HG.out _).mono ?_; rintro e w6 ⟨rfl, bd⟩
      have KS := Lib.hid (rt_keep (T := 37) bd hHeld); clear hHeld bd
      go_wp2_with fail
      refine hK.out _ _ KS.out (fun hHeld => ?_)
      clear hK K KS
      (try simp only [List.getElem_toArray, List.getElem_cons_succ, List.getElem_cons_zero, Act.put, List.setIfInBounds_toArray, List.set_cons_zero, List.set_cons_succ])
      (refine wpAnyH_take (i := 3) (v := ?_) rfl (by kernel_rfl) (by kernel_rfl) (by kernel_rfl) (fun _ _ _ h => h) (Or.inl ⟨by kernel_rfl, ?_⟩) (by assumption) ?_; rotate_left; focus (intro w hSw; (try dsimp only at hSw); go_simp; try with_reducible rfl); (try simp only [List.getElem_toArray, List.getElem_cons_succ, List.getElem_cons_zero, Act.put, List.setIfInBounds_toArray, List.set_cons_zero, List.set_cons_succ])); (refine wpAnyH_take (i := 4) (v := ?_) rfl (by kernel_rfl) (by kernel_rfl) (by kernel_rfl) (fun _ _ _ h => h) (Or.inl ⟨by kernel_rfl, ?_⟩) (by assumption) ?_; rotate_left; focus (intro w hSw; (try dsimp only at hSw); go_simp; try with_reducible rfl); (try simp only [List.getElem_toArray, List.getElem_cons_succ, List.getElem_cons_zero, Act.put, List.setIfInBounds_toArray, List.set_cons_zero, List.set_cons_succ])); (refine wpAnyH_take (i := 6) (v := ?_) rfl (by kernel_rfl) (by kernel_rfl) (by kernel_rfl) (fun _ _ _ h => h) (Or.inl ⟨by kernel_rfl, ?_⟩) (by assumption) ?_; rotate_left; focus (intro w hSw; (try dsimp only at hSw); go_simp; try with_reducible rfl); (try simp only [List.getElem_toArray, List.getElem_cons_succ, List.getElem_cons_zero, Act.put, List.setIfInBounds_toArray, List.set_cons_zero, List.set_cons_succ]))
      refine wpAnyH_ready (rs := [5]) (by kernel_rfl) (by simp) ?_; refine AllReadyH.cons rfl (fun K hK => ?_) AllReadyH.nil
      go_simp
      go_at_call 52
      refine (HT.out _).mono ?_; rintro e w7 ⟨rfl, bd⟩
      have KS := Lib.hid (rt_keep (T := 37) bd hHeld); clear hHeld bd
      go_wp2_with fail
      refine hK.out _ _ KS.out (fun hHeld => ?_)
      clear hK K KS
      (try simp only [List.getElem_toArray, List.getElem_cons_succ, List.getElem_cons_zero, Act.put, List.setIfInBounds_toArray, List.set_cons_zero, List.set_cons_succ])
      (refine wpAnyH_take (i := 7) (v := ?_) rfl (by kernel_rfl) (by kernel_rfl) (by kernel_rfl) (fun _ _ _ h => h) (Or.inl ⟨by kernel_rfl, ?_⟩) (by assumption) ?_; rotate_left; focus (intro w hSw; (try dsimp only at hSw); go_simp; try with_reducible rfl); (try simp only [List.getElem_toArray, List.getElem_cons_succ, List.getElem_cons_zero, Act.put, List.setIfInBounds_toArray, List.set_cons_zero, List.set_cons_succ])); (refine wpAnyH_take (i := 8) (v := ?_) rfl (by kernel_rfl) (by kernel_rfl) (by kernel_rfl) (fun _ _ _ h => h) (Or.inl ⟨by kernel_rfl, ?_⟩) (by assumption) ?_; rotate_left; focus (intro w hSw; (try dsimp only at hSw); go_simp; try with_reducible rfl); (try simp only [List.getElem_toArray, List.getElem_cons_succ, List.getElem_cons_zero, Act.put, List.setIfInBounds_toArray, List.set_cons_zero, List.set_cons_succ]))
      obtain ⟨h0, h1, h2, h3, u, v, h4⟩ := hHeld
      obtain ⟨z0, z1, z2, z3⟩ := h4.two
      have h5 : ObAt _ w.heap.size 37 #[.int .i64 (a : Int), .int .i64 (c2 : Int)] := (h4.put 0 (.int .i64 (a : Int))).put 1 (.int .i64 (c2 : Int))
      have KS : Hid (((w7.setCell ⟨w.heap.size, 0, none⟩ (.int .i64 (a : Int))).setCell ⟨w.heap.size, 1, none⟩ (.int .i64 (c2 : Int))).cell? ⟨B, 0, none⟩ = some (.int .i64 (a : Int)) ∧ ((w7.setCell ⟨w.heap.size, 0, none⟩ (.int .i64 (a : Int))).setCell ⟨w.heap.size, 1, none⟩ (.int .i64 (c2 : Int))).cell? ⟨B, 1, none⟩ = some (.int .i64 (c2 : Int)) ∧ B < ((w7.setCell ⟨w.heap.size, 0, none⟩ (.int .i64 (a : Int))).setCell ⟨w.heap.size, 1, none⟩ (.int .i64 (c2 : Int))).heap.size ∧ Below w.heap.size w ((w7.setCell ⟨w.heap.size, 0, none⟩ (.int .i64 (a : Int))).setCell ⟨w.heap.size, 1, none⟩ (.int .i64 (c2 : Int))) ∧ ∃ u v, ObAt ((w7.setCell ⟨w.heap.size, 0, none⟩ (.int .i64 (a : Int))).setCell ⟨w.heap.size, 1, none⟩ (.int .i64 (c2 : Int))) w.heap.size 37 #[.int .i64 u, .int .i64 v]) := by
        refine ⟨?_, ?_, by simpa using h2, (h3.setCell (p := ⟨w.heap.size, 0, none⟩) (by simp) _).setCell (p := ⟨w.heap.size, 1, none⟩) (by simp) _, _, _, h5⟩
        · rw [World.cell?_setCell_other _ _ _ _ (by intro e; injection e; omega), World.cell?_setCell_other _ _ _ _ (by intro e; injection e; omega)]; exact h0
        · rw [World.cell?_setCell_other _ _ _ _ (by intro e; injection e; omega), World.cell?_setCell_other _ _ _ _ (by intro e; injection e; omega)]; exact h1
      have HQ := Lib.hid h5.two
      clear h0 h1 h2 h3 h4 h5
      refine wpAnyH_ready (rs := [9]) (by kernel_rfl) (by simp) ?_; refine AllReadyH.cons rfl (fun K hK => ?_) AllReadyH.nil
      go_simp
      clear z0 z1 z2 z3
      first
        | refine hK.out _ _ KS.out (fun hHeld => ?_)
        | refine hK _ _ KS.out (fun hHeld => ?_)
      clear hK K
      (try simp only [List.getElem_toArray, List.getElem_cons_succ, List.getElem_cons_zero, Act.put, List.setIfInBounds_toArray, List.set_cons_zero, List.set_cons_succ])
      (refine wpAnyH_take (i := 10) (v := ?_) rfl (by kernel_rfl) (by kernel_rfl) (by kernel_rfl) (fun _ _ _ h => h) (Or.inl ⟨by kernel_rfl, ?_⟩) (by assumption) ?_; rotate_left; focus (intro w hSw; (try dsimp only at hSw); go_simp; try with_reducible rfl); (try simp only [List.getElem_toArray, List.getElem_cons_succ, List.getElem_cons_zero, Act.put, List.setIfInBounds_toArray, List.set_cons_zero, List.set_cons_succ]))
      refine wpAnyH_done (by kernel_rfl) ?_ _
      clear hHeld
      go_wp2_with fail
      obtain ⟨q0, q1, q2, q3⟩ := HQ.out
      refine bodyPost_ret (v := .tuple #[.agg #[.int .i64 (a : Int), .int .i64 (c2 : Int)], .bool o]) (by simp [results, Tryd.results53, go_sem, q0, q1]) rfl ⟨rfl, KS.out.2.2.2.1⟩
end Go.Proofs.YthlkndloggmehaaDoor
