/-
  Puzzles: the puzzle without a clue: the program.
-/
import Derived.Test.YtcigighklghjkaaDoorPzCut
import Derived.Deep.RegionHeld3
import Derived.Deep.DeepCutAuto
import Derived.StillTailTactics
namespace Go.Proofs.YtcigighklghjkaaDoor
open Go.RowKit
set_option linter.unusedVariables false
set_option linter.unusedSimpArgs false

theorem owns_mono {w : World} {B B' n size : Nat} {T : TypeId} {v : Value} {xs : List Value} (h : w.ownsRow B' T size v n xs) (hb : B ≤ B') : w.ownsRow B T size v n xs := by
  obtain ⟨h1, h2 | ⟨g, cap, cur, hv, hg, r⟩⟩ := h
  · exact ⟨h1, .inl h2⟩
  · exact ⟨h1, .inr ⟨g, cap, cur, hv, by omega, r⟩⟩
def dropC (l : List Cl) (k : Nat) : List Cl := l.take k ++ l.drop (k + 1)
theorem dropC_len (l : List Cl) {k : Nat} (h : k < l.length) : (dropC l k).length = l.length - 1 := by simp [dropC]; omega
theorem dropC_sub {l : List Cl} {k : Nat} : ∀ c ∈ dropC l k, c ∈ l := by
  intro c hc
  rcases List.mem_append.1 hc with h | h
  · exact List.mem_of_mem_take h
  · exact List.mem_of_mem_drop h
theorem PzH.of {X wi : World} {q : Nat} {T : TypeId} {u0 u1 : Value} (h1 : ObAt X q T #[u0, u1]) (hb : Below X.heap.size X wi) :
    wi.cell? ⟨q, 0, none⟩ = some u0 ∧ wi.cell? ⟨q, 1, none⟩ = some u1 ∧ Below X.heap.size X wi := ⟨(h1.keep hb).cell 0, (h1.keep hb).cell 1, hb⟩
/-- Behind the region: the two parts in boxes of their own. -/
def CutW (p : Int) (b1 b2 : Value) (X : World) (v5 v6 : Value) (wx : World) : Prop :=
  ∃ g h, v5 = .pointer (some ⟨g, 0, none⟩) ∧ v6 = .pointer (some ⟨h, 0, none⟩) ∧ X.heap.size ≤ g ∧ X.heap.size ≤ h ∧ ObAt wx g 38 #[.int .i64 p, b1] ∧ ObAt wx h 38 #[.int .i64 p, b2] ∧ Below X.heap.size X wx
theorem CutW.below {p : Int} {b1 b2 : Value} {X : World} {v5 v6 : Value} {wx : World} (h : CutW p b1 b2 X v5 v6 wx) : Below X.heap.size X wx := by
  obtain ⟨_, _, _, _, _, _, _, _, h⟩ := h
  exact h
theorem CutW.half {X W : World} {g : Nat} (h1 : X.heap.size ≤ g) (h2 : Below X.heap.size X W) (u v : Value) : Below X.heap.size X ((W.setCell ⟨g, 0, none⟩ u).setCell ⟨g, 1, none⟩ v) :=
  (h2.setCell (p := ⟨g, 0, none⟩) (by simp only; omega) _).setCell (p := ⟨g, 1, none⟩) (by simp only; omega) _
theorem CutW.mk {p : Int} {b1 b2 : Value} {X W : World} {g h : Nat} (h1 : ObAt W g 38 #[.int .i64 0, .slice none 0 0]) (h2 : ObAt W h 38 #[.int .i64 0, .slice none 0 0]) (h3 : X.heap.size ≤ g) (h4 : X.heap.size ≤ h) (hne : g ≠ h) (hb : Below X.heap.size X W) :
    CutW p b1 b2 X (.pointer (some ⟨g, 0, none⟩)) (.pointer (some ⟨h, 0, none⟩)) ((((W.setCell ⟨g, 0, none⟩ (.int .i64 p)).setCell ⟨g, 1, none⟩ b1).setCell ⟨h, 0, none⟩ (.int .i64 p)).setCell ⟨h, 1, none⟩ b2) :=
  ⟨g, h, rfl, rfl, h3, h4, (((h1.put 0 _).put 1 _).other hne _).other hne _, (((h2.other hne.symm _).other hne.symm _).put 0 _).put 1 _, CutW.half h4 (CutW.half h3 hb _ _) _ _⟩

set_option maxHeartbeats 6400000 in
set_option maxRecDepth 100000 in
theorem without_any (p : Int) (l : List Cl) (ad : Option Addr) (c k : Nat) (w : World) (hl : l.length ≤ 1000) (hlc : l.length ≤ c) (hk : k < l.length) (hr : Reads w ad (clus l)) :
    Calls Tryd.prog 66 #[.agg #[.int .i64 p, .slice ad l.length c], .int .i64 k] w fun e w' => ∃ a c', e = .returned (.agg #[.int .i64 p, .slice a (dropC l k).length c']) ∧ w'.ownsRow w.heap.size 26 3 (.slice a (dropC l k).length c') (dropC l k).length (clus (dropC l k)) ∧ Below w.heap.size w w' := by
  obtain ⟨M, hM⟩ : ∃ M, M = k + 1 := ⟨_, rfl⟩
  have hn : ad ≠ none := by
    rcases hr with h | ⟨b, off, rfl, -, -⟩
    · rw [clus_nil h] at hk; simp at hk
    · simp
  have hc1 : ∀ W, Calls Tryd.prog 67 #[.agg #[.int .i64 p, .slice ad l.length c], .int .i64 0, .int .i64 k] W fun e w' => e = .returned (.agg #[.int .i64 p, .slice (cutA ad 0 k) k k]) ∧ Below W.heap.size W w' :=
    fun W => cut_any p ad l.length c 0 k W (by omega) (by omega) hlc
  have hc2 : ∀ W, Calls Tryd.prog 67 #[.agg #[.int .i64 p, .slice ad l.length c], .int .i64 M, .int .i64 l.length] W fun e w' => e = .returned (.agg #[.int .i64 p, .slice (cutA ad M l.length) (l.length - M) (l.length - M)]) ∧ Below W.heap.size W w' :=
    fun W => cut_any p ad l.length c M l.length W (by omega) (by omega) hlc
  have hcc : ∀ g W, g < W.heap.size → W.cell? ⟨g, 0, none⟩ = some (.slice (cutA ad 0 k) k k) → W.cell? ⟨g, 1, none⟩ = some (.slice (cutA ad M l.length) (l.length - M) (l.length - M)) → Below w.heap.size w W →
      Calls Tryd.prog 87 #[.slice (some ⟨g, 0, none⟩) 2 2] W fun e w' => ∃ v, e = .returned v ∧ w'.ownsRow W.heap.size 26 3 v (dropC l k).length (clus (dropC l k)) ∧ Below W.heap.size W w' := fun g W h1 h2 h3 hb => by
    have e1 : (l.take k).length = k := by rw [List.length_take]; omega
    have e2 : (l.drop M).length = l.length - M := by rw [List.length_drop]
    have r1 := reads_cut (hr.old hb) (i := 0) (j := k) (by omega) (by omega)
    have r2 := reads_cut (hr.old hb) (i := M) (j := l.length) (by omega) (by omega)
    rw [partL_upto] at r1
    rw [partL_from] at r2
    have := concat_any (l.take k) (l.drop M) (cutA ad 0 k) (cutA ad M l.length) k (l.length - M) g W (by omega) (by omega) h1 (by rw [e1]; exact h2) (by rw [e2]; exact h3) r1 r2 (Or.inr ⟨cutA_some hn, cutA_some hn⟩)
    rw [hM] at this
    exact this
  generalize cutA ad 0 k = a1 at *
  generalize cutA ad M l.length = a2 at *
  have HC1 := Lib.hid hc1; clear hc1
  have HC2 := Lib.hid hc2; clear hc2
  have HCC := Lib.hid hcc; clear hcc
  clear hr hn
  have K4 : IntKind.i64.wrap ((k : Int) + 1) = (M : Int) := by rw [IntKind.wrap_i64]; omega
  have HM := Lib.hid hM; clear hM
  have hb1 := Below.ofNew (w := w) (.cells #[.int .i64 p, .slice ad l.length c] 38)
  have A1 := (ObAt.new w 38 #[.int .i64 p, .slice ad l.length c]).old (.cells #[.int .i64 0, .slice none 0 0] 38)
  have A2 := ObAt.new (w.alloc (.cells #[.int .i64 p, .slice ad l.length c] 38)) 38 #[.int .i64 0, .slice none 0 0]
  have hb2 := hb1.alloc hb1.size (.cells #[.int .i64 0, .slice none 0 0] 38)
  rw [World.size_alloc] at A2
  generalize hX : (w.alloc (.cells #[.int .i64 p, .slice ad l.length c] 38)).alloc (.cells #[.int .i64 0, .slice none 0 0] 38) = X at *
  have HX := Lib.hid hX; clear hX
  have HL := Lib.hid A1
  have HA := Lib.hid (And.intro A2 hb2)
  clear A1 A2 hb1 hb2
  go_enter Tryd.func66, Tryd.ntmps66
  go_upto_region 1 with fail
  rw [HX.out]
  go_cut [5, 6] (fun s5 s6 wx => Hid (CutW p (.slice a1 k k) (.slice a2 (l.length - M) (l.length - M)) X s5 s6 wx))
  case first =>
    clear HCC HA HX
    refine wp_region_held_drew (S := fun wi => wi.cell? ⟨w.heap.size, 0, none⟩ = some (.int .i64 p) ∧ wi.cell? ⟨w.heap.size, 1, none⟩ = some (.slice ad l.length c) ∧ Below X.heap.size X wi) (by kernel_rfl) (PzH.of HL.out (Below.drew (Below.refl _ _))) (fun hHeld => ?_)
    (refine wpAnyH_take (i := 0) (v := ?_) rfl (by kernel_rfl) (by kernel_rfl) (by kernel_rfl) (fun _ _ _ h => h) (Or.inl ⟨by kernel_rfl, ?_⟩) (by assumption) ?_; rotate_left; focus (intro w hSw; (try dsimp only at hSw); go_simp; try with_reducible rfl); (try simp only [List.getElem_toArray, List.getElem_cons_succ, List.getElem_cons_zero, Act.put, List.setIfInBounds_toArray, List.set_cons_zero, List.set_cons_succ])); (refine wpAnyH_take (i := 1) (v := ?_) rfl (by kernel_rfl) (by kernel_rfl) (by kernel_rfl) (fun _ _ _ h => h) (Or.inl ⟨by kernel_rfl, ?_⟩) (by assumption) ?_; rotate_left; focus (intro w hSw; (try dsimp only at hSw); go_simp; try with_reducible rfl); (try simp only [List.getElem_toArray, List.getElem_cons_succ, List.getElem_cons_zero, Act.put, List.setIfInBounds_toArray, List.set_cons_zero, List.set_cons_succ])); (refine wpAnyH_take (i := 3) (v := ?_) rfl (by kernel_rfl) (by kernel_rfl) (by kernel_rfl) (fun _ _ _ h => h) (Or.inl ⟨by kernel_rfl, ?_⟩) (by assumption) ?_; rotate_left; focus (intro w hSw; (try dsimp only at hSw); go_simp; try with_reducible rfl); (try simp only [List.getElem_toArray, List.getElem_cons_succ, List.getElem_cons_zero, Act.put, List.setIfInBounds_toArray, List.set_cons_zero, List.set_cons_succ])); (refine wpAnyH_take (i := 4) (v := ?_) rfl (by kernel_rfl) (by kernel_rfl) (by kernel_rfl) (fun _ _ _ h => h) (Or.inl ⟨by kernel_rfl, ?_⟩) (by assumption) ?_; rotate_left; focus (intro w hSw; (try dsimp only at hSw); go_simp; try with_reducible rfl); (try simp only [List.getElem_toArray, List.getElem_cons_succ, List.getElem_cons_zero, Act.put, List.setIfInBounds_toArray, List.set_cons_zero, List.set_cons_succ])); (refine wpAnyH_take (i := 5) (v := ?_) rfl (by kernel_rfl) (by kernel_rfl) (by kernel_rfl) (fun _ _ _ h => h) (Or.inl ⟨by kernel_rfl, ?_⟩) (by assumption) ?_; rotate_left; focus (intro w hSw; (try dsimp only at hSw); go_simp; try with_reducible rfl); (try simp only [List.getElem_toArray, List.getElem_cons_succ, List.getElem_cons_zero, Act.put, List.setIfInBounds_toArray, List.set_cons_zero, List.set_cons_succ])); (refine wpAnyH_take (i := 6) (v := ?_) rfl (by kernel_rfl) (by kernel_rfl) (by kernel_rfl) (fun _ _ _ h => h) (Or.inl ⟨by kernel_rfl, ?_⟩) (by assumption) ?_; rotate_left; focus (intro w hSw; (try dsimp only at hSw); go_simp; try with_reducible rfl); (try simp only [List.getElem_toArray, List.getElem_cons_succ, List.getElem_cons_zero, Act.put, List.setIfInBounds_toArray, List.set_cons_zero, List.set_cons_succ])); (refine wpAnyH_take (i := 7) (v := ?_) rfl (by kernel_rfl) (by kernel_rfl) (by kernel_rfl) (fun _ _ _ h => h) (Or.inl ⟨by kernel_rfl, ?_⟩) (by assumption) ?_; rotate_left; focus (intro w hSw; (try dsimp only at hSw); go_simp; try with_reducible rfl); (try simp only [List.getElem_toArray, List.getElem_cons_succ, List.getElem_cons_zero, Act.put, List.setIfInBounds_toArray, List.set_cons_zero, List.set_cons_succ])); (refine wpAnyH_take (i := 8) (v := ?_) rfl (by kernel_rfl) (by kernel_rfl) (by kernel_rfl) (fun _ _ _ h => h) (Or.inl ⟨by kernel_rfl, ?_⟩) (by assumption) ?_; rotate_left; focus (intro w hSw; (try dsimp only at hSw); go_simp; try with_reducible rfl); (try simp only [List.getElem_toArray, List.getElem_cons_succ, List.getElem_cons_zero, Act.put, List.setIfInBounds_toArray, List.set_cons_zero, List.set_cons_succ]))
    generalize X.drew = X0 at *
    generalize w.heap.size = g at *
    refine wpAnyH_ready (rs := [2, 10, 11]) (by kernel_rfl) (by simp) (AllReadyH.cons rfl (fun K hK => ?_) (AllReadyH.cons rfl (fun K hK => ?_) (AllReadyH.cons rfl (fun K hK => ?_) AllReadyH.nil)))
    · go_simp
      go_at_call 67
      refine (HC1.out _).mono ?_; rintro e wA ⟨rfl, bd⟩
      have KS := Lib.hid (PzH.of HL.out (hHeld.2.2.trans (bd.mono hHeld.2.2.size)))
      clear bd hHeld
      go_wp2_with fail
      first
        | refine hK.out _ _ KS.out (fun hHeld => ?_)
        | refine hK _ _ KS.out (fun hHeld => ?_)
      clear hK K KS
      (try simp only [List.getElem_toArray, List.getElem_cons_succ, List.getElem_cons_zero, Act.put, List.setIfInBounds_toArray, List.set_cons_zero, List.set_cons_succ])
      refine wpAnyH_ready (rs := [9, 10, 11]) (by kernel_rfl) (by simp) (AllReadyH.cons rfl (fun K hK => ?_) (AllReadyH.cons rfl (fun K hK => ?_) (AllReadyH.cons rfl (fun K hK => ?_) AllReadyH.nil)))
      · go_simp
        go_at_call 67
        refine (HC2.out _).mono ?_; rintro e wB ⟨rfl, bd⟩
        have KS := Lib.hid (PzH.of HL.out (hHeld.2.2.trans (bd.mono hHeld.2.2.size)))
        clear bd hHeld
        go_wp2_with fail
        first
          | refine hK.out _ _ KS.out (fun hHeld => ?_)
          | refine hK _ _ KS.out (fun hHeld => ?_)
        clear hK K KS
        (try simp only [List.getElem_toArray, List.getElem_cons_succ, List.getElem_cons_zero, Act.put, List.setIfInBounds_toArray, List.set_cons_zero, List.set_cons_succ])
        refine wpAnyH_ready (rs := [10, 11]) (by kernel_rfl) (by simp) (AllReadyH.cons rfl (fun K hK => ?_) (AllReadyH.cons rfl (fun K hK => ?_) AllReadyH.nil))
        · go_simp
          have bd := Below.ofNew (w := wB) (.cells #[.int .i64 0, .slice none 0 0] 38)
          have KS := Lib.hid (PzH.of HL.out (hHeld.2.2.trans (bd.mono hHeld.2.2.size)))
          have K10' := Lib.hid (And.intro (ObAt.new wB 38 #[.int .i64 0, .slice none 0 0]) hHeld.2.2.size)
          have K10 := K10'; clear K10' bd hHeld
          generalize wB.alloc (.cells #[.int .i64 0, .slice none 0 0] 38) = wY at *
          generalize wB.heap.size = g10 at *
          first
            | refine hK.out _ _ KS.out (fun hHeld => ?_)
            | refine hK _ _ KS.out (fun hHeld => ?_)
          clear hK K KS
          (try simp only [List.getElem_toArray, List.getElem_cons_succ, List.getElem_cons_zero, Act.put, List.setIfInBounds_toArray, List.set_cons_zero, List.set_cons_succ])
          refine wpAnyH_ready (rs := [11]) (by kernel_rfl) (by simp) ?_; refine AllReadyH.cons rfl (fun K hK => ?_) AllReadyH.nil
          go_simp
          have bd := Below.ofNew (w := wY) (.cells #[.int .i64 0, .slice none 0 0] 38)
          have KS := Lib.hid (PzH.of HL.out (hHeld.2.2.trans (bd.mono hHeld.2.2.size)))
          have K11' := Lib.hid (And.intro (ObAt.new wY 38 #[.int .i64 0, .slice none 0 0]) hHeld.2.2.size)
          have HNE := Lib.hid (show _ ≠ wY.heap.size from Nat.ne_of_lt K10.out.1.lt)
          have K10n := Lib.hid (And.intro (K10.out.1.keep bd) K10.out.2); clear K10; have K10 := K10n; clear K10n
          have K11 := K11'; clear K11' bd hHeld
          generalize wY.alloc (.cells #[.int .i64 0, .slice none 0 0] 38) = wZ at *
          generalize wY.heap.size = g11 at *
          first
            | refine hK.out _ _ KS.out (fun hHeld => ?_)
            | refine hK _ _ KS.out (fun hHeld => ?_)
          clear hK K KS
          (try simp only [List.getElem_toArray, List.getElem_cons_succ, List.getElem_cons_zero, Act.put, List.setIfInBounds_toArray, List.set_cons_zero, List.set_cons_succ])
          have hcut := Lib.hid (CutW.mk (p := p) (b1 := .slice a1 k k) (b2 := .slice a2 (l.length - M) (l.length - M)) K10.out.1 K11.out.1 K10.out.2 K11.out.2 HNE.out hHeld.2.2)
          obtain ⟨z0, z1, f0, f1⟩ := K10.out.1.two
          obtain ⟨y0, y1, e0, e1⟩ := (((K11.out.1.other (h := g10) (o := 0) HNE.out.symm (.int .i64 p)).other (h := g10) (o := 1) HNE.out.symm (.slice a1 k k))).two
          have KS := Lib.hid (PzH.of HL.out (CutW.half K10.out.2 hHeld.2.2 (.int .i64 p) (.slice a1 k k)))
          have KS2 := Lib.hid (PzH.of HL.out (CutW.below hcut.out))
          clear hHeld
          refine wpAnyH_ready (rs := [12]) (by kernel_rfl) (by simp) ?_; refine AllReadyH.cons rfl (fun K hK => ?_) AllReadyH.nil
          go_simp
          clear z0 z1 f0 f1
          first
            | refine hK.out _ _ KS.out (fun hHeld => ?_)
            | refine hK _ _ KS.out (fun hHeld => ?_)
          clear hK K KS
          (try simp only [List.getElem_toArray, List.getElem_cons_succ, List.getElem_cons_zero, Act.put, List.setIfInBounds_toArray, List.set_cons_zero, List.set_cons_succ])
          clear hHeld
          refine wpAnyH_ready (rs := [13]) (by kernel_rfl) (by simp) ?_; refine AllReadyH.cons rfl (fun K hK => ?_) AllReadyH.nil
          go_simp
          clear y0 y1 e0 e1
          have KS := KS2; clear KS2
          first
            | refine hK.out _ _ KS.out (fun hHeld => ?_)
            | refine hK _ _ KS.out (fun hHeld => ?_)
          clear hK K KS
          (try simp only [List.getElem_toArray, List.getElem_cons_succ, List.getElem_cons_zero, Act.put, List.setIfInBounds_toArray, List.set_cons_zero, List.set_cons_succ])
          clear hHeld
          refine wpAnyH_done (by kernel_rfl) ?_ _
          go_wp2_with fail
          go_meet
          exact hcut
        · go_simp
          have bd := Below.ofNew (w := wB) (.cells #[.int .i64 0, .slice none 0 0] 38)
          have KS := Lib.hid (PzH.of HL.out (hHeld.2.2.trans (bd.mono hHeld.2.2.size)))
          have K11' := Lib.hid (And.intro (ObAt.new wB 38 #[.int .i64 0, .slice none 0 0]) hHeld.2.2.size)
          have K11 := K11'; clear K11' bd hHeld
          generalize wB.alloc (.cells #[.int .i64 0, .slice none 0 0] 38) = wZ at *
          generalize wB.heap.size = g11 at *
          first
            | refine hK.out _ _ KS.out (fun hHeld => ?_)
            | refine hK _ _ KS.out (fun hHeld => ?_)
          clear hK K KS
          (try simp only [List.getElem_toArray, List.getElem_cons_succ, List.getElem_cons_zero, Act.put, List.setIfInBounds_toArray, List.set_cons_zero, List.set_cons_succ])
          refine wpAnyH_ready (rs := [10]) (by kernel_rfl) (by simp) ?_; refine AllReadyH.cons rfl (fun K hK => ?_) AllReadyH.nil
          go_simp
          have bd := Below.ofNew (w := wZ) (.cells #[.int .i64 0, .slice none 0 0] 38)
          have KS := Lib.hid (PzH.of HL.out (hHeld.2.2.trans (bd.mono hHeld.2.2.size)))
          have K10' := Lib.hid (And.intro (ObAt.new wZ 38 #[.int .i64 0, .slice none 0 0]) hHeld.2.2.size)
          have HNE := Lib.hid (show wZ.heap.size ≠ _ from Nat.ne_of_gt K11.out.1.lt)
          have K11n := Lib.hid (And.intro (K11.out.1.keep bd) K11.out.2); clear K11; have K11 := K11n; clear K11n
          have K10 := K10'; clear K10' bd hHeld
          generalize wZ.alloc (.cells #[.int .i64 0, .slice none 0 0] 38) = wY at *
          generalize wZ.heap.size = g10 at *
          first
            | refine hK.out _ _ KS.out (fun hHeld => ?_)
            | refine hK _ _ KS.out (fun hHeld => ?_)
          clear hK K KS
          (try simp only [List.getElem_toArray, List.getElem_cons_succ, List.getElem_cons_zero, Act.put, List.setIfInBounds_toArray, List.set_cons_zero, List.set_cons_succ])
          have hcut := Lib.hid (CutW.mk (p := p) (b1 := .slice a1 k k) (b2 := .slice a2 (l.length - M) (l.length - M)) K10.out.1 K11.out.1 K10.out.2 K11.out.2 HNE.out hHeld.2.2)
          obtain ⟨z0, z1, f0, f1⟩ := K10.out.1.two
          obtain ⟨y0, y1, e0, e1⟩ := (((K11.out.1.other (h := g10) (o := 0) HNE.out.symm (.int .i64 p)).other (h := g10) (o := 1) HNE.out.symm (.slice a1 k k))).two
          have KS := Lib.hid (PzH.of HL.out (CutW.half K10.out.2 hHeld.2.2 (.int .i64 p) (.slice a1 k k)))
          have KS2 := Lib.hid (PzH.of HL.out (CutW.below hcut.out))
          clear hHeld
          refine wpAnyH_ready (rs := [12]) (by kernel_rfl) (by simp) ?_; refine AllReadyH.cons rfl (fun K hK => ?_) AllReadyH.nil
          go_simp
          clear z0 z1 f0 f1
          first
            | refine hK.out _ _ KS.out (fun hHeld => ?_)
            | refine hK _ _ KS.out (fun hHeld => ?_)
          clear hK K KS
          (try simp only [List.getElem_toArray, List.getElem_cons_succ, List.getElem_cons_zero, Act.put, List.setIfInBounds_toArray, List.set_cons_zero, List.set_cons_succ])
          clear hHeld
          refine wpAnyH_ready (rs := [13]) (by kernel_rfl) (by simp) ?_; refine AllReadyH.cons rfl (fun K hK => ?_) AllReadyH.nil
          go_simp
          clear y0 y1 e0 e1
          have KS := KS2; clear KS2
          first
            | refine hK.out _ _ KS.out (fun hHeld => ?_)
            | refine hK _ _ KS.out (fun hHeld => ?_)
          clear hK K KS
          (try simp only [List.getElem_toArray, List.getElem_cons_succ, List.getElem_cons_zero, Act.put, List.setIfInBounds_toArray, List.set_cons_zero, List.set_cons_succ])
          clear hHeld
          refine wpAnyH_done (by kernel_rfl) ?_ _
          go_wp2_with fail
          go_meet
          exact hcut
      · go_simp
        have bd := Below.ofNew (w := wA) (.cells #[.int .i64 0, .slice none 0 0] 38)
        have KS := Lib.hid (PzH.of HL.out (hHeld.2.2.trans (bd.mono hHeld.2.2.size)))
        have K10' := Lib.hid (And.intro (ObAt.new wA 38 #[.int .i64 0, .slice none 0 0]) hHeld.2.2.size)
        have K10 := K10'; clear K10' bd hHeld
        generalize wA.alloc (.cells #[.int .i64 0, .slice none 0 0] 38) = wY at *
        generalize wA.heap.size = g10 at *
        first
          | refine hK.out _ _ KS.out (fun hHeld => ?_)
          | refine hK _ _ KS.out (fun hHeld => ?_)
        clear hK K KS
        (try simp only [List.getElem_toArray, List.getElem_cons_succ, List.getElem_cons_zero, Act.put, List.setIfInBounds_toArray, List.set_cons_zero, List.set_cons_succ])
        refine wpAnyH_ready (rs := [9, 11]) (by kernel_rfl) (by simp) (AllReadyH.cons rfl (fun K hK => ?_) (AllReadyH.cons rfl (fun K hK => ?_) AllReadyH.nil))
        · go_simp
          go_at_call 67
          refine (HC2.out _).mono ?_; rintro e wB ⟨rfl, bd⟩
          have KS := Lib.hid (PzH.of HL.out (hHeld.2.2.trans (bd.mono hHeld.2.2.size)))
          have K10n := Lib.hid (And.intro (K10.out.1.keep bd) K10.out.2); clear K10; have K10 := K10n; clear K10n
          clear bd hHeld
          go_wp2_with fail
          first
            | refine hK.out _ _ KS.out (fun hHeld => ?_)
            | refine hK _ _ KS.out (fun hHeld => ?_)
          clear hK K KS
          (try simp only [List.getElem_toArray, List.getElem_cons_succ, List.getElem_cons_zero, Act.put, List.setIfInBounds_toArray, List.set_cons_zero, List.set_cons_succ])
          refine wpAnyH_ready (rs := [11]) (by kernel_rfl) (by simp) ?_; refine AllReadyH.cons rfl (fun K hK => ?_) AllReadyH.nil
          go_simp
          have bd := Below.ofNew (w := wB) (.cells #[.int .i64 0, .slice none 0 0] 38)
          have KS := Lib.hid (PzH.of HL.out (hHeld.2.2.trans (bd.mono hHeld.2.2.size)))
          have K11' := Lib.hid (And.intro (ObAt.new wB 38 #[.int .i64 0, .slice none 0 0]) hHeld.2.2.size)
          have HNE := Lib.hid (show _ ≠ wB.heap.size from Nat.ne_of_lt K10.out.1.lt)
          have K10n := Lib.hid (And.intro (K10.out.1.keep bd) K10.out.2); clear K10; have K10 := K10n; clear K10n
          have K11 := K11'; clear K11' bd hHeld
          generalize wB.alloc (.cells #[.int .i64 0, .slice none 0 0] 38) = wZ at *
          generalize wB.heap.size = g11 at *
          first
            | refine hK.out _ _ KS.out (fun hHeld => ?_)
            | refine hK _ _ KS.out (fun hHeld => ?_)
          clear hK K KS
          (try simp only [List.getElem_toArray, List.getElem_cons_succ, List.getElem_cons_zero, Act.put, List.setIfInBounds_toArray, List.set_cons_zero, List.set_cons_succ])
          have hcut := Lib.hid (CutW.mk (p := p) (b1 := .slice a1 k k) (b2 := .slice a2 (l.length - M) (l.length - M)) K10.out.1 K11.out.1 K10.out.2 K11.out.2 HNE.out hHeld.2.2)
          obtain ⟨z0, z1, f0, f1⟩ := K10.out.1.two
          obtain ⟨y0, y1, e0, e1⟩ := (((K11.out.1.other (h := g10) (o := 0) HNE.out.symm (.int .i64 p)).other (h := g10) (o := 1) HNE.out.symm (.slice a1 k k))).two
          have KS := Lib.hid (PzH.of HL.out (CutW.half K10.out.2 hHeld.2.2 (.int .i64 p) (.slice a1 k k)))
          have KS2 := Lib.hid (PzH.of HL.out (CutW.below hcut.out))
          clear hHeld
          refine wpAnyH_ready (rs := [12]) (by kernel_rfl) (by simp) ?_; refine AllReadyH.cons rfl (fun K hK => ?_) AllReadyH.nil
          go_simp
          clear z0 z1 f0 f1
          first
            | refine hK.out _ _ KS.out (fun hHeld => ?_)
            | refine hK _ _ KS.out (fun hHeld => ?_)
          clear hK K KS
          (try simp only [List.getElem_toArray, List.getElem_cons_succ, List.getElem_cons_zero, Act.put, List.setIfInBounds_toArray, List.set_cons_zero, List.set_cons_succ])
          clear hHeld
          refine wpAnyH_ready (rs := [13]) (by kernel_rfl) (by simp) ?_; refine AllReadyH.cons rfl (fun K hK => ?_) AllReadyH.nil
          go_simp
          clear y0 y1 e0 e1
          have KS := KS2; clear KS2
          first
            | refine hK.out _ _ KS.out (fun hHeld => ?_)
            | refine hK _ _ KS.out (fun hHeld => ?_)
          clear hK K KS
          (try simp only [List.getElem_toArray, List.getElem_cons_succ, List.getElem_cons_zero, Act.put, List.setIfInBounds_toArray, List.set_cons_zero, List.set_cons_succ])
          clear hHeld
          refine wpAnyH_done (by kernel_rfl) ?_ _
          go_wp2_with fail
          go_meet
          exact hcut
        · go_simp
          have bd := Below.ofNew (w := wY) (.cells #[.int .i64 0, .slice none 0 0] 38)
          have KS := Lib.hid (PzH.of HL.out (hHeld.2.2.trans (bd.mono hHeld.2.2.size)))
          have K11' := Lib.hid (And.intro (ObAt.new wY 38 #[.int .i64 0, .slice none 0 0]) hHeld.2.2.size)
          have HNE := Lib.hid (show _ ≠ wY.heap.size from Nat.ne_of_lt K10.out.1.lt)
          have K10n := Lib.hid (And.intro (K10.out.1.keep bd) K10.out.2); clear K10; have K10 := K10n; clear K10n
          have K11 := K11'; clear K11' bd hHeld
          generalize wY.alloc (.cells #[.int .i64 0, .slice none 0 0] 38) = wZ at *
          generalize wY.heap.size = g11 at *
          first
            | refine hK.out _ _ KS.out (fun hHeld => ?_)
            | refine hK _ _ KS.out (fun hHeld => ?_)
          clear hK K KS
          (try simp only [List.getElem_toArray, List.getElem_cons_succ, List.getElem_cons_zero, Act.put, List.setIfInBounds_toArray, List.set_cons_zero, List.set_cons_succ])
          refine wpAnyH_ready (rs := [9]) (by kernel_rfl) (by simp) ?_; refine AllReadyH.cons rfl (fun K hK => ?_) AllReadyH.nil
          go_simp
          go_at_call 67
          refine (HC2.out _).mono ?_; rintro e wB ⟨rfl, bd⟩
          have KS := Lib.hid (PzH.of HL.out (hHeld.2.2.trans (bd.mono hHeld.2.2.size)))
          have K10n := Lib.hid (And.intro (K10.out.1.keep bd) K10.out.2); clear K10; have K10 := K10n; clear K10n
          have K11n := Lib.hid (And.intro (K11.out.1.keep bd) K11.out.2); clear K11; have K11 := K11n; clear K11n
          clear bd hHeld
          go_wp2_with fail
          first
            | refine hK.out _ _ KS.out (fun hHeld => ?_)
            | refine hK _ _ KS.out (fun hHeld => ?_)
          clear hK K KS
          (try simp only [List.getElem_toArray, List.getElem_cons_succ, List.getElem_cons_zero, Act.put, List.setIfInBounds_toArray, List.set_cons_zero, List.set_cons_succ])
          have hcut := Lib.hid (CutW.mk (p := p) (b1 := .slice a1 k k) (b2 := .slice a2 (l.length - M) (l.length - M)) K10.out.1 K11.out.1 K10.out.2 K11.out.2 HNE.out hHeld.2.2)
          obtain ⟨z0, z1, f0, f1⟩ := K10.out.1.two
          obtain ⟨y0, y1, e0, e1⟩ := (((K11.out.1.other (h := g10) (o := 0) HNE.out.symm (.int .i64 p)).other (h := g10) (o := 1) HNE.out.symm (.slice a1 k k))).two
          have KS := Lib.hid (PzH.of HL.out (CutW.half K10.out.2 hHeld.2.2 (.int .i64 p) (.slice a1 k k)))
          have KS2 := Lib.hid (PzH.of HL.out (CutW.below hcut.out))
          clear hHeld
          refine wpAnyH_ready (rs := [12]) (by kernel_rfl) (by simp) ?_; refine AllReadyH.cons rfl (fun K hK => ?_) AllReadyH.nil
          go_simp
          clear z0 z1 f0 f1
          first
            | refine hK.out _ _ KS.out (fun hHeld => ?_)
            | refine hK _ _ KS.out (fun hHeld => ?_)
          clear hK K KS
          (try simp only [List.getElem_toArray, List.getElem_cons_succ, List.getElem_cons_zero, Act.put, List.setIfInBounds_toArray, List.set_cons_zero, List.set_cons_succ])
          clear hHeld
          refine wpAnyH_ready (rs := [13]) (by kernel_rfl) (by simp) ?_; refine AllReadyH.cons rfl (fun K hK => ?_) AllReadyH.nil
          go_simp
          clear y0 y1 e0 e1
          have KS := KS2; clear KS2
          first
            | refine hK.out _ _ KS.out (fun hHeld => ?_)
            | refine hK _ _ KS.out (fun hHeld => ?_)
          clear hK K KS
          (try simp only [List.getElem_toArray, List.getElem_cons_succ, List.getElem_cons_zero, Act.put, List.setIfInBounds_toArray, List.set_cons_zero, List.set_cons_succ])
          clear hHeld
          refine wpAnyH_done (by kernel_rfl) ?_ _
          go_wp2_with fail
          go_meet
          exact hcut
      · go_simp
        have bd := Below.ofNew (w := wA) (.cells #[.int .i64 0, .slice none 0 0] 38)
        have KS := Lib.hid (PzH.of HL.out (hHeld.2.2.trans (bd.mono hHeld.2.2.size)))
        have K11' := Lib.hid (And.intro (ObAt.new wA 38 #[.int .i64 0, .slice none 0 0]) hHeld.2.2.size)
        have K11 := K11'; clear K11' bd hHeld
        generalize wA.alloc (.cells #[.int .i64 0, .slice none 0 0] 38) = wZ at *
        generalize wA.heap.size = g11 at *
        first
          | refine hK.out _ _ KS.out (fun hHeld => ?_)
          | refine hK _ _ KS.out (fun hHeld => ?_)
        clear hK K KS
        (try simp only [List.getElem_toArray, List.getElem_cons_succ, List.getElem_cons_zero, Act.put, List.setIfInBounds_toArray, List.set_cons_zero, List.set_cons_succ])
        refine wpAnyH_ready (rs := [9, 10]) (by kernel_rfl) (by simp) (AllReadyH.cons rfl (fun K hK => ?_) (AllReadyH.cons rfl (fun K hK => ?_) AllReadyH.nil))
        · go_simp
          go_at_call 67
          refine (HC2.out _).mono ?_; rintro e wB ⟨rfl, bd⟩
          have KS := Lib.hid (PzH.of HL.out (hHeld.2.2.trans (bd.mono hHeld.2.2.size)))
          have K11n := Lib.hid (And.intro (K11.out.1.keep bd) K11.out.2); clear K11; have K11 := K11n; clear K11n
          clear bd hHeld
          go_wp2_with fail
          first
            | refine hK.out _ _ KS.out (fun hHeld => ?_)
            | refine hK _ _ KS.out (fun hHeld => ?_)
          clear hK K KS
          (try simp only [List.getElem_toArray, List.getElem_cons_succ, List.getElem_cons_zero, Act.put, List.setIfInBounds_toArray, List.set_cons_zero, List.set_cons_succ])
          refine wpAnyH_ready (rs := [10]) (by kernel_rfl) (by simp) ?_; refine AllReadyH.cons rfl (fun K hK => ?_) AllReadyH.nil
          go_simp
          have bd := Below.ofNew (w := wB) (.cells #[.int .i64 0, .slice none 0 0] 38)
          have KS := Lib.hid (PzH.of HL.out (hHeld.2.2.trans (bd.mono hHeld.2.2.size)))
          have K10' := Lib.hid (And.intro (ObAt.new wB 38 #[.int .i64 0, .slice none 0 0]) hHeld.2.2.size)
          have HNE := Lib.hid (show wB.heap.size ≠ _ from Nat.ne_of_gt K11.out.1.lt)
          have K11n := Lib.hid (And.intro (K11.out.1.keep bd) K11.out.2); clear K11; have K11 := K11n; clear K11n
          have K10 := K10'; clear K10' bd hHeld
          generalize wB.alloc (.cells #[.int .i64 0, .slice none 0 0] 38) = wY at *
          generalize wB.heap.size = g10 at *
          first
            | refine hK.out _ _ KS.out (fun hHeld => ?_)
            | refine hK _ _ KS.out (fun hHeld => ?_)
          clear hK K KS
          (try simp only [List.getElem_toArray, List.getElem_cons_succ, List.getElem_cons_zero, Act.put, List.setIfInBounds_toArray, List.set_cons_zero, List.set_cons_succ])
          have hcut := Lib.hid (CutW.mk (p := p) (b1 := .slice a1 k k) (b2 := .slice a2 (l.length - M) (l.length - M)) K10.out.1 K11.out.1 K10.out.2 K11.out.2 HNE.out hHeld.2.2)
          obtain ⟨z0, z1, f0, f1⟩ := K10.out.1.two
          obtain ⟨y0, y1, e0, e1⟩ := (((K11.out.1.other (h := g10) (o := 0) HNE.out.symm (.int .i64 p)).other (h := g10) (o := 1) HNE.out.symm (.slice a1 k k))).two
          have KS := Lib.hid (PzH.of HL.out (CutW.half K10.out.2 hHeld.2.2 (.int .i64 p) (.slice a1 k k)))
          have KS2 := Lib.hid (PzH.of HL.out (CutW.below hcut.out))
          clear hHeld
          refine wpAnyH_ready (rs := [12]) (by kernel_rfl) (by simp) ?_; refine AllReadyH.cons rfl (fun K hK => ?_) AllReadyH.nil
          go_simp
          clear z0 z1 f0 f1
          first
            | refine hK.out _ _ KS.out (fun hHeld => ?_)
            | refine hK _ _ KS.out (fun hHeld => ?_)
          clear hK K KS
          (try simp only [List.getElem_toArray, List.getElem_cons_succ, List.getElem_cons_zero, Act.put, List.setIfInBounds_toArray, List.set_cons_zero, List.set_cons_succ])
          clear hHeld
          refine wpAnyH_ready (rs := [13]) (by kernel_rfl) (by simp) ?_; refine AllReadyH.cons rfl (fun K hK => ?_) AllReadyH.nil
          go_simp
          clear y0 y1 e0 e1
          have KS := KS2; clear KS2
          first
            | refine hK.out _ _ KS.out (fun hHeld => ?_)
            | refine hK _ _ KS.out (fun hHeld => ?_)
          clear hK K KS
          (try simp only [List.getElem_toArray, List.getElem_cons_succ, List.getElem_cons_zero, Act.put, List.setIfInBounds_toArray, List.set_cons_zero, List.set_cons_succ])
          clear hHeld
          refine wpAnyH_done (by kernel_rfl) ?_ _
          go_wp2_with fail
          go_meet
          exact hcut
        · go_simp
          have bd := Below.ofNew (w := wZ) (.cells #[.int .i64 0, .slice none 0 0] 38)
          have KS := Lib.hid (PzH.of HL.out (hHeld.2.2.trans (bd.mono hHeld.2.2.size)))
          have K10' := Lib.hid (And.intro (ObAt.new wZ 38 #[.int .i64 0, .slice none 0 0]) hHeld.2.2.size)
          have HNE := Lib.hid (show wZ.heap.size ≠ _ from Nat.ne_of_gt K11.out.1.lt)
          have K11n := Lib.hid (And.intro (K11.out.1.keep bd) K11.out.2); clear K11; have K11 := K11n; clear K11n
          have K10 := K10'; clear K10' bd hHeld
          generalize wZ.alloc (.cells #[.int .i64 0, .slice none 0 0] 38) = wY at *
          generalize wZ.heap.size = g10 at *
          first
            | refine hK.out _ _ KS.out (fun hHeld => ?_)
            | refine hK _ _ KS.out (fun hHeld => ?_)
          clear hK K KS
          (try simp only [List.getElem_toArray, List.getElem_cons_succ, List.getElem_cons_zero, Act.put, List.setIfInBounds_toArray, List.set_cons_zero, List.set_cons_succ])
          refine wpAnyH_ready (rs := [9]) (by kernel_rfl) (by simp) ?_; refine AllReadyH.cons rfl (fun K hK => ?_) AllReadyH.nil
          go_simp
          go_at_call 67
          refine (HC2.out _).mono ?_; rintro e wB ⟨rfl, bd⟩
          have KS := Lib.hid (PzH.of HL.out (hHeld.2.2.trans (bd.mono hHeld.2.2.size)))
          have K10n := Lib.hid (And.intro (K10.out.1.keep bd) K10.out.2); clear K10; have K10 := K10n; clear K10n
          have K11n := Lib.hid (And.intro (K11.out.1.keep bd) K11.out.2); clear K11; have K11 := K11n; clear K11n
          clear bd hHeld
          go_wp2_with fail
          first
            | refine hK.out _ _ KS.out (fun hHeld => ?_)
            | refine hK _ _ KS.out (fun hHeld => ?_)
          clear hK K KS
          (try simp only [List.getElem_toArray, List.getElem_cons_succ, List.getElem_cons_zero, Act.put, List.setIfInBounds_toArray, List.set_cons_zero, List.set_cons_succ])
          have hcut := Lib.hid (CutW.mk (p := p) (b1 := .slice a1 k k) (b2 := .slice a2 (l.length - M) (l.length - M)) K10.out.1 K11.out.1 K10.out.2 K11.out.2 HNE.out hHeld.2.2)
          obtain ⟨z0, z1, f0, f1⟩ := K10.out.1.two
          obtain ⟨y0, y1, e0, e1⟩ := (((K11.out.1.other (h := g10) (o := 0) HNE.out.symm (.int .i64 p)).other (h := g10) (o := 1) HNE.out.symm (.slice a1 k k))).two
          have KS := Lib.hid (PzH.of HL.out (CutW.half K10.out.2 hHeld.2.2 (.int .i64 p) (.slice a1 k k)))
          have KS2 := Lib.hid (PzH.of HL.out (CutW.below hcut.out))
          clear hHeld
          refine wpAnyH_ready (rs := [12]) (by kernel_rfl) (by simp) ?_; refine AllReadyH.cons rfl (fun K hK => ?_) AllReadyH.nil
          go_simp
          clear z0 z1 f0 f1
          first
            | refine hK.out _ _ KS.out (fun hHeld => ?_)
            | refine hK _ _ KS.out (fun hHeld => ?_)
          clear hK K KS
          (try simp only [List.getElem_toArray, List.getElem_cons_succ, List.getElem_cons_zero, Act.put, List.setIfInBounds_toArray, List.set_cons_zero, List.set_cons_succ])
          clear hHeld
          refine wpAnyH_ready (rs := [13]) (by kernel_rfl) (by simp) ?_; refine AllReadyH.cons rfl (fun K hK => ?_) AllReadyH.nil
          go_simp
          clear y0 y1 e0 e1
          have KS := KS2; clear KS2
          first
            | refine hK.out _ _ KS.out (fun hHeld => ?_)
            | refine hK _ _ KS.out (fun hHeld => ?_)
          clear hK K KS
          (try simp only [List.getElem_toArray, List.getElem_cons_succ, List.getElem_cons_zero, Act.put, List.setIfInBounds_toArray, List.set_cons_zero, List.set_cons_succ])
          clear hHeld
          refine wpAnyH_done (by kernel_rfl) ?_ _
          go_wp2_with fail
          go_meet
          exact hcut
    · go_simp
      have bd := Below.ofNew (w := X0) (.cells #[.int .i64 0, .slice none 0 0] 38)
      have KS := Lib.hid (PzH.of HL.out (hHeld.2.2.trans (bd.mono hHeld.2.2.size)))
      have K10' := Lib.hid (And.intro (ObAt.new X0 38 #[.int .i64 0, .slice none 0 0]) hHeld.2.2.size)
      have K10 := K10'; clear K10' bd hHeld
      generalize X0.alloc (.cells #[.int .i64 0, .slice none 0 0] 38) = wY at *
      generalize X0.heap.size = g10 at *
      first
        | refine hK.out _ _ KS.out (fun hHeld => ?_)
        | refine hK _ _ KS.out (fun hHeld => ?_)
      clear hK K KS
      (try simp only [List.getElem_toArray, List.getElem_cons_succ, List.getElem_cons_zero, Act.put, List.setIfInBounds_toArray, List.set_cons_zero, List.set_cons_succ])
      refine wpAnyH_ready (rs := [2, 11]) (by kernel_rfl) (by simp) (AllReadyH.cons rfl (fun K hK => ?_) (AllReadyH.cons rfl (fun K hK => ?_) AllReadyH.nil))
      · go_simp
        go_at_call 67
        refine (HC1.out _).mono ?_; rintro e wA ⟨rfl, bd⟩
        have KS := Lib.hid (PzH.of HL.out (hHeld.2.2.trans (bd.mono hHeld.2.2.size)))
        have K10n := Lib.hid (And.intro (K10.out.1.keep bd) K10.out.2); clear K10; have K10 := K10n; clear K10n
        clear bd hHeld
        go_wp2_with fail
        first
          | refine hK.out _ _ KS.out (fun hHeld => ?_)
          | refine hK _ _ KS.out (fun hHeld => ?_)
        clear hK K KS
        (try simp only [List.getElem_toArray, List.getElem_cons_succ, List.getElem_cons_zero, Act.put, List.setIfInBounds_toArray, List.set_cons_zero, List.set_cons_succ])
        refine wpAnyH_ready (rs := [9, 11]) (by kernel_rfl) (by simp) (AllReadyH.cons rfl (fun K hK => ?_) (AllReadyH.cons rfl (fun K hK => ?_) AllReadyH.nil))
        · go_simp
          go_at_call 67
          refine (HC2.out _).mono ?_; rintro e wB ⟨rfl, bd⟩
          have KS := Lib.hid (PzH.of HL.out (hHeld.2.2.trans (bd.mono hHeld.2.2.size)))
          have K10n := Lib.hid (And.intro (K10.out.1.keep bd) K10.out.2); clear K10; have K10 := K10n; clear K10n
          clear bd hHeld
          go_wp2_with fail
          first
            | refine hK.out _ _ KS.out (fun hHeld => ?_)
            | refine hK _ _ KS.out (fun hHeld => ?_)
          clear hK K KS
          (try simp only [List.getElem_toArray, List.getElem_cons_succ, List.getElem_cons_zero, Act.put, List.setIfInBounds_toArray, List.set_cons_zero, List.set_cons_succ])
          refine wpAnyH_ready (rs := [11]) (by kernel_rfl) (by simp) ?_; refine AllReadyH.cons rfl (fun K hK => ?_) AllReadyH.nil
          go_simp
          have bd := Below.ofNew (w := wB) (.cells #[.int .i64 0, .slice none 0 0] 38)
          have KS := Lib.hid (PzH.of HL.out (hHeld.2.2.trans (bd.mono hHeld.2.2.size)))
          have K11' := Lib.hid (And.intro (ObAt.new wB 38 #[.int .i64 0, .slice none 0 0]) hHeld.2.2.size)
          have HNE := Lib.hid (show _ ≠ wB.heap.size from Nat.ne_of_lt K10.out.1.lt)
          have K10n := Lib.hid (And.intro (K10.out.1.keep bd) K10.out.2); clear K10; have K10 := K10n; clear K10n
          have K11 := K11'; clear K11' bd hHeld
          generalize wB.alloc (.cells #[.int .i64 0, .slice none 0 0] 38) = wZ at *
          generalize wB.heap.size = g11 at *
          first
            | refine hK.out _ _ KS.out (fun hHeld => ?_)
            | refine hK _ _ KS.out (fun hHeld => ?_)
          clear hK K KS
          (try simp only [List.getElem_toArray, List.getElem_cons_succ, List.getElem_cons_zero, Act.put, List.setIfInBounds_toArray, List.set_cons_zero, List.set_cons_succ])
          have hcut := Lib.hid (CutW.mk (p := p) (b1 := .slice a1 k k) (b2 := .slice a2 (l.length - M) (l.length - M)) K10.out.1 K11.out.1 K10.out.2 K11.out.2 HNE.out hHeld.2.2)
          obtain ⟨z0, z1, f0, f1⟩ := K10.out.1.two
          obtain ⟨y0, y1, e0, e1⟩ := (((K11.out.1.other (h := g10) (o := 0) HNE.out.symm (.int .i64 p)).other (h := g10) (o := 1) HNE.out.symm (.slice a1 k k))).two
          have KS := Lib.hid (PzH.of HL.out (CutW.half K10.out.2 hHeld.2.2 (.int .i64 p) (.slice a1 k k)))
          have KS2 := Lib.hid (PzH.of HL.out (CutW.below hcut.out))
          clear hHeld
          refine wpAnyH_ready (rs := [12]) (by kernel_rfl) (by simp) ?_; refine AllReadyH.cons rfl (fun K hK => ?_) AllReadyH.nil
          go_simp
          clear z0 z1 f0 f1
          first
            | refine hK.out _ _ KS.out (fun hHeld => ?_)
            | refine hK _ _ KS.out (fun hHeld => ?_)
          clear hK K KS
          (try simp only [List.getElem_toArray, List.getElem_cons_succ, List.getElem_cons_zero, Act.put, List.setIfInBounds_toArray, List.set_cons_zero, List.set_cons_succ])
          clear hHeld
          refine wpAnyH_ready (rs := [13]) (by kernel_rfl) (by simp) ?_; refine AllReadyH.cons rfl (fun K hK => ?_) AllReadyH.nil
          go_simp
          clear y0 y1 e0 e1
          have KS := KS2; clear KS2
          first
            | refine hK.out _ _ KS.out (fun hHeld => ?_)
            | refine hK _ _ KS.out (fun hHeld => ?_)
          clear hK K KS
          (try simp only [List.getElem_toArray, List.getElem_cons_succ, List.getElem_cons_zero, Act.put, List.setIfInBounds_toArray, List.set_cons_zero, List.set_cons_succ])
          clear hHeld
          refine wpAnyH_done (by kernel_rfl) ?_ _
          go_wp2_with fail
          go_meet
          exact hcut
        · go_simp
          have bd := Below.ofNew (w := wA) (.cells #[.int .i64 0, .slice none 0 0] 38)
          have KS := Lib.hid (PzH.of HL.out (hHeld.2.2.trans (bd.mono hHeld.2.2.size)))
          have K11' := Lib.hid (And.intro (ObAt.new wA 38 #[.int .i64 0, .slice none 0 0]) hHeld.2.2.size)
          have HNE := Lib.hid (show _ ≠ wA.heap.size from Nat.ne_of_lt K10.out.1.lt)
          have K10n := Lib.hid (And.intro (K10.out.1.keep bd) K10.out.2); clear K10; have K10 := K10n; clear K10n
          have K11 := K11'; clear K11' bd hHeld
          generalize wA.alloc (.cells #[.int .i64 0, .slice none 0 0] 38) = wZ at *
          generalize wA.heap.size = g11 at *
          first
            | refine hK.out _ _ KS.out (fun hHeld => ?_)
            | refine hK _ _ KS.out (fun hHeld => ?_)
          clear hK K KS
          (try simp only [List.getElem_toArray, List.getElem_cons_succ, List.getElem_cons_zero, Act.put, List.setIfInBounds_toArray, List.set_cons_zero, List.set_cons_succ])
          refine wpAnyH_ready (rs := [9]) (by kernel_rfl) (by simp) ?_; refine AllReadyH.cons rfl (fun K hK => ?_) AllReadyH.nil
          go_simp
          go_at_call 67
          refine (HC2.out _).mono ?_; rintro e wB ⟨rfl, bd⟩
          have KS := Lib.hid (PzH.of HL.out (hHeld.2.2.trans (bd.mono hHeld.2.2.size)))
          have K10n := Lib.hid (And.intro (K10.out.1.keep bd) K10.out.2); clear K10; have K10 := K10n; clear K10n
          have K11n := Lib.hid (And.intro (K11.out.1.keep bd) K11.out.2); clear K11; have K11 := K11n; clear K11n
          clear bd hHeld
          go_wp2_with fail
          first
            | refine hK.out _ _ KS.out (fun hHeld => ?_)
            | refine hK _ _ KS.out (fun hHeld => ?_)
          clear hK K KS
          (try simp only [List.getElem_toArray, List.getElem_cons_succ, List.getElem_cons_zero, Act.put, List.setIfInBounds_toArray, List.set_cons_zero, List.set_cons_succ])
          have hcut := Lib.hid (CutW.mk (p := p) (b1 := .slice a1 k k) (b2 := .slice a2 (l.length - M) (l.length - M)) K10.out.1 K11.out.1 K10.out.2 K11.out.2 HNE.out hHeld.2.2)
          obtain ⟨z0, z1, f0, f1⟩ := K10.out.1.two
          obtain ⟨y0, y1, e0, e1⟩ := (((K11.out.1.other (h := g10) (o := 0) HNE.out.symm (.int .i64 p)).other (h := g10) (o := 1) HNE.out.symm (.slice a1 k k))).two
          have KS := Lib.hid (PzH.of HL.out (CutW.half K10.out.2 hHeld.2.2 (.int .i64 p) (.slice a1 k k)))
          have KS2 := Lib.hid (PzH.of HL.out (CutW.below hcut.out))
          clear hHeld
          refine wpAnyH_ready (rs := [12]) (by kernel_rfl) (by simp) ?_; refine AllReadyH.cons rfl (fun K hK => ?_) AllReadyH.nil
          go_simp
          clear z0 z1 f0 f1
          first
            | refine hK.out _ _ KS.out (fun hHeld => ?_)
            | refine hK _ _ KS.out (fun hHeld => ?_)
          clear hK K KS
          (try simp only [List.getElem_toArray, List.getElem_cons_succ, List.getElem_cons_zero, Act.put, List.setIfInBounds_toArray, List.set_cons_zero, List.set_cons_succ])
          clear hHeld
          refine wpAnyH_ready (rs := [13]) (by kernel_rfl) (by simp) ?_; refine AllReadyH.cons rfl (fun K hK => ?_) AllReadyH.nil
          go_simp
          clear y0 y1 e0 e1
          have KS := KS2; clear KS2
          first
            | refine hK.out _ _ KS.out (fun hHeld => ?_)
            | refine hK _ _ KS.out (fun hHeld => ?_)
          clear hK K KS
          (try simp only [List.getElem_toArray, List.getElem_cons_succ, List.getElem_cons_zero, Act.put, List.setIfInBounds_toArray, List.set_cons_zero, List.set_cons_succ])
          clear hHeld
          refine wpAnyH_done (by kernel_rfl) ?_ _
          go_wp2_with fail
          go_meet
          exact hcut
      · go_simp
        have bd := Below.ofNew (w := wY) (.cells #[.int .i64 0, .slice none 0 0] 38)
        have KS := Lib.hid (PzH.of HL.out (hHeld.2.2.trans (bd.mono hHeld.2.2.size)))
        have K11' := Lib.hid (And.intro (ObAt.new wY 38 #[.int .i64 0, .slice none 0 0]) hHeld.2.2.size)
        have HNE := Lib.hid (show _ ≠ wY.heap.size from Nat.ne_of_lt K10.out.1.lt)
        have K10n := Lib.hid (And.intro (K10.out.1.keep bd) K10.out.2); clear K10; have K10 := K10n; clear K10n
        have K11 := K11'; clear K11' bd hHeld
        generalize wY.alloc (.cells #[.int .i64 0, .slice none 0 0] 38) = wZ at *
        generalize wY.heap.size = g11 at *
        first
          | refine hK.out _ _ KS.out (fun hHeld => ?_)
          | refine hK _ _ KS.out (fun hHeld => ?_)
        clear hK K KS
        (try simp only [List.getElem_toArray, List.getElem_cons_succ, List.getElem_cons_zero, Act.put, List.setIfInBounds_toArray, List.set_cons_zero, List.set_cons_succ])
        refine wpAnyH_ready (rs := [2]) (by kernel_rfl) (by simp) ?_; refine AllReadyH.cons rfl (fun K hK => ?_) AllReadyH.nil
        go_simp
        go_at_call 67
        refine (HC1.out _).mono ?_; rintro e wA ⟨rfl, bd⟩
        have KS := Lib.hid (PzH.of HL.out (hHeld.2.2.trans (bd.mono hHeld.2.2.size)))
        have K10n := Lib.hid (And.intro (K10.out.1.keep bd) K10.out.2); clear K10; have K10 := K10n; clear K10n
        have K11n := Lib.hid (And.intro (K11.out.1.keep bd) K11.out.2); clear K11; have K11 := K11n; clear K11n
        clear bd hHeld
        go_wp2_with fail
        first
          | refine hK.out _ _ KS.out (fun hHeld => ?_)
          | refine hK _ _ KS.out (fun hHeld => ?_)
        clear hK K KS
        (try simp only [List.getElem_toArray, List.getElem_cons_succ, List.getElem_cons_zero, Act.put, List.setIfInBounds_toArray, List.set_cons_zero, List.set_cons_succ])
        refine wpAnyH_ready (rs := [9]) (by kernel_rfl) (by simp) ?_; refine AllReadyH.cons rfl (fun K hK => ?_) AllReadyH.nil
        go_simp
        go_at_call 67
        refine (HC2.out _).mono ?_; rintro e wB ⟨rfl, bd⟩
        have KS := Lib.hid (PzH.of HL.out (hHeld.2.2.trans (bd.mono hHeld.2.2.size)))
        have K10n := Lib.hid (And.intro (K10.out.1.keep bd) K10.out.2); clear K10; have K10 := K10n; clear K10n
        have K11n := Lib.hid (And.intro (K11.out.1.keep bd) K11.out.2); clear K11; have K11 := K11n; clear K11n
        clear bd hHeld
        go_wp2_with fail
        first
          | refine hK.out _ _ KS.out (fun hHeld => ?_)
          | refine hK _ _ KS.out (fun hHeld => ?_)
        clear hK K KS
        (try simp only [List.getElem_toArray, List.getElem_cons_succ, List.getElem_cons_zero, Act.put, List.setIfInBounds_toArray, List.set_cons_zero, List.set_cons_succ])
        have hcut := Lib.hid (CutW.mk (p := p) (b1 := .slice a1 k k) (b2 := .slice a2 (l.length - M) (l.length - M)) K10.out.1 K11.out.1 K10.out.2 K11.out.2 HNE.out hHeld.2.2)
        obtain ⟨z0, z1, f0, f1⟩ := K10.out.1.two
        obtain ⟨y0, y1, e0, e1⟩ := (((K11.out.1.other (h := g10) (o := 0) HNE.out.symm (.int .i64 p)).other (h := g10) (o := 1) HNE.out.symm (.slice a1 k k))).two
        have KS := Lib.hid (PzH.of HL.out (CutW.half K10.out.2 hHeld.2.2 (.int .i64 p) (.slice a1 k k)))
        have KS2 := Lib.hid (PzH.of HL.out (CutW.below hcut.out))
        clear hHeld
        refine wpAnyH_ready (rs := [12]) (by kernel_rfl) (by simp) ?_; refine AllReadyH.cons rfl (fun K hK => ?_) AllReadyH.nil
        go_simp
        clear z0 z1 f0 f1
        first
          | refine hK.out _ _ KS.out (fun hHeld => ?_)
          | refine hK _ _ KS.out (fun hHeld => ?_)
        clear hK K KS
        (try simp only [List.getElem_toArray, List.getElem_cons_succ, List.getElem_cons_zero, Act.put, List.setIfInBounds_toArray, List.set_cons_zero, List.set_cons_succ])
        clear hHeld
        refine wpAnyH_ready (rs := [13]) (by kernel_rfl) (by simp) ?_; refine AllReadyH.cons rfl (fun K hK => ?_) AllReadyH.nil
        go_simp
        clear y0 y1 e0 e1
        have KS := KS2; clear KS2
        first
          | refine hK.out _ _ KS.out (fun hHeld => ?_)
          | refine hK _ _ KS.out (fun hHeld => ?_)
        clear hK K KS
        (try simp only [List.getElem_toArray, List.getElem_cons_succ, List.getElem_cons_zero, Act.put, List.setIfInBounds_toArray, List.set_cons_zero, List.set_cons_succ])
        clear hHeld
        refine wpAnyH_done (by kernel_rfl) ?_ _
        go_wp2_with fail
        go_meet
        exact hcut
    · go_simp
      have bd := Below.ofNew (w := X0) (.cells #[.int .i64 0, .slice none 0 0] 38)
      have KS := Lib.hid (PzH.of HL.out (hHeld.2.2.trans (bd.mono hHeld.2.2.size)))
      have K11' := Lib.hid (And.intro (ObAt.new X0 38 #[.int .i64 0, .slice none 0 0]) hHeld.2.2.size)
      have K11 := K11'; clear K11' bd hHeld
      generalize X0.alloc (.cells #[.int .i64 0, .slice none 0 0] 38) = wZ at *
      generalize X0.heap.size = g11 at *
      first
        | refine hK.out _ _ KS.out (fun hHeld => ?_)
        | refine hK _ _ KS.out (fun hHeld => ?_)
      clear hK K KS
      (try simp only [List.getElem_toArray, List.getElem_cons_succ, List.getElem_cons_zero, Act.put, List.setIfInBounds_toArray, List.set_cons_zero, List.set_cons_succ])
      refine wpAnyH_ready (rs := [2, 10]) (by kernel_rfl) (by simp) (AllReadyH.cons rfl (fun K hK => ?_) (AllReadyH.cons rfl (fun K hK => ?_) AllReadyH.nil))
      · go_simp
        go_at_call 67
        refine (HC1.out _).mono ?_; rintro e wA ⟨rfl, bd⟩
        have KS := Lib.hid (PzH.of HL.out (hHeld.2.2.trans (bd.mono hHeld.2.2.size)))
        have K11n := Lib.hid (And.intro (K11.out.1.keep bd) K11.out.2); clear K11; have K11 := K11n; clear K11n
        clear bd hHeld
        go_wp2_with fail
        first
          | refine hK.out _ _ KS.out (fun hHeld => ?_)
          | refine hK _ _ KS.out (fun hHeld => ?_)
        clear hK K KS
        (try simp only [List.getElem_toArray, List.getElem_cons_succ, List.getElem_cons_zero, Act.put, List.setIfInBounds_toArray, List.set_cons_zero, List.set_cons_succ])
        refine wpAnyH_ready (rs := [9, 10]) (by kernel_rfl) (by simp) (AllReadyH.cons rfl (fun K hK => ?_) (AllReadyH.cons rfl (fun K hK => ?_) AllReadyH.nil))
        · go_simp
          go_at_call 67
          refine (HC2.out _).mono ?_; rintro e wB ⟨rfl, bd⟩
          have KS := Lib.hid (PzH.of HL.out (hHeld.2.2.trans (bd.mono hHeld.2.2.size)))
          have K11n := Lib.hid (And.intro (K11.out.1.keep bd) K11.out.2); clear K11; have K11 := K11n; clear K11n
          clear bd hHeld
          go_wp2_with fail
          first
            | refine hK.out _ _ KS.out (fun hHeld => ?_)
            | refine hK _ _ KS.out (fun hHeld => ?_)
          clear hK K KS
          (try simp only [List.getElem_toArray, List.getElem_cons_succ, List.getElem_cons_zero, Act.put, List.setIfInBounds_toArray, List.set_cons_zero, List.set_cons_succ])
          refine wpAnyH_ready (rs := [10]) (by kernel_rfl) (by simp) ?_; refine AllReadyH.cons rfl (fun K hK => ?_) AllReadyH.nil
          go_simp
          have bd := Below.ofNew (w := wB) (.cells #[.int .i64 0, .slice none 0 0] 38)
          have KS := Lib.hid (PzH.of HL.out (hHeld.2.2.trans (bd.mono hHeld.2.2.size)))
          have K10' := Lib.hid (And.intro (ObAt.new wB 38 #[.int .i64 0, .slice none 0 0]) hHeld.2.2.size)
          have HNE := Lib.hid (show wB.heap.size ≠ _ from Nat.ne_of_gt K11.out.1.lt)
          have K11n := Lib.hid (And.intro (K11.out.1.keep bd) K11.out.2); clear K11; have K11 := K11n; clear K11n
          have K10 := K10'; clear K10' bd hHeld
          generalize wB.alloc (.cells #[.int .i64 0, .slice none 0 0] 38) = wY at *
          generalize wB.heap.size = g10 at *
          first
            | refine hK.out _ _ KS.out (fun hHeld => ?_)
            | refine hK _ _ KS.out (fun hHeld => ?_)
          clear hK K KS
          (try simp only [List.getElem_toArray, List.getElem_cons_succ, List.getElem_cons_zero, Act.put, List.setIfInBounds_toArray, List.set_cons_zero, List.set_cons_succ])
          have hcut := Lib.hid (CutW.mk (p := p) (b1 := .slice a1 k k) (b2 := .slice a2 (l.length - M) (l.length - M)) K10.out.1 K11.out.1 K10.out.2 K11.out.2 HNE.out hHeld.2.2)
          obtain ⟨z0, z1, f0, f1⟩ := K10.out.1.two
          obtain ⟨y0, y1, e0, e1⟩ := (((K11.out.1.other (h := g10) (o := 0) HNE.out.symm (.int .i64 p)).other (h := g10) (o := 1) HNE.out.symm (.slice a1 k k))).two
          have KS := Lib.hid (PzH.of HL.out (CutW.half K10.out.2 hHeld.2.2 (.int .i64 p) (.slice a1 k k)))
          have KS2 := Lib.hid (PzH.of HL.out (CutW.below hcut.out))
          clear hHeld
          refine wpAnyH_ready (rs := [12]) (by kernel_rfl) (by simp) ?_; refine AllReadyH.cons rfl (fun K hK => ?_) AllReadyH.nil
          go_simp
          clear z0 z1 f0 f1
          first
            | refine hK.out _ _ KS.out (fun hHeld => ?_)
            | refine hK _ _ KS.out (fun hHeld => ?_)
          clear hK K KS
          (try simp only [List.getElem_toArray, List.getElem_cons_succ, List.getElem_cons_zero, Act.put, List.setIfInBounds_toArray, List.set_cons_zero, List.set_cons_succ])
          clear hHeld
          refine wpAnyH_ready (rs := [13]) (by kernel_rfl) (by simp) ?_; refine AllReadyH.cons rfl (fun K hK => ?_) AllReadyH.nil
          go_simp
          clear y0 y1 e0 e1
          have KS := KS2; clear KS2
          first
            | refine hK.out _ _ KS.out (fun hHeld => ?_)
            | refine hK _ _ KS.out (fun hHeld => ?_)
          clear hK K KS
          (try simp only [List.getElem_toArray, List.getElem_cons_succ, List.getElem_cons_zero, Act.put, List.setIfInBounds_toArray, List.set_cons_zero, List.set_cons_succ])
          clear hHeld
          refine wpAnyH_done (by kernel_rfl) ?_ _
          go_wp2_with fail
          go_meet
          exact hcut
        · go_simp
          have bd := Below.ofNew (w := wA) (.cells #[.int .i64 0, .slice none 0 0] 38)
          have KS := Lib.hid (PzH.of HL.out (hHeld.2.2.trans (bd.mono hHeld.2.2.size)))
          have K10' := Lib.hid (And.intro (ObAt.new wA 38 #[.int .i64 0, .slice none 0 0]) hHeld.2.2.size)
          have HNE := Lib.hid (show wA.heap.size ≠ _ from Nat.ne_of_gt K11.out.1.lt)
          have K11n := Lib.hid (And.intro (K11.out.1.keep bd) K11.out.2); clear K11; have K11 := K11n; clear K11n
          have K10 := K10'; clear K10' bd hHeld
          generalize wA.alloc (.cells #[.int .i64 0, .slice none 0 0] 38) = wY at *
          generalize wA.heap.size = g10 at *
          first
            | refine hK.out _ _ KS.out (fun hHeld => ?_)
            | refine hK _ _ KS.out (fun hHeld => ?_)
          clear hK K KS
          (try simp only [List.getElem_toArray, List.getElem_cons_succ, List.getElem_cons_zero, Act.put, List.setIfInBounds_toArray, List.set_cons_zero, List.set_cons_succ])
          refine wpAnyH_ready (rs := [9]) (by kernel_rfl) (by simp) ?_; refine AllReadyH.cons rfl (fun K hK => ?_) AllReadyH.nil
          go_simp
          go_at_call 67
          refine (HC2.out _).mono ?_; rintro e wB ⟨rfl, bd⟩
          have KS := Lib.hid (PzH.of HL.out (hHeld.2.2.trans (bd.mono hHeld.2.2.size)))
          have K10n := Lib.hid (And.intro (K10.out.1.keep bd) K10.out.2); clear K10; have K10 := K10n; clear K10n
          have K11n := Lib.hid (And.intro (K11.out.1.keep bd) K11.out.2); clear K11; have K11 := K11n; clear K11n
          clear bd hHeld
          go_wp2_with fail
          first
            | refine hK.out _ _ KS.out (fun hHeld => ?_)
            | refine hK _ _ KS.out (fun hHeld => ?_)
          clear hK K KS
          (try simp only [List.getElem_toArray, List.getElem_cons_succ, List.getElem_cons_zero, Act.put, List.setIfInBounds_toArray, List.set_cons_zero, List.set_cons_succ])
          have hcut := Lib.hid (CutW.mk (p := p) (b1 := .slice a1 k k) (b2 := .slice a2 (l.length - M) (l.length - M)) K10.out.1 K11.out.1 K10.out.2 K11.out.2 HNE.out hHeld.2.2)
          obtain ⟨z0, z1, f0, f1⟩ := K10.out.1.two
          obtain ⟨y0, y1, e0, e1⟩ := (((K11.out.1.other (h := g10) (o := 0) HNE.out.symm (.int .i64 p)).other (h := g10) (o := 1) HNE.out.symm (.slice a1 k k))).two
          have KS := Lib.hid (PzH.of HL.out (CutW.half K10.out.2 hHeld.2.2 (.int .i64 p) (.slice a1 k k)))
          have KS2 := Lib.hid (PzH.of HL.out (CutW.below hcut.out))
          clear hHeld
          refine wpAnyH_ready (rs := [12]) (by kernel_rfl) (by simp) ?_; refine AllReadyH.cons rfl (fun K hK => ?_) AllReadyH.nil
          go_simp
          clear z0 z1 f0 f1
          first
            | refine hK.out _ _ KS.out (fun hHeld => ?_)
            | refine hK _ _ KS.out (fun hHeld => ?_)
          clear hK K KS
          (try simp only [List.getElem_toArray, List.getElem_cons_succ, List.getElem_cons_zero, Act.put, List.setIfInBounds_toArray, List.set_cons_zero, List.set_cons_succ])
          clear hHeld
          refine wpAnyH_ready (rs := [13]) (by kernel_rfl) (by simp) ?_; refine AllReadyH.cons rfl (fun K hK => ?_) AllReadyH.nil
          go_simp
          clear y0 y1 e0 e1
          have KS := KS2; clear KS2
          first
            | refine hK.out _ _ KS.out (fun hHeld => ?_)
            | refine hK _ _ KS.out (fun hHeld => ?_)
          clear hK K KS
          (try simp only [List.getElem_toArray, List.getElem_cons_succ, List.getElem_cons_zero, Act.put, List.setIfInBounds_toArray, List.set_cons_zero, List.set_cons_succ])
          clear hHeld
          refine wpAnyH_done (by kernel_rfl) ?_ _
          go_wp2_with fail
          go_meet
          exact hcut
      · go_simp
        have bd := Below.ofNew (w := wZ) (.cells #[.int .i64 0, .slice none 0 0] 38)
        have KS := Lib.hid (PzH.of HL.out (hHeld.2.2.trans (bd.mono hHeld.2.2.size)))
        have K10' := Lib.hid (And.intro (ObAt.new wZ 38 #[.int .i64 0, .slice none 0 0]) hHeld.2.2.size)
        have HNE := Lib.hid (show wZ.heap.size ≠ _ from Nat.ne_of_gt K11.out.1.lt)
        have K11n := Lib.hid (And.intro (K11.out.1.keep bd) K11.out.2); clear K11; have K11 := K11n; clear K11n
        have K10 := K10'; clear K10' bd hHeld
        generalize wZ.alloc (.cells #[.int .i64 0, .slice none 0 0] 38) = wY at *
        generalize wZ.heap.size = g10 at *
        first
          | refine hK.out _ _ KS.out (fun hHeld => ?_)
          | refine hK _ _ KS.out (fun hHeld => ?_)
        clear hK K KS
        (try simp only [List.getElem_toArray, List.getElem_cons_succ, List.getElem_cons_zero, Act.put, List.setIfInBounds_toArray, List.set_cons_zero, List.set_cons_succ])
        refine wpAnyH_ready (rs := [2]) (by kernel_rfl) (by simp) ?_; refine AllReadyH.cons rfl (fun K hK => ?_) AllReadyH.nil
        go_simp
        go_at_call 67
        refine (HC1.out _).mono ?_; rintro e wA ⟨rfl, bd⟩
        have KS := Lib.hid (PzH.of HL.out (hHeld.2.2.trans (bd.mono hHeld.2.2.size)))
        have K10n := Lib.hid (And.intro (K10.out.1.keep bd) K10.out.2); clear K10; have K10 := K10n; clear K10n
        have K11n := Lib.hid (And.intro (K11.out.1.keep bd) K11.out.2); clear K11; have K11 := K11n; clear K11n
        clear bd hHeld
        go_wp2_with fail
        first
          | refine hK.out _ _ KS.out (fun hHeld => ?_)
          | refine hK _ _ KS.out (fun hHeld => ?_)
        clear hK K KS
        (try simp only [List.getElem_toArray, List.getElem_cons_succ, List.getElem_cons_zero, Act.put, List.setIfInBounds_toArray, List.set_cons_zero, List.set_cons_succ])
        refine wpAnyH_ready (rs := [9]) (by kernel_rfl) (by simp) ?_; refine AllReadyH.cons rfl (fun K hK => ?_) AllReadyH.nil
        go_simp
        go_at_call 67
        refine (HC2.out _).mono ?_; rintro e wB ⟨rfl, bd⟩
        have KS := Lib.hid (PzH.of HL.out (hHeld.2.2.trans (bd.mono hHeld.2.2.size)))
        have K10n := Lib.hid (And.intro (K10.out.1.keep bd) K10.out.2); clear K10; have K10 := K10n; clear K10n
        have K11n := Lib.hid (And.intro (K11.out.1.keep bd) K11.out.2); clear K11; have K11 := K11n; clear K11n
        clear bd hHeld
        go_wp2_with fail
        first
          | refine hK.out _ _ KS.out (fun hHeld => ?_)
          | refine hK _ _ KS.out (fun hHeld => ?_)
        clear hK K KS
        (try simp only [List.getElem_toArray, List.getElem_cons_succ, List.getElem_cons_zero, Act.put, List.setIfInBounds_toArray, List.set_cons_zero, List.set_cons_succ])
        have hcut := Lib.hid (CutW.mk (p := p) (b1 := .slice a1 k k) (b2 := .slice a2 (l.length - M) (l.length - M)) K10.out.1 K11.out.1 K10.out.2 K11.out.2 HNE.out hHeld.2.2)
        obtain ⟨z0, z1, f0, f1⟩ := K10.out.1.two
        obtain ⟨y0, y1, e0, e1⟩ := (((K11.out.1.other (h := g10) (o := 0) HNE.out.symm (.int .i64 p)).other (h := g10) (o := 1) HNE.out.symm (.slice a1 k k))).two
        have KS := Lib.hid (PzH.of HL.out (CutW.half K10.out.2 hHeld.2.2 (.int .i64 p) (.slice a1 k k)))
        have KS2 := Lib.hid (PzH.of HL.out (CutW.below hcut.out))
        clear hHeld
        refine wpAnyH_ready (rs := [12]) (by kernel_rfl) (by simp) ?_; refine AllReadyH.cons rfl (fun K hK => ?_) AllReadyH.nil
        go_simp
        clear z0 z1 f0 f1
        first
          | refine hK.out _ _ KS.out (fun hHeld => ?_)
          | refine hK _ _ KS.out (fun hHeld => ?_)
        clear hK K KS
        (try simp only [List.getElem_toArray, List.getElem_cons_succ, List.getElem_cons_zero, Act.put, List.setIfInBounds_toArray, List.set_cons_zero, List.set_cons_succ])
        clear hHeld
        refine wpAnyH_ready (rs := [13]) (by kernel_rfl) (by simp) ?_; refine AllReadyH.cons rfl (fun K hK => ?_) AllReadyH.nil
        go_simp
        clear y0 y1 e0 e1
        have KS := KS2; clear KS2
        first
          | refine hK.out _ _ KS.out (fun hHeld => ?_)
          | refine hK _ _ KS.out (fun hHeld => ?_)
        clear hK K KS
        (try simp only [List.getElem_toArray, List.getElem_cons_succ, List.getElem_cons_zero, Act.put, List.setIfInBounds_toArray, List.set_cons_zero, List.set_cons_succ])
        clear hHeld
        refine wpAnyH_done (by kernel_rfl) ?_ _
        go_wp2_with fail
        go_meet
        exact hcut
  case rest =>
    clear HC1 HC2
    obtain ⟨g5, g6, rfl, rfl, hg5, hg6, h5, h6, hbw⟩ := hcut.out
    clear hcut
    have H1 := Lib.hid (And.intro (HL.out.keep hbw) (And.intro (HA.out.1.keep hbw) (And.intro h5 (And.intro h6 (HA.out.2.trans (hbw.mono HA.out.2.size))))))
    have HG := Lib.hid (show g5 ≠ w.heap.size + 1 ∧ g6 ≠ w.heap.size + 1 from by have := HA.out.1.lt; omega)
    clear HL HA HX h5 h6 hbw K4 hg5 hg6
    have HS0 := Lib.hid (And.intro (H1.out.1.cell 0) (And.intro (H1.out.2.2.1.cell 1) (H1.out.2.2.2.1.cell 1)))
    go_wp2_with fail
    refine wp_region_held_drew (S := fun wi => wi.cell? ⟨w.heap.size, 0, none⟩ = some (.int .i64 p) ∧ wi.cell? ⟨g5, 1, none⟩ = some (.slice a1 k k) ∧ wi.cell? ⟨g6, 1, none⟩ = some (.slice a2 (l.length - M) (l.length - M))) (by kernel_rfl) HS0.out (fun hHeld => ?_)
    (refine wpAnyH_take (i := 0) (v := ?_) rfl (by kernel_rfl) (by kernel_rfl) (by kernel_rfl) (fun _ _ _ h => h) (Or.inl ⟨by kernel_rfl, ?_⟩) (by assumption) ?_; rotate_left; focus (intro w hSw; (try dsimp only at hSw); go_simp; try with_reducible rfl); (try simp only [List.getElem_toArray, List.getElem_cons_succ, List.getElem_cons_zero, Act.put, List.setIfInBounds_toArray, List.set_cons_zero, List.set_cons_succ])); (refine wpAnyH_take (i := 1) (v := ?_) rfl (by kernel_rfl) (by kernel_rfl) (by kernel_rfl) (fun _ _ _ h => h) (Or.inl ⟨by kernel_rfl, ?_⟩) (by assumption) ?_; rotate_left; focus (intro w hSw; (try dsimp only at hSw); go_simp; try with_reducible rfl); (try simp only [List.getElem_toArray, List.getElem_cons_succ, List.getElem_cons_zero, Act.put, List.setIfInBounds_toArray, List.set_cons_zero, List.set_cons_succ])); (refine wpAnyH_take (i := 2) (v := ?_) rfl (by kernel_rfl) (by kernel_rfl) (by kernel_rfl) (fun _ _ _ h => h) (Or.inl ⟨by kernel_rfl, ?_⟩) (by assumption) ?_; rotate_left; focus (intro w hSw; (try dsimp only at hSw); go_simp; try with_reducible rfl); (try simp only [List.getElem_toArray, List.getElem_cons_succ, List.getElem_cons_zero, Act.put, List.setIfInBounds_toArray, List.set_cons_zero, List.set_cons_succ])); (refine wpAnyH_take (i := 3) (v := ?_) rfl (by kernel_rfl) (by kernel_rfl) (by kernel_rfl) (fun _ _ _ h => h) (Or.inl ⟨by kernel_rfl, ?_⟩) (by assumption) ?_; rotate_left; focus (intro w hSw; (try dsimp only at hSw); go_simp; try with_reducible rfl); (try simp only [List.getElem_toArray, List.getElem_cons_succ, List.getElem_cons_zero, Act.put, List.setIfInBounds_toArray, List.set_cons_zero, List.set_cons_succ])); (refine wpAnyH_take (i := 4) (v := ?_) rfl (by kernel_rfl) (by kernel_rfl) (by kernel_rfl) (fun _ _ _ h => h) (Or.inl ⟨by kernel_rfl, ?_⟩) (by assumption) ?_; rotate_left; focus (intro w hSw; (try dsimp only at hSw); go_simp; try with_reducible rfl); (try simp only [List.getElem_toArray, List.getElem_cons_succ, List.getElem_cons_zero, Act.put, List.setIfInBounds_toArray, List.set_cons_zero, List.set_cons_succ])); (refine wpAnyH_take (i := 5) (v := ?_) rfl (by kernel_rfl) (by kernel_rfl) (by kernel_rfl) (fun _ _ _ h => h) (Or.inl ⟨by kernel_rfl, ?_⟩) (by assumption) ?_; rotate_left; focus (intro w hSw; (try dsimp only at hSw); go_simp; try with_reducible rfl); (try simp only [List.getElem_toArray, List.getElem_cons_succ, List.getElem_cons_zero, Act.put, List.setIfInBounds_toArray, List.set_cons_zero, List.set_cons_succ]))
    have bd := Below.ofNew (w := wc) (.cells #[.slice a1 k k, .slice a2 (l.length - M) (l.length - M)] 36)
    have HN : Hid (ObAt (wc.alloc (.cells #[.slice a1 k k, .slice a2 (l.length - M) (l.length - M)] 36)).drew wc.heap.size 36 #[.slice a1 k k, .slice a2 (l.length - M) (l.length - M)] ∧ Below wc.heap.size wc (wc.alloc (.cells #[.slice a1 k k, .slice a2 (l.length - M) (l.length - M)] 36)).drew) := ⟨(ObAt.new _ _ _).drew, bd.drew⟩
    clear bd
    refine wpAnyH_ready (rs := [6]) (by kernel_rfl) (by simp) ?_; refine AllReadyH.cons rfl (fun K hK => ?_) AllReadyH.nil
    go_simp
    have KS := Lib.hid (And.intro ((H1.out.1.keep HN.out.2).cell 0) (And.intro ((H1.out.2.2.1.keep HN.out.2).cell 1) ((H1.out.2.2.2.1.keep HN.out.2).cell 1)))
    first
      | refine hK.out _ _ KS.out (fun hHeld => ?_)
      | refine hK _ _ KS.out (fun hHeld => ?_)
    clear hK K KS
    (try simp only [List.getElem_toArray, List.getElem_cons_succ, List.getElem_cons_zero, Act.put, List.setIfInBounds_toArray, List.set_cons_zero, List.set_cons_succ])
    clear hHeld
    refine wpAnyH_ready (rs := [7]) (by kernel_rfl) (by simp) ?_; refine AllReadyH.cons rfl (fun K hK => ?_) AllReadyH.nil
    go_simp
    go_at_call 87
    refine (HCC.out _ _ HN.out.1.lt (HN.out.1.cell 0) (HN.out.1.cell 1) (H1.out.2.2.2.2.trans (HN.out.2.mono H1.out.2.2.2.2.size))).mono ?_; rintro e w3 ⟨v, rfl, o3, b3⟩
    have hb3 : Below wc.heap.size wc w3 := HN.out.2.trans (b3.mono HN.out.2.size)
    have H3 := Lib.hid (And.intro hb3 (And.intro (H1.out.2.1.keep hb3) (And.intro (owns_mono o3 HN.out.2.size) (H1.out.2.2.2.2.trans (hb3.mono H1.out.2.2.2.2.size)))))
    have KS := Lib.hid (And.intro ((H1.out.1.keep hb3).cell 0) (And.intro ((H1.out.2.2.1.keep hb3).cell 1) ((H1.out.2.2.2.1.keep hb3).cell 1)))
    have H5 := Lib.hid (And.intro (H1.out.2.2.1.keep hb3) (H1.out.2.2.2.1.keep hb3))
    clear b3 o3 hb3 HN HCC
    obtain ⟨a3, c3, rfl, hc3, hrd3, -⟩ := own_cap H3.out.2.2.1
    clear hrd3
    go_wp2_with fail
    first
      | refine hK.out _ _ KS.out (fun hHeld => ?_)
      | refine hK _ _ KS.out (fun hHeld => ?_)
    clear hK K KS
    (try simp only [List.getElem_toArray, List.getElem_cons_succ, List.getElem_cons_zero, Act.put, List.setIfInBounds_toArray, List.set_cons_zero, List.set_cons_succ])
    (refine wpAnyH_take (i := 8) (v := ?_) rfl (by kernel_rfl) (by kernel_rfl) (by kernel_rfl) (fun _ _ _ h => h) (Or.inl ⟨by kernel_rfl, ?_⟩) (by assumption) ?_; rotate_left; focus (intro w hSw; (try dsimp only at hSw); go_simp; try with_reducible rfl); (try simp only [List.getElem_toArray, List.getElem_cons_succ, List.getElem_cons_zero, Act.put, List.setIfInBounds_toArray, List.set_cons_zero, List.set_cons_succ]))
    clear hHeld
    obtain ⟨q0, q1, f0, f1⟩ := H3.out.2.1.two
    have HF : Hid (∀ u0 u1 : Value, ((w3.setCell ⟨w.heap.size + 1, 0, none⟩ u0).setCell ⟨w.heap.size + 1, 1, none⟩ u1).ownsRow w.heap.size 26 3 (.slice a3 (dropC l k).length c3) (dropC l k).length (clus (dropC l k)) ∧ Below w.heap.size w ((w3.setCell ⟨w.heap.size + 1, 0, none⟩ u0).setCell ⟨w.heap.size + 1, 1, none⟩ u1) ∧ ObAt ((w3.setCell ⟨w.heap.size + 1, 0, none⟩ u0).setCell ⟨w.heap.size + 1, 1, none⟩ u1) (w.heap.size + 1) 38 #[u0, u1] ∧ ObAt ((w3.setCell ⟨w.heap.size + 1, 0, none⟩ u0).setCell ⟨w.heap.size + 1, 1, none⟩ u1) w.heap.size 38 #[.int .i64 p, .slice ad l.length c]) := by
      intro u0 u1
      refine ⟨owns_heap (owns_mono H3.out.2.2.1 H1.out.2.2.2.2.size) (fun g e => ?_), (H3.out.2.2.2.setCell (p := ⟨w.heap.size + 1, 0, none⟩) (by simp only; omega) u0).setCell (p := ⟨w.heap.size + 1, 1, none⟩) (by simp only; omega) u1, (H3.out.2.1.put 0 u0).put 1 u1, ((H1.out.1.keep H3.out.1).other (by omega) u0).other (by omega) u1⟩
      have hne : g ≠ w.heap.size + 1 := by
        intro e2
        subst e2
        exact owns_apart (g := w.heap.size + 1) (T := 38) (fr := (0, 0)) H3.out.2.1 (by decide) H3.out.2.2.1 e
      rw [Below.heap_setCell _ _ _ _ hne, Below.heap_setCell _ _ _ _ hne]
    refine wpAnyH_ready (rs := [9]) (by kernel_rfl) (by simp) ?_; refine AllReadyH.cons rfl (fun K hK => ?_) AllReadyH.nil
    go_simp
    have KS := Lib.hid (And.intro ((HF.out (.int .i64 p) (.slice a3 (dropC l k).length c3)).2.2.2.cell 0) (And.intro (((H5.out.1.other (h := w.heap.size + 1) (o := 0) HG.out.1 (.int .i64 p)).other (h := w.heap.size + 1) (o := 1) HG.out.1 (.slice a3 (dropC l k).length c3)).cell 1) (((H5.out.2.other (h := w.heap.size + 1) (o := 0) HG.out.2 (.int .i64 p)).other (h := w.heap.size + 1) (o := 1) HG.out.2 (.slice a3 (dropC l k).length c3)).cell 1)))
    clear q0 q1 f0 f1
    first
      | refine hK.out _ _ KS.out (fun hHeld => ?_)
      | refine hK _ _ KS.out (fun hHeld => ?_)
    clear hK K KS
    (try simp only [List.getElem_toArray, List.getElem_cons_succ, List.getElem_cons_zero, Act.put, List.setIfInBounds_toArray, List.set_cons_zero, List.set_cons_succ])
    clear hHeld
    refine wpAnyH_done (by kernel_rfl) ?_ _
    obtain ⟨q0, q1, -, -⟩ := (HF.out (.int .i64 p) (.slice a3 (dropC l k).length c3)).2.2.1.two
    go_wp2_with fail
    refine bodyPost_ret (v := .agg #[.int .i64 p, .slice a3 (dropC l k).length c3]) ?_ rfl ⟨a3, c3, rfl, (HF.out _ _).1, (HF.out _ _).2.1⟩
    simp [results, Tryd.results66, go_sem, *]
end Go.Proofs.YtcigighklghjkaaDoor
