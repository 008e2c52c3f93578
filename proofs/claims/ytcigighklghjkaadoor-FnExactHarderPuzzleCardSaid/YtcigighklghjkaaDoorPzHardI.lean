/-
  Puzzles: clues taken out as long as the puzzle is solved: the program.
-/
import Derived.Test.YtcigighklghjkaaDoorPzHard
namespace Go.Proofs.YtcigighklghjkaaDoor
open Go.RowKit
set_option linter.unusedVariables false
set_option linter.unusedSimpArgs false

theorem slice_nil (b off n c : Nat) (w : World) : (binOp BinOp.eql 36 (.slice (some ⟨b, off, none⟩) n c) (.slice none 0 0)).run Tryd.prog w = .ok (.bool false) w := by
  first | kernel_rfl | rfl

set_option maxHeartbeats 800000 in
set_option maxRecDepth 100000 in
theorem cloneC_any (l : List Cl) (g0 c : Nat) (w : World) (hl : l.length ≤ 1000) (hr : Reads w (some ⟨g0, 0, none⟩) (clus l)) :
    Calls Tryd.prog 68 #[.slice (some ⟨g0, 0, none⟩) l.length c] w fun e w' => ∃ a c', e = .returned (.slice a l.length c') ∧ w'.ownsRow w.heap.size 26 3 (.slice a l.length c') l.length (clus l) ∧ Below w.heap.size w w' := by
  obtain ⟨i0, hi, hz0, hz1, hz2⟩ := info_parts infoClue
  have HIC := Lib.hid (And.intro hi (And.intro hz0 (And.intro hz1 hz2))); clear hi hz0 hz1 hz2
  have bn := Below.ofNew (w := w) (.cells #[] 26)
  have T3 := Lib.hid (And.intro bn (And.intro (clus_empty w) (hr.old bn))); clear bn hr
  have hnil := slice_nil g0 0 l.length c
  go_enter Tryd.func68, Tryd.ntmps68
  go_wp2_with (at_builtin; refine wpList_append_own_at _ rfl _ _ 36 rfl w.heap.size 26 i0 (.agg #[.int .i64 0, .int .i64 0, .int .i64 0]) 3 24 Tryd.underlying36 HIC.out.1 HIC.out.2.1 HIC.out.2.2.1 HIC.out.2.2.2 rfl (by decide) _ 0 (clus []) rfl T3.out.2.1 ⟨g0, 0, none⟩ l.length c (clus l) rfl (by rw [clus_len, Nat.mul_comm]) (read_cells T3.out.2.2 _ rfl) clus_one (by unfold maxLen; omega) (by omega) (by simp) ?_)
  intro v' w5 hown5 hgrow _ hob
  have hown6 : w5.ownsRow w.heap.size 26 3 v' l.length (clus l) := hown5
  have hb5 : Below w.heap.size w w5 := T3.out.1.grown hgrow (by simp) (fun g e => (owns_ge T3.out.2.1 e).1)
  obtain ⟨a5, c5, rfl, hc5, hrd5, -⟩ := own_cap hown6
  have T5 := Lib.hid (And.intro hown6 hb5); clear hown5 hown6 hgrow hob hb5 hrd5 hc5
  go_wp2_with fail
  go_ret
  exact ⟨a5, c5, rfl, T5.out.1, T5.out.2⟩

/-- Behind the region: the copy in a box of its own. -/
def HardW (p : Int) (m : List Cl) (X : World) (v6 : Value) (wx : World) : Prop :=
  ∃ g a c', v6 = .pointer (some ⟨g, 0, none⟩) ∧ X.heap.size ≤ g ∧ ObAt wx g 38 #[.int .i64 p, .slice a m.length c'] ∧ wx.ownsRow X.heap.size 26 3 (.slice a m.length c') m.length (clus m) ∧ Below X.heap.size X wx
theorem HardW.mk {p : Int} {m : List Cl} {X W : World} {g : Nat} {a : Option Addr} {c' : Nat} (h1 : ObAt W g 38 #[.int .i64 0, .slice none 0 0]) (h3 : X.heap.size ≤ g) (ho : W.ownsRow X.heap.size 26 3 (.slice a m.length c') m.length (clus m)) (hb : Below X.heap.size X W) :
    HardW p m X (.pointer (some ⟨g, 0, none⟩)) ((W.setCell ⟨g, 0, none⟩ (.int .i64 p)).setCell ⟨g, 1, none⟩ (.slice a m.length c')) := by
  refine ⟨g, a, c', rfl, h3, (h1.put 0 _).put 1 _, owns_heap ho (fun k e => ?_), CutW.half h3 hb _ _⟩
  have hne : k ≠ g := by
    intro e2
    subst e2
    exact owns_apart (T := 38) (fr := (0, 0)) h1 (by decide) ho e
  rw [Below.heap_setCell _ _ _ _ hne, Below.heap_setCell _ _ _ _ hne]
theorem HardW.below {p : Int} {m : List Cl} {X : World} {v6 : Value} {wx : World} (h : HardW p m X v6 wx) : Below X.heap.size X wx := by
  obtain ⟨_, _, _, _, _, _, _, h⟩ := h
  exact h
def lenAt (w : World) (g : Nat) : Nat := match w.cell? ⟨g, 1, none⟩ with | some (.slice _ n _) => n | _ => 0
theorem lenAt_ob {w : World} {g : Nat} {T : TypeId} {u : Value} {a : Option Addr} {n c : Nat} (h : ObAt w g T #[u, .slice a n c]) : lenAt w g = n := by
  unfold lenAt; rw [h.cell 1]; rfl

/-- Where the program's search stands: its puzzle in a box of its own. -/
def HInv (pn : Nat) (l : List Cl) (V : Value) (w : World) (g k : Nat) (m : List Cl) (a : Option Addr) (c' : Nat) (wr : World) : Prop :=
  HardQ pn l k m ∧ wr.ownsRow w.heap.size 26 3 (.slice a m.length c') m.length (clus m) ∧ ObAt wr g 38 #[.int .i64 pn, .slice a m.length c'] ∧ Two w pn V wr ∧ w.heap.size + 1 < g
theorem HInv.keep {pn : Nat} {l : List Cl} {V : Value} {w : World} {g k : Nat} {m : List Cl} {a : Option Addr} {c' : Nat} {wr w2 : World} (h : HInv pn l V w g k m a c' wr) (hb : Below wr.heap.size wr w2) : HInv pn l V w g k m a c' w2 :=
  ⟨h.1, owns_below h.2.1 hb, h.2.2.1.keep hb, h.2.2.2.1.keep hb, h.2.2.2.2⟩
theorem HInv.next {pn : Nat} {l : List Cl} {V : Value} {w : World} {g k k' : Nat} {m : List Cl} {a : Option Addr} {c' : Nat} {wr : World} (h : HInv pn l V w g k m a c' wr) (hq : HardQ pn l k' m) : HInv pn l V w g k' m a c' wr := ⟨hq, h.2⟩
theorem HInv.put {pn : Nat} {l : List Cl} {V : Value} {w : World} {g k : Nat} {m m2 : List Cl} {a a2 : Option Addr} {c' c2 : Nat} {wr : World} (h : HInv pn l V w g k m a c' wr) (hq : HardQ pn l k m2) (ho : wr.ownsRow w.heap.size 26 3 (.slice a2 m2.length c2) m2.length (clus m2)) :
    HInv pn l V w g k m2 a2 c2 ((wr.setCell ⟨g, 0, none⟩ (.int .i64 pn)).setCell ⟨g, 1, none⟩ (.slice a2 m2.length c2)) := by
  obtain ⟨-, -, h3, h4, h5⟩ := h
  refine ⟨hq, owns_heap ho (fun b e => ?_), (h3.put 0 _).put 1 _, ⟨(h4.1.other (by omega) _).other (by omega) _, (h4.2.1.other (by omega) _).other (by omega) _, ?_⟩, h5⟩
  · have hne : b ≠ g := by
      intro e2
      subst e2
      exact owns_apart (T := 38) (fr := (0, 0)) h3 (by decide) ho e
    rw [Below.heap_setCell _ _ _ _ hne, Below.heap_setCell _ _ _ _ hne]
  · exact (h4.2.2.setCell (p := ⟨g, 0, none⟩) (by simp only; omega) _).setCell (p := ⟨g, 1, none⟩) (by simp only; omega) _

set_option maxHeartbeats 800000 in
set_option maxRecDepth 100000 in
theorem implHarder_any (p : Int) (l : List Cl) (g0 c : Nat) (pe0 pe1 : Addr) (w : World) (hl : (l.length : Int) ≤ 1000000000000) (hr : Reads w (some ⟨g0, 0, none⟩) (clus l)) (hd : PzDoor w pe0 pe1) :
    Calls Tryd.prog 44 #[.agg #[.int .i64 p, .slice (some ⟨g0, 0, none⟩) l.length c]] w fun e w' => PzR (hardP p l) (hardO p l) (hardOk p l) w e w' := by
  have T0 := Lib.hid (Two.new w p (.slice (some ⟨g0, 0, none⟩) l.length c))
  obtain ⟨p0, p1, -, -, -, -⟩ := T0.out.cells
  have HS := Lib.hid (implSolved_any p l (some ⟨g0, 0, none⟩) c pe0 pe1 _ hl (hr.old T0.out.2.2) (hd.keep T0.out.2.2))
  have hv : hardOk p l = oneB (solsO p l).length := by
    unfold hardOk
    cases hg : goodP p l
    · rw [solsO_not hg]; rfl
    · obtain ⟨hp, h6, hgc⟩ := goodP_bd hg
      obtain ⟨pn, rfl⟩ : ∃ pn : Nat, p = pn := ⟨p.toNat, by omega⟩
      rw [solsO_is hg]; rfl
  rw [← hv] at HS; clear hv
  cases hok : hardOk p l
  · have e1 : hardP p l = 0 := by unfold hardP; rw [hok]; rfl
    have e2 : hardO p l = [] := by unfold hardO; rw [hok]; rfl
    rw [e1, e2]; clear e1 e2
    rw [hok] at HS
    clear hok hr hd
    go_enter Tryd.func44, Tryd.ntmps44
    go_wp2_with fail
    refine HS.out.mono ?_; rintro e w1 ⟨rfl, b1⟩
    have T1 := Lib.hid (T0.out.keep b1); clear b1 p0 p1
    obtain ⟨p0, p1, q0, q1, f0, f1⟩ := T1.out.cells
    have HF := Lib.hid (fun u0 u1 : Value => T1.out.put u0 u1)
    go_wp2_with fail
    refine bodyPost_ret (v := .tuple #[.agg #[.int .i64 0, .slice none 0 0], .bool false]) ?_ rfl ⟨none, 0, rfl, owns_nil3 _ _ _, HF.out _ _⟩
    simp [results, Tryd.results44, go_sem, *]
  · have hg : goodP p l = true := by unfold hardOk at hok; simp at hok; exact hok.1
    obtain ⟨hp, h6, hgc⟩ := goodP_bd hg
    obtain ⟨pn, rfl⟩ : ∃ pn : Nat, p = pn := ⟨p.toNat, by omega⟩
    have e1 : hardP pn l = pn := by unfold hardP; rw [hok]; rfl
    have e2 : hardO pn l = hardF pn l.length l 0 := by unfold hardO; rw [hok]; rfl
    rw [e1, e2]; clear e1 e2
    rw [hok] at HS
    have HQ0 := Lib.hid (HardQ.start hg)
    have HCL := Lib.hid (fun W (hb : Below w.heap.size w W) => cloneC_any l g0 c W (by omega) (hr.old hb))
    have HD := Lib.hid (fun W (hb : Below w.heap.size w W) => hd.keep hb)
    clear hg hok hgc hr hd
    have HQD : Hid (∀ k m, HardQ pn l k m → ¬ k < m.length → m = hardF pn l.length l 0) := fun k m h hk => h.done hk
    generalize hardF pn l.length l 0 = HFL at *
    go_enter Tryd.func44, Tryd.ntmps44
    go_wp2_with fail
    refine HS.out.mono ?_; rintro e X ⟨rfl, b1⟩
    have T1 := Lib.hid (T0.out.keep b1); clear b1 p0 p1 T0
    have HL := Lib.hid T1.out.1
    go_upto_region 4 with fail
    go_cut [6] (fun s6 wx => Hid (HardW pn l X s6 wx))
    case first =>
      clear HQD HQ0 HD HS
      refine wp_region_held_drew (S := fun wi => wi.cell? ⟨w.heap.size, 0, none⟩ = some (.int .i64 pn) ∧ wi.cell? ⟨w.heap.size, 1, none⟩ = some (.slice (some ⟨g0, 0, none⟩) l.length c) ∧ Below X.heap.size X wi) (by kernel_rfl) (PzH.of HL.out (Below.drew (Below.refl _ _))) (fun hHeld => ?_)
      (refine wpAnyH_take (i := 0) (v := ?_) rfl (by kernel_rfl) (by kernel_rfl) (by kernel_rfl) (fun _ _ _ h => h) (Or.inl ⟨by kernel_rfl, ?_⟩) (by assumption) ?_; rotate_left; focus (intro w hSw; (try dsimp only at hSw); go_simp; try with_reducible rfl); (try simp only [List.getElem_toArray, List.getElem_cons_succ, List.getElem_cons_zero, Act.put, List.setIfInBounds_toArray, List.set_cons_zero, List.set_cons_succ])); (refine wpAnyH_take (i := 1) (v := ?_) rfl (by kernel_rfl) (by kernel_rfl) (by kernel_rfl) (fun _ _ _ h => h) (Or.inl ⟨by kernel_rfl, ?_⟩) (by assumption) ?_; rotate_left; focus (intro w hSw; (try dsimp only at hSw); go_simp; try with_reducible rfl); (try simp only [List.getElem_toArray, List.getElem_cons_succ, List.getElem_cons_zero, Act.put, List.setIfInBounds_toArray, List.set_cons_zero, List.set_cons_succ])); (refine wpAnyH_take (i := 2) (v := ?_) rfl (by kernel_rfl) (by kernel_rfl) (by kernel_rfl) (fun _ _ _ h => h) (Or.inl ⟨by kernel_rfl, ?_⟩) (by assumption) ?_; rotate_left; focus (intro w hSw; (try dsimp only at hSw); go_simp; try with_reducible rfl); (try simp only [List.getElem_toArray, List.getElem_cons_succ, List.getElem_cons_zero, Act.put, List.setIfInBounds_toArray, List.set_cons_zero, List.set_cons_succ])); (refine wpAnyH_take (i := 3) (v := ?_) rfl (by kernel_rfl) (by kernel_rfl) (by kernel_rfl) (fun _ _ _ h => h) (Or.inl ⟨by kernel_rfl, ?_⟩) (by assumption) ?_; rotate_left; focus (intro w hSw; (try dsimp only at hSw); go_simp; try with_reducible rfl); (try simp only [List.getElem_toArray, List.getElem_cons_succ, List.getElem_cons_zero, Act.put, List.setIfInBounds_toArray, List.set_cons_zero, List.set_cons_succ]))
      generalize X.drew = X0 at *
      refine wpAnyH_ready (rs := [4, 6]) (by kernel_rfl) (by simp) (AllReadyH.cons rfl (fun K hK => ?_) (AllReadyH.cons rfl (fun K hK => ?_) AllReadyH.nil))
      · go_simp
        go_at_call 68
        refine (HCL.out _ (T1.out.2.2.trans (hHeld.2.2.mono T1.out.2.2.size))).mono ?_; rintro e wA ⟨a5, c5, rfl, o5, bd⟩
        have O5 := Lib.hid (owns_mono o5 hHeld.2.2.size)
        have KS := Lib.hid (PzH.of HL.out (hHeld.2.2.trans (bd.mono hHeld.2.2.size)))
        clear bd hHeld o5
        go_wp2_with fail
        first
          | refine hK.out _ _ KS.out (fun hHeld => ?_)
          | refine hK _ _ KS.out (fun hHeld => ?_)
        clear hK K KS
        (try simp only [List.getElem_toArray, List.getElem_cons_succ, List.getElem_cons_zero, Act.put, List.setIfInBounds_toArray, List.set_cons_zero, List.set_cons_succ])
        (refine wpAnyH_take (i := 5) (v := ?_) rfl (by kernel_rfl) (by kernel_rfl) (by kernel_rfl) (fun _ _ _ h => h) (Or.inl ⟨by kernel_rfl, ?_⟩) (by assumption) ?_; rotate_left; focus (intro w hSw; (try dsimp only at hSw); go_simp; try with_reducible rfl); (try simp only [List.getElem_toArray, List.getElem_cons_succ, List.getElem_cons_zero, Act.put, List.setIfInBounds_toArray, List.set_cons_zero, List.set_cons_succ]))
        refine wpAnyH_ready (rs := [6]) (by kernel_rfl) (by simp) ?_; refine AllReadyH.cons rfl (fun K hK => ?_) AllReadyH.nil
        go_simp
        have bd := Below.ofNew (w := wA) (.cells #[.int .i64 0, .slice none 0 0] 38)
        have KS := Lib.hid (PzH.of HL.out (hHeld.2.2.trans (bd.mono hHeld.2.2.size)))
        have K10 := Lib.hid (And.intro (ObAt.new wA 38 #[.int .i64 0, .slice none 0 0]) (And.intro hHeld.2.2.size (owns_below O5.out bd)))
        clear bd hHeld
        generalize wA.alloc (.cells #[.int .i64 0, .slice none 0 0] 38) = wY at *
        generalize wA.heap.size = g10 at *
        first
          | refine hK.out _ _ KS.out (fun hHeld => ?_)
          | refine hK _ _ KS.out (fun hHeld => ?_)
        clear hK K KS
        (try simp only [List.getElem_toArray, List.getElem_cons_succ, List.getElem_cons_zero, Act.put, List.setIfInBounds_toArray, List.set_cons_zero, List.set_cons_succ])
        have hcut := Lib.hid (HardW.mk (p := pn) K10.out.1 K10.out.2.1 K10.out.2.2 hHeld.2.2)
        obtain ⟨z0, z1, f0, f1⟩ := K10.out.1.two
        have KS := Lib.hid (PzH.of HL.out (HardW.below hcut.out))
        clear hHeld
        refine wpAnyH_ready (rs := [7]) (by kernel_rfl) (by simp) ?_; refine AllReadyH.cons rfl (fun K hK => ?_) AllReadyH.nil
        go_simp
        clear z0 z1 f0 f1
        first
          | refine hK.out _ _ KS.out (fun hHeld => ?_)
          | refine hK _ _ KS.out (fun hHeld => ?_)
        clear hK K KS
        (try simp only [List.getElem_toArray, List.getElem_cons_succ, List.getElem_cons_zero, Act.put, List.setIfInBounds_toArray, List.set_cons_zero, List.set_cons_succ])
        clear hHeld
        refine wpAnyH_done (by kernel_rfl) ?_ _
        go_wp2_with fail
        go_meet
        exact hcut
      · go_simp
        have bd := Below.ofNew (w := X0) (.cells #[.int .i64 0, .slice none 0 0] 38)
        have KS := Lib.hid (PzH.of HL.out (hHeld.2.2.trans (bd.mono hHeld.2.2.size)))
        have K10 := Lib.hid (And.intro (ObAt.new X0 38 #[.int .i64 0, .slice none 0 0]) hHeld.2.2.size)
        clear bd hHeld
        generalize X0.alloc (.cells #[.int .i64 0, .slice none 0 0] 38) = wY at *
        generalize X0.heap.size = g10 at *
        first
          | refine hK.out _ _ KS.out (fun hHeld => ?_)
          | refine hK _ _ KS.out (fun hHeld => ?_)
        clear hK K KS
        (try simp only [List.getElem_toArray, List.getElem_cons_succ, List.getElem_cons_zero, Act.put, List.setIfInBounds_toArray, List.set_cons_zero, List.set_cons_succ])
        refine wpAnyH_ready (rs := [4]) (by kernel_rfl) (by simp) ?_; refine AllReadyH.cons rfl (fun K hK => ?_) AllReadyH.nil
        go_simp
        go_at_call 68
        refine (HCL.out _ (T1.out.2.2.trans (hHeld.2.2.mono T1.out.2.2.size))).mono ?_; rintro e wA ⟨a5, c5, rfl, o5, bd⟩
        have O5 := Lib.hid (owns_mono o5 hHeld.2.2.size)
        have KS := Lib.hid (PzH.of HL.out (hHeld.2.2.trans (bd.mono hHeld.2.2.size)))
        have K11 := Lib.hid (And.intro (K10.out.1.keep bd) K10.out.2); clear K10
        clear bd hHeld o5
        go_wp2_with fail
        first
          | refine hK.out _ _ KS.out (fun hHeld => ?_)
          | refine hK _ _ KS.out (fun hHeld => ?_)
        clear hK K KS
        (try simp only [List.getElem_toArray, List.getElem_cons_succ, List.getElem_cons_zero, Act.put, List.setIfInBounds_toArray, List.set_cons_zero, List.set_cons_succ])
        (refine wpAnyH_take (i := 5) (v := ?_) rfl (by kernel_rfl) (by kernel_rfl) (by kernel_rfl) (fun _ _ _ h => h) (Or.inl ⟨by kernel_rfl, ?_⟩) (by assumption) ?_; rotate_left; focus (intro w hSw; (try dsimp only at hSw); go_simp; try with_reducible rfl); (try simp only [List.getElem_toArray, List.getElem_cons_succ, List.getElem_cons_zero, Act.put, List.setIfInBounds_toArray, List.set_cons_zero, List.set_cons_succ]))
        have hcut := Lib.hid (HardW.mk (p := pn) K11.out.1 K11.out.2 O5.out hHeld.2.2)
        obtain ⟨z0, z1, f0, f1⟩ := K11.out.1.two
        have KS := Lib.hid (PzH.of HL.out (HardW.below hcut.out))
        clear hHeld
        refine wpAnyH_ready (rs := [7]) (by kernel_rfl) (by simp) ?_; refine AllReadyH.cons rfl (fun K hK => ?_) AllReadyH.nil
        go_simp
        clear z0 z1 f0 f1
        first
          | refine hK.out _ _ KS.out (fun hHeld => ?_)
          | refine hK _ _ KS.out (fun hHeld => ?_)
        clear hK K KS
        (try simp only [List.getElem_toArray, List.getElem_cons_succ, List.getElem_cons_zero, Act.put, List.setIfInBounds_toArray, List.set_cons_zero, List.set_cons_succ])
        clear hHeld
        refine wpAnyH_done (by kernel_rfl) ?_ _
        go_wp2_with fail
        go_meet
        exact hcut
    case rest =>
      clear HCL HS HL
      obtain ⟨g, a1, c1, rfl, hg, hob, how, hbw⟩ := hcut.out
      clear hcut
      have hlt1 := T1.out.2.1.lt
      have H1 : Hid (HInv pn l (.slice (some ⟨g0, 0, none⟩) l.length c) w g 0 l a1 c1 wc) := ⟨HQ0.out, owns_mono how T1.out.2.2.size, hob, T1.out.keep hbw, by omega⟩
      clear hg hob how hbw hlt1 T1 HQ0
      go_wp2_with fail
      go_loopw [7] (fun i wq => ∃ (k : Nat) (m : List Cl) (a : Option Addr) (c' : Nat), i = .int .i64 k ∧ k ≤ 6 ∧ m.length ≤ 6 ∧ Hid (HInv pn l (.slice (some ⟨g0, 0, none⟩) l.length c) w g k m a c' wq)) (fun i wq => lenAt wq g - (intOf i).toNat)
      case atStart => exact ⟨0, l, a1, c1, rfl, by omega, h6, H1.out⟩
      case round =>
        clear H1
        obtain ⟨k, m, a, c', rfl, hk6, hm6, HJ⟩ := hrel
        obtain ⟨p0, p1, g1, g2⟩ := HJ.out.2.2.1.two
        by_cases hlt : k < m.length
        · have b2 : (k : Int) < (m.length : Int) := by omega
          obtain ⟨a7, c7, he7, hc7, hrd7, -⟩ := own_cap HJ.out.2.1
          injection he7 with x1 x2 x3
          subst x1 x3
          have HW := Lib.hid (without_any pn m a c' k wr (by omega) hc7 hlt hrd7)
          have HDL := Lib.hid (dropC_len m hlt)
          have HS2 := Lib.hid (fun a c W hra hdw => solvedC_any (goodP_drop HJ.out.1.1 hlt) a c pe0 pe1 W hra hdw)
          have HQ1 := Lib.hid (And.intro (fun h => HJ.out.1.drop hlt h) (fun h => HJ.out.1.next hlt h))
          have HM0 := Lib.hid (lenAt_ob HJ.out.2.2.1)
          clear hrd7 hc7 x2 g1 g2
          generalize dropC m k = m2 at *
          go_wp2_with fail
          refine HW.out.mono ?_; rintro e wA ⟨a8, c8, rfl, o8, b8⟩
          obtain ⟨a9, c9, he9, hc9, hrd9, -⟩ := own_cap o8
          injection he9 with x1 x2 x3
          subst x1 x3
          have bn := Below.ofNew (w := wA) (.cells #[.int .i64 pn, .slice a8 m2.length c8] 38)
          have I1 := HJ.out.keep b8
          have I2 := Lib.hid (And.intro (I1.keep bn) (And.intro (owns_below (owns_mono o8 HJ.out.2.2.2.1.2.2.size) bn) (ObAt.new wA 38 #[.int .i64 pn, .slice a8 m2.length c8])))
          have HS3 := Lib.hid (HS2.out a8 c8 _ (hrd9.old bn) (HD.out _ (I1.keep bn).2.2.2.1.2.2))
          clear p0 p1 o8 b8 hrd9 hc9 x2 bn I1
          cases h1 : oneC pn m2
          · rw [h1] at HS3
            have HQN := Lib.hid (HQ1.out.2 h1)
            clear h1
            go_wp2_with fail
            refine HS3.out.mono ?_; rintro e w8 ⟨rfl, b8⟩
            have I3 := Lib.hid ((I2.out.1.keep b8).next HQN.out); clear b8
            have HM1 := Lib.hid (lenAt_ob I3.out.2.2.1)
            go_wp2_with fail
            go_roundw
            case rel => exact ⟨k + 1, m, a, c', by go_num, by omega, hm6, I3⟩
            case measure => rw [HM0.out, HM1.out]; simp [intOf]; omega
          · rw [h1] at HS3
            have HQN := Lib.hid (HQ1.out.1 h1)
            clear h1
            go_wp2_with fail
            refine HS3.out.mono ?_; rintro e w8 ⟨rfl, b8⟩
            have I3 := Lib.hid ((I2.out.1.keep b8).put HQN.out (owns_below I2.out.2.1 b8))
            have HM1 := Lib.hid (lenAt_ob I3.out.2.2.1)
            obtain ⟨z0, z1, f0, f1⟩ := (I2.out.1.keep b8).2.2.1.two
            obtain ⟨y0, y1, -, -⟩ := (I2.out.2.2.keep b8).two
            clear b8
            go_wp2_with fail
            go_roundw
            case rel => exact ⟨k, m2, a8, c8, rfl, hk6, by have := HDL.out; omega, I3⟩
            case measure => have := HDL.out; rw [HM0.out, HM1.out]; simp [intOf]; omega
        · have hng : ¬ (k : Int) < (m.length : Int) := by omega
          obtain rfl := HQD.out k m HJ.out.1 hlt
          obtain ⟨-, -, q0, q1, f0, f1⟩ := HJ.out.2.2.2.1.cells
          have HF2 := Lib.hid (HJ.out.2.2.2.1.putOwn HJ.out.2.1 (.int .i64 pn) (.slice a m.length c'))
          obtain ⟨r0, r1, -, -⟩ := HF2.out.2.2.1.two
          go_wp2_with fail
          refine bodyPost_ret (v := .tuple #[.agg #[.int .i64 pn, .slice a m.length c'], .bool true]) ?_ rfl ⟨a, c', rfl, HF2.out.1, HF2.out.2.1⟩
          simp [results, Tryd.results44, go_sem, *]
end Go.Proofs.YtcigighklghjkaaDoor
