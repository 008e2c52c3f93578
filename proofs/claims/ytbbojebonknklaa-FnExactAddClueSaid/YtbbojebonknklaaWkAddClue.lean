/- What the exact law of AddClue does, step by step. -/
import Derived.Test.YtbbojebonknklaaPzAdd
import Derived.Deep.RegionHeld3
import Derived.Deep.DeepCutAuto
import Derived.StillTailTactics
namespace Go.Proofs.Ytbbojebonknklaa.ExAddClue
open Go.RowKit
set_option linter.unusedVariables false
set_option linter.unusedSimpArgs false

set_option maxHeartbeats 400000 in
theorem law_long (t : Int) (a : Option Addr) (n c : Nat) (r0 r1 r2 : Int) (w : World) (hl : (1048576 : Int) < (n : Int)) (hn : (n : Int) ≤ 9223372036854775807) :
    Calls Try.prog 6 #[.agg #[.int .i64 t, .slice a n c], .agg #[.int .i64 r0, .int .i64 r1, .int .i64 r2]] w fun e w' => e = .returned (.bool true) ∧ Below w.heap.size w w' := by
  have HZ := Lib.hid (fun w => szPuzzle_any t a n c 1048576 w hn (by omega) (by omega))
  have hz : szN 1048576 n = -1 := by unfold szN; rw [if_pos hl]
  rw [hz] at HZ; clear hz
  have HB : Hid (∀ x y : Obj, Below w.heap.size w ((w.alloc x).alloc y)) := fun x y => (Below.ofNew x).trans ((Below.ofNew y).mono (Below.ofNew x).size)
  go_enter Try.func6, Try.ntmps6
  go_wp2_with fail
  refine (HZ.out _).mono ?_; rintro e w1 ⟨rfl, b1⟩
  have B1 := Lib.hid ((HB.out _ _).trans (b1.mono (HB.out _ _).size)); clear b1
  go_wp2_with fail
  go_ret
  exact ⟨rfl, B1.out⟩

/-- Behind a region: what the function handed back lies in a box of its own, and what lay before is as it was. -/
def CutF (t' : Int) (m : List Cl) (o : Bool) (X : World) (v b : Value) (wx : World) : Prop := ∃ g a' c', v = .pointer (some ⟨g, 0, none⟩) ∧ b = .bool o ∧ X.heap.size ≤ g ∧ ObAt wx g 35 #[.int .i64 t', .slice a' m.length c'] ∧ wx.ownsRow X.heap.size 25 3 (.slice a' m.length c') m.length (clus m) ∧ Below X.heap.size X wx
theorem CutF.below {t' : Int} {m : List Cl} {o : Bool} {X : World} {v b : Value} {wx : World} (h : CutF t' m o X v b wx) : Below X.heap.size X wx := by
  obtain ⟨_, _, _, _, _, _, _, _, h⟩ := h
  exact h
theorem CutF.mk {t' : Int} {m : List Cl} {o : Bool} {X W : World} {g : Nat} {a' : Option Addr} {c' : Nat} (h1 : ObAt W g 35 #[.int .i64 0, .slice none 0 0]) (h2 : X.heap.size ≤ g) (h3 : W.ownsRow X.heap.size 25 3 (.slice a' m.length c') m.length (clus m)) (h4 : Below X.heap.size X W) :
    CutF t' m o X (.pointer (some ⟨g, 0, none⟩)) (.bool o) ((W.setCell ⟨g, 0, none⟩ (.int .i64 t')).setCell ⟨g, 1, none⟩ (.slice a' m.length c')) := by
  refine ⟨g, a', c', rfl, rfl, h2, (h1.put 0 _).put 1 _, owns_heap h3 (fun k e => ?_), (h4.setCell (p := ⟨g, 0, none⟩) (by simp only; omega) _).setCell (p := ⟨g, 1, none⟩) (by simp only; omega) _⟩
  have hne : k ≠ g := by
    intro e2
    subst e2
    exact owns_apart (g := k) (T := 35) (fr := (0, 0)) h1 (by decide) h3 e
  rw [Below.heap_setCell _ _ _ _ hne, Below.heap_setCell _ _ _ _ hne]
theorem LwH.of {X wi : World} {p q : Nat} {T T' : TypeId} {u0 u1 x0 x1 x2 : Value} (h1 : ObAt X p T #[u0, u1]) (h2 : ObAt X q T' #[x0, x1, x2]) (hb : Below X.heap.size X wi) :
    wi.cell? ⟨p, 0, none⟩ = some u0 ∧ wi.cell? ⟨p, 1, none⟩ = some u1 ∧ wi.cell? ⟨q, 0, none⟩ = some x0 ∧ wi.cell? ⟨q, 1, none⟩ = some x1 ∧ wi.cell? ⟨q, 2, none⟩ = some x2 ∧ Below X.heap.size X wi :=
  ⟨(h1.keep hb).cell 0, (h1.keep hb).cell 1, (h2.keep hb).cell 0, (h2.keep hb).cell 1, (h2.keep hb).cell 2, hb⟩

def LwB (w : World) (t : Int) (a : Option Addr) (l : List Cl) (c : Nat) (r0 r1 r2 : Int) (g5 g3 : Nat) (m : List Cl) (a2 : Option Addr) (B : Nat) (v4 : Value) (t' : Int) (c2 g4 c4 g7 : Nat) (a4 : Option Addr) (wi : World) : Prop :=
  LwAt w t a l c g5 g3 m a2 B v4 wi ∧ BxL t' m.length a2 c2 g4 a4 c4 g7 wi ∧ ObAt wi (w.heap.size + 1) 23 #[.int .i64 r0, .int .i64 r1, .int .i64 r2]
theorem LwB.keep {w : World} {t : Int} {a : Option Addr} {l : List Cl} {c : Nat} {r0 r1 r2 : Int} {g5 g3 : Nat} {m : List Cl} {a2 : Option Addr} {B : Nat} {v4 : Value} {t' : Int} {c2 g4 c4 g7 : Nat} {a4 : Option Addr} {wi wj : World} (h : LwB w t a l c r0 r1 r2 g5 g3 m a2 B v4 t' c2 g4 c4 g7 a4 wi) (hb : Below wi.heap.size wi wj) : LwB w t a l c r0 r1 r2 g5 g3 m a2 B v4 t' c2 g4 c4 g7 a4 wj := ⟨h.1.keep hb, h.2.1.keep hb, h.2.2.keep hb⟩
theorem full {w : World} {t : Int} {a : Option Addr} {l : List Cl} {c : Nat} {r0 r1 r2 : Int} {g5 g3 : Nat} {m : List Cl} {a2 : Option Addr} {B : Nat} {v4 : Value} {t' : Int} {c2 g4 c4 g7 : Nat} {a4 : Option Addr} {w' : World} (h : LwB w t a l c r0 r1 r2 g5 g3 m a2 B v4 t' c2 g4 c4 g7 a4 w') :
    w'.cell? ⟨w.heap.size, 0, none⟩ = some (.int .i64 t) ∧ w'.cell? ⟨w.heap.size, 1, none⟩ = some (.slice a l.length c) ∧ w'.cell? ⟨g5, 0, none⟩ = some (.int .i64 t) ∧ w'.cell? ⟨g5, 1, none⟩ = some (.slice (some ⟨g3, 0, none⟩) l.length l.length) ∧ LwB w t a l c r0 r1 r2 g5 g3 m a2 B v4 t' c2 g4 c4 g7 a4 w' := by
  obtain ⟨h0, h1, h3, h4, -⟩ := h.1.1.full
  exact ⟨h0, h1, h3, h4, h⟩

set_option maxHeartbeats 6400000 in
set_option maxRecDepth 100000 in
theorem law_of (t : Int) (a : Option Addr) (c : Nat) (l : List Cl) (r0 r1 r2 : Int) (t' : Int) (m : List Cl) (o : Bool) (hL : (m.length : Int) ≤ 1000) (hs : (∀ (g : Nat) (w : World), Reads w (some ⟨g, 0, none⟩) (clus l) → Calls Try.prog 19 #[.agg #[.int .i64 t, .slice (some ⟨g, 0, none⟩) l.length l.length], .agg #[.int .i64 r0, .int .i64 r1, .int .i64 r2]] w fun e w' => PzR t' m o w e w')) (hi : (∀ (g : Nat) (w : World), Reads w (some ⟨g, 0, none⟩) (clus l) → Calls Try.prog 20 #[.agg #[.int .i64 t, .slice (some ⟨g, 0, none⟩) l.length l.length], .agg #[.int .i64 r0, .int .i64 r1, .int .i64 r2]] w fun e w' => PzR t' m o w e w')) (w : World) (hl : (l.length : Int) ≤ 1048576) (h : Reads w a (clus l)) :
    Calls Try.prog 6 #[.agg #[.int .i64 t, .slice a l.length c], .agg #[.int .i64 r0, .int .i64 r1, .int .i64 r2]] w fun e w' => e = .returned (.bool true) ∧ Below w.heap.size w w' := by
  have HS := Lib.hid hs; clear hs
  have HI := Lib.hid hi; clear hi
  have bR := Below.ofNew (w := w.alloc (.cells #[.int .i64 t, .slice a l.length c] 30)) (.cells #[.int .i64 r0, .int .i64 r1, .int .i64 r2] 23)
  have hA := ObAt.new (w.alloc (.cells #[.int .i64 t, .slice a l.length c] 30)) 23 #[.int .i64 r0, .int .i64 r1, .int .i64 r2]
  rw [World.size_alloc] at hA
  have L0 : Hid (LAt w t a l c ((w.alloc (.cells #[.int .i64 t, .slice a l.length c] 30)).alloc (.cells #[.int .i64 r0, .int .i64 r1, .int .i64 r2] 23)) ∧ ObAt ((w.alloc (.cells #[.int .i64 t, .slice a l.length c] 30)).alloc (.cells #[.int .i64 r0, .int .i64 r1, .int .i64 r2] 23)) (w.heap.size + 1) 23 #[.int .i64 r0, .int .i64 r1, .int .i64 r2]) := ⟨(LAt.start (t := t) (c := c) h).keep bR, hA⟩
  clear bR hA
  have HR := Lib.hid h; clear h
  have HZ := Lib.hid (fun w => szPuzzle_any t a l.length c 1048576 w (by omega) (by omega) (by omega))
  have hz : szN 1048576 l.length = 1048576 - (l.length : Int) := by unfold szN; rw [if_neg (by omega)]
  rw [hz] at HZ; clear hz
  have q1 : (o != o) = false := by simp
  go_enter Try.func6, Try.ntmps6
  go_wp2_with fail
  refine (HZ.out _).mono ?_; rintro e X5 ⟨rfl, b0⟩
  have L1 := Lib.hid (And.intro (L0.out.1.keep b0) (L0.out.2.keep b0)); clear b0 L0
  go_upto_region 5 with fail
  go_cut [6, 7] (fun s6 s7 wx => Hid (CutF t' m o X5 s6 s7 wx))
  case first =>
    clear HR HI HZ q1
    have HL := Lib.hid (And.intro L1.out.1.1 L1.out.2)
    have HTL := Lib.hid (fun W (hb : Below X5.heap.size X5 W) => toPuzzle_any t l a c W hl (L1.out.1.2.1.old hb))
    clear L1
    refine wp_region_held_drew (S := fun wi => wi.cell? ⟨w.heap.size, 0, none⟩ = some (.int .i64 t) ∧ wi.cell? ⟨w.heap.size, 1, none⟩ = some (.slice a l.length c) ∧ wi.cell? ⟨w.heap.size + 1, 0, none⟩ = some (.int .i64 r0) ∧ wi.cell? ⟨w.heap.size + 1, 1, none⟩ = some (.int .i64 r1) ∧ wi.cell? ⟨w.heap.size + 1, 2, none⟩ = some (.int .i64 r2) ∧ Below X5.heap.size X5 wi) (by kernel_rfl) (LwH.of HL.out.1 HL.out.2 (Below.drew (Below.refl _ _))) (fun hHeld => ?_)
    (refine wpAnyH_take (i := 0) (v := ?_) rfl (by kernel_rfl) (by kernel_rfl) (by kernel_rfl) (fun _ _ _ h => h) (Or.inl ⟨by kernel_rfl, ?_⟩) (by assumption) ?_; rotate_left; focus (intro w hSw; (try dsimp only at hSw); go_simp; try with_reducible rfl); (try simp only [List.getElem_toArray, List.getElem_cons_succ, List.getElem_cons_zero, Act.put, List.setIfInBounds_toArray, List.set_cons_zero, List.set_cons_succ])); (refine wpAnyH_take (i := 2) (v := ?_) rfl (by kernel_rfl) (by kernel_rfl) (by kernel_rfl) (fun _ _ _ h => h) (Or.inl ⟨by kernel_rfl, ?_⟩) (by assumption) ?_; rotate_left; focus (intro w hSw; (try dsimp only at hSw); go_simp; try with_reducible rfl); (try simp only [List.getElem_toArray, List.getElem_cons_succ, List.getElem_cons_zero, Act.put, List.setIfInBounds_toArray, List.set_cons_zero, List.set_cons_succ]))
    generalize X5.drew = X0 at *
    refine wpAnyH_ready (rs := [1, 8]) (by kernel_rfl) (by simp) (AllReadyH.cons rfl (fun K hK => ?_) (AllReadyH.cons rfl (fun K hK => ?_) AllReadyH.nil))
    · go_simp
      go_at_call 12
      refine (HTL.out _ hHeld.2.2.2.2.2).mono ?_; rintro e wA ⟨gA, rfl, -, rA, bd⟩
      have KS := Lib.hid (LwH.of HL.out.1 HL.out.2 (hHeld.2.2.2.2.2.trans (bd.mono hHeld.2.2.2.2.2.size)))
      have RA := Lib.hid rA.reads
      clear rA bd hHeld
      go_wp2_with fail
      first
        | refine hK.out _ _ KS.out (fun hHeld => ?_)
        | refine hK _ _ KS.out (fun hHeld => ?_)
      clear hK K KS
      (try simp only [List.getElem_toArray, List.getElem_cons_succ, List.getElem_cons_zero, Act.put, List.setIfInBounds_toArray, List.set_cons_zero, List.set_cons_succ])
      refine wpAnyH_ready (rs := [3, 8]) (by kernel_rfl) (by simp) (AllReadyH.cons rfl (fun K hK => ?_) (AllReadyH.cons rfl (fun K hK => ?_) AllReadyH.nil))
      · go_simp
        go_at_call 8
        refine (toClue_any r0 r1 r2 _).mono ?_; rintro e wB ⟨rfl, bd⟩
        have KS := Lib.hid (LwH.of HL.out.1 HL.out.2 (hHeld.2.2.2.2.2.trans (bd.mono hHeld.2.2.2.2.2.size)))
        have RAn := Lib.hid (RA.out.old bd); clear RA; have RA := RAn; clear RAn
        clear bd hHeld
        go_wp2_with fail
        first
          | refine hK.out _ _ KS.out (fun hHeld => ?_)
          | refine hK _ _ KS.out (fun hHeld => ?_)
        clear hK K KS
        (try simp only [List.getElem_toArray, List.getElem_cons_succ, List.getElem_cons_zero, Act.put, List.setIfInBounds_toArray, List.set_cons_zero, List.set_cons_succ])
        refine wpAnyH_ready (rs := [4, 8]) (by kernel_rfl) (by simp) (AllReadyH.cons rfl (fun K hK => ?_) (AllReadyH.cons rfl (fun K hK => ?_) AllReadyH.nil))
        · go_simp
          go_at_call 19
          refine (HS.out _ _ RA.out).mono ?_; rintro e wF ⟨a4, c4, rfl, own4, bd⟩
          have KS := Lib.hid (LwH.of HL.out.1 HL.out.2 (hHeld.2.2.2.2.2.trans (bd.mono hHeld.2.2.2.2.2.size)))
          have K4 := Lib.hid (owns_mono own4 hHeld.2.2.2.2.2.size)
          clear own4 bd hHeld
          go_wp2_with fail
          first
            | refine hK.out _ _ KS.out (fun hHeld => ?_)
            | refine hK _ _ KS.out (fun hHeld => ?_)
          clear hK K KS
          (try simp only [List.getElem_toArray, List.getElem_cons_succ, List.getElem_cons_zero, Act.put, List.setIfInBounds_toArray, List.set_cons_zero, List.set_cons_succ])
          (refine wpAnyH_take (i := 5) (v := ?_) rfl (by kernel_rfl) (by kernel_rfl) (by kernel_rfl) (fun _ _ _ h => h) (Or.inl ⟨by kernel_rfl, ?_⟩) (by assumption) ?_; rotate_left; focus (intro w hSw; (try dsimp only at hSw); go_simp; try with_reducible rfl); (try simp only [List.getElem_toArray, List.getElem_cons_succ, List.getElem_cons_zero, Act.put, List.setIfInBounds_toArray, List.set_cons_zero, List.set_cons_succ])); (refine wpAnyH_take (i := 6) (v := ?_) rfl (by kernel_rfl) (by kernel_rfl) (by kernel_rfl) (fun _ _ _ h => h) (Or.inl ⟨by kernel_rfl, ?_⟩) (by assumption) ?_; rotate_left; focus (intro w hSw; (try dsimp only at hSw); go_simp; try with_reducible rfl); (try simp only [List.getElem_toArray, List.getElem_cons_succ, List.getElem_cons_zero, Act.put, List.setIfInBounds_toArray, List.set_cons_zero, List.set_cons_succ])); (refine wpAnyH_take (i := 7) (v := ?_) rfl (by kernel_rfl) (by kernel_rfl) (by kernel_rfl) (fun _ _ _ h => h) (Or.inl ⟨by kernel_rfl, ?_⟩) (by assumption) ?_; rotate_left; focus (intro w hSw; (try dsimp only at hSw); go_simp; try with_reducible rfl); (try simp only [List.getElem_toArray, List.getElem_cons_succ, List.getElem_cons_zero, Act.put, List.setIfInBounds_toArray, List.set_cons_zero, List.set_cons_succ]))
          refine wpAnyH_ready (rs := [8]) (by kernel_rfl) (by simp) ?_; refine AllReadyH.cons rfl (fun K hK => ?_) AllReadyH.nil
          go_simp
          have bd := Below.ofNew (w := wF) (.cells #[.int .i64 0, .slice none 0 0] 35)
          have KS := Lib.hid (LwH.of HL.out.1 HL.out.2 (hHeld.2.2.2.2.2.trans (bd.mono hHeld.2.2.2.2.2.size)))
          have K4n := Lib.hid (owns_below K4.out bd); clear K4; have K4 := K4n; clear K4n
          have K8 := Lib.hid (And.intro (ObAt.new wF 35 #[.int .i64 0, .slice none 0 0]) (hHeld.2.2.2.2.2.size))
          clear bd hHeld
          generalize wF.alloc (.cells #[.int .i64 0, .slice none 0 0] 35) = wZ at *
          first
            | refine hK.out _ _ KS.out (fun hHeld => ?_)
            | refine hK _ _ KS.out (fun hHeld => ?_)
          clear hK K KS
          (try simp only [List.getElem_toArray, List.getElem_cons_succ, List.getElem_cons_zero, Act.put, List.setIfInBounds_toArray, List.set_cons_zero, List.set_cons_succ])
          have hcut := Lib.hid (CutF.mk (t' := t') (o := o) K8.out.1 K8.out.2 K4.out hHeld.2.2.2.2.2)
          obtain ⟨z0, z1, f0, f1⟩ := K8.out.1.two
          clear hHeld
          refine wpAnyH_ready (rs := [9]) (by kernel_rfl) (by simp) ?_; refine AllReadyH.cons rfl (fun K hK => ?_) AllReadyH.nil
          go_simp
          clear z0 z1 f0 f1
          have KS := Lib.hid (LwH.of HL.out.1 HL.out.2 hcut.out.below)
          first
            | refine hK.out _ _ KS.out (fun hHeld => ?_)
            | refine hK _ _ KS.out (fun hHeld => ?_)
          clear hK K KS
          (try simp only [List.getElem_toArray, List.getElem_cons_succ, List.getElem_cons_zero, Act.put, List.setIfInBounds_toArray, List.set_cons_zero, List.set_cons_succ])
          (refine wpAnyH_take (i := 10) (v := ?_) rfl (by kernel_rfl) (by kernel_rfl) (by kernel_rfl) (fun _ _ _ h => h) (Or.inl ⟨by kernel_rfl, ?_⟩) (by assumption) ?_; rotate_left; focus (intro w hSw; (try dsimp only at hSw); go_simp; try with_reducible rfl); (try simp only [List.getElem_toArray, List.getElem_cons_succ, List.getElem_cons_zero, Act.put, List.setIfInBounds_toArray, List.set_cons_zero, List.set_cons_succ]))
          clear hHeld
          refine wpAnyH_done (by kernel_rfl) ?_ _
          go_wp2_with fail
          go_meet
          exact hcut
        · go_simp
          have bd := Below.ofNew (w := wB) (.cells #[.int .i64 0, .slice none 0 0] 35)
          have KS := Lib.hid (LwH.of HL.out.1 HL.out.2 (hHeld.2.2.2.2.2.trans (bd.mono hHeld.2.2.2.2.2.size)))
          have RAn := Lib.hid (RA.out.old bd); clear RA; have RA := RAn; clear RAn
          have K8 := Lib.hid (And.intro (ObAt.new wB 35 #[.int .i64 0, .slice none 0 0]) (hHeld.2.2.2.2.2.size))
          clear bd hHeld
          generalize wB.alloc (.cells #[.int .i64 0, .slice none 0 0] 35) = wZ at *
          first
            | refine hK.out _ _ KS.out (fun hHeld => ?_)
            | refine hK _ _ KS.out (fun hHeld => ?_)
          clear hK K KS
          (try simp only [List.getElem_toArray, List.getElem_cons_succ, List.getElem_cons_zero, Act.put, List.setIfInBounds_toArray, List.set_cons_zero, List.set_cons_succ])
          refine wpAnyH_ready (rs := [4]) (by kernel_rfl) (by simp) ?_; refine AllReadyH.cons rfl (fun K hK => ?_) AllReadyH.nil
          go_simp
          go_at_call 19
          refine (HS.out _ _ RA.out).mono ?_; rintro e wF ⟨a4, c4, rfl, own4, bd⟩
          have KS := Lib.hid (LwH.of HL.out.1 HL.out.2 (hHeld.2.2.2.2.2.trans (bd.mono hHeld.2.2.2.2.2.size)))
          have K8n := Lib.hid (And.intro (K8.out.1.keep bd) K8.out.2); clear K8; have K8 := K8n; clear K8n
          have K4 := Lib.hid (owns_mono own4 hHeld.2.2.2.2.2.size)
          clear own4 bd hHeld
          go_wp2_with fail
          first
            | refine hK.out _ _ KS.out (fun hHeld => ?_)
            | refine hK _ _ KS.out (fun hHeld => ?_)
          clear hK K KS
          (try simp only [List.getElem_toArray, List.getElem_cons_succ, List.getElem_cons_zero, Act.put, List.setIfInBounds_toArray, List.set_cons_zero, List.set_cons_succ])
          (refine wpAnyH_take (i := 5) (v := ?_) rfl (by kernel_rfl) (by kernel_rfl) (by kernel_rfl) (fun _ _ _ h => h) (Or.inl ⟨by kernel_rfl, ?_⟩) (by assumption) ?_; rotate_left; focus (intro w hSw; (try dsimp only at hSw); go_simp; try with_reducible rfl); (try simp only [List.getElem_toArray, List.getElem_cons_succ, List.getElem_cons_zero, Act.put, List.setIfInBounds_toArray, List.set_cons_zero, List.set_cons_succ])); (refine wpAnyH_take (i := 6) (v := ?_) rfl (by kernel_rfl) (by kernel_rfl) (by kernel_rfl) (fun _ _ _ h => h) (Or.inl ⟨by kernel_rfl, ?_⟩) (by assumption) ?_; rotate_left; focus (intro w hSw; (try dsimp only at hSw); go_simp; try with_reducible rfl); (try simp only [List.getElem_toArray, List.getElem_cons_succ, List.getElem_cons_zero, Act.put, List.setIfInBounds_toArray, List.set_cons_zero, List.set_cons_succ])); (refine wpAnyH_take (i := 7) (v := ?_) rfl (by kernel_rfl) (by kernel_rfl) (by kernel_rfl) (fun _ _ _ h => h) (Or.inl ⟨by kernel_rfl, ?_⟩) (by assumption) ?_; rotate_left; focus (intro w hSw; (try dsimp only at hSw); go_simp; try with_reducible rfl); (try simp only [List.getElem_toArray, List.getElem_cons_succ, List.getElem_cons_zero, Act.put, List.setIfInBounds_toArray, List.set_cons_zero, List.set_cons_succ]))
          have hcut := Lib.hid (CutF.mk (t' := t') (o := o) K8.out.1 K8.out.2 K4.out hHeld.2.2.2.2.2)
          obtain ⟨z0, z1, f0, f1⟩ := K8.out.1.two
          clear hHeld
          refine wpAnyH_ready (rs := [9]) (by kernel_rfl) (by simp) ?_; refine AllReadyH.cons rfl (fun K hK => ?_) AllReadyH.nil
          go_simp
          clear z0 z1 f0 f1
          have KS := Lib.hid (LwH.of HL.out.1 HL.out.2 hcut.out.below)
          first
            | refine hK.out _ _ KS.out (fun hHeld => ?_)
            | refine hK _ _ KS.out (fun hHeld => ?_)
          clear hK K KS
          (try simp only [List.getElem_toArray, List.getElem_cons_succ, List.getElem_cons_zero, Act.put, List.setIfInBounds_toArray, List.set_cons_zero, List.set_cons_succ])
          (refine wpAnyH_take (i := 10) (v := ?_) rfl (by kernel_rfl) (by kernel_rfl) (by kernel_rfl) (fun _ _ _ h => h) (Or.inl ⟨by kernel_rfl, ?_⟩) (by assumption) ?_; rotate_left; focus (intro w hSw; (try dsimp only at hSw); go_simp; try with_reducible rfl); (try simp only [List.getElem_toArray, List.getElem_cons_succ, List.getElem_cons_zero, Act.put, List.setIfInBounds_toArray, List.set_cons_zero, List.set_cons_succ]))
          clear hHeld
          refine wpAnyH_done (by kernel_rfl) ?_ _
          go_wp2_with fail
          go_meet
          exact hcut
      · go_simp
        have bd := Below.ofNew (w := wA) (.cells #[.int .i64 0, .slice none 0 0] 35)
        have KS := Lib.hid (LwH.of HL.out.1 HL.out.2 (hHeld.2.2.2.2.2.trans (bd.mono hHeld.2.2.2.2.2.size)))
        have RAn := Lib.hid (RA.out.old bd); clear RA; have RA := RAn; clear RAn
        have K8 := Lib.hid (And.intro (ObAt.new wA 35 #[.int .i64 0, .slice none 0 0]) (hHeld.2.2.2.2.2.size))
        clear bd hHeld
        generalize wA.alloc (.cells #[.int .i64 0, .slice none 0 0] 35) = wZ at *
        first
          | refine hK.out _ _ KS.out (fun hHeld => ?_)
          | refine hK _ _ KS.out (fun hHeld => ?_)
        clear hK K KS
        (try simp only [List.getElem_toArray, List.getElem_cons_succ, List.getElem_cons_zero, Act.put, List.setIfInBounds_toArray, List.set_cons_zero, List.set_cons_succ])
        refine wpAnyH_ready (rs := [3]) (by kernel_rfl) (by simp) ?_; refine AllReadyH.cons rfl (fun K hK => ?_) AllReadyH.nil
        go_simp
        go_at_call 8
        refine (toClue_any r0 r1 r2 _).mono ?_; rintro e wB ⟨rfl, bd⟩
        have KS := Lib.hid (LwH.of HL.out.1 HL.out.2 (hHeld.2.2.2.2.2.trans (bd.mono hHeld.2.2.2.2.2.size)))
        have K8n := Lib.hid (And.intro (K8.out.1.keep bd) K8.out.2); clear K8; have K8 := K8n; clear K8n
        have RAn := Lib.hid (RA.out.old bd); clear RA; have RA := RAn; clear RAn
        clear bd hHeld
        go_wp2_with fail
        first
          | refine hK.out _ _ KS.out (fun hHeld => ?_)
          | refine hK _ _ KS.out (fun hHeld => ?_)
        clear hK K KS
        (try simp only [List.getElem_toArray, List.getElem_cons_succ, List.getElem_cons_zero, Act.put, List.setIfInBounds_toArray, List.set_cons_zero, List.set_cons_succ])
        refine wpAnyH_ready (rs := [4]) (by kernel_rfl) (by simp) ?_; refine AllReadyH.cons rfl (fun K hK => ?_) AllReadyH.nil
        go_simp
        go_at_call 19
        refine (HS.out _ _ RA.out).mono ?_; rintro e wF ⟨a4, c4, rfl, own4, bd⟩
        have KS := Lib.hid (LwH.of HL.out.1 HL.out.2 (hHeld.2.2.2.2.2.trans (bd.mono hHeld.2.2.2.2.2.size)))
        have K8n := Lib.hid (And.intro (K8.out.1.keep bd) K8.out.2); clear K8; have K8 := K8n; clear K8n
        have K4 := Lib.hid (owns_mono own4 hHeld.2.2.2.2.2.size)
        clear own4 bd hHeld
        go_wp2_with fail
        first
          | refine hK.out _ _ KS.out (fun hHeld => ?_)
          | refine hK _ _ KS.out (fun hHeld => ?_)
        clear hK K KS
        (try simp only [List.getElem_toArray, List.getElem_cons_succ, List.getElem_cons_zero, Act.put, List.setIfInBounds_toArray, List.set_cons_zero, List.set_cons_succ])
        (refine wpAnyH_take (i := 5) (v := ?_) rfl (by kernel_rfl) (by kernel_rfl) (by kernel_rfl) (fun _ _ _ h => h) (Or.inl ⟨by kernel_rfl, ?_⟩) (by assumption) ?_; rotate_left; focus (intro w hSw; (try dsimp only at hSw); go_simp; try with_reducible rfl); (try simp only [List.getElem_toArray, List.getElem_cons_succ, List.getElem_cons_zero, Act.put, List.setIfInBounds_toArray, List.set_cons_zero, List.set_cons_succ])); (refine wpAnyH_take (i := 6) (v := ?_) rfl (by kernel_rfl) (by kernel_rfl) (by kernel_rfl) (fun _ _ _ h => h) (Or.inl ⟨by kernel_rfl, ?_⟩) (by assumption) ?_; rotate_left; focus (intro w hSw; (try dsimp only at hSw); go_simp; try with_reducible rfl); (try simp only [List.getElem_toArray, List.getElem_cons_succ, List.getElem_cons_zero, Act.put, List.setIfInBounds_toArray, List.set_cons_zero, List.set_cons_succ])); (refine wpAnyH_take (i := 7) (v := ?_) rfl (by kernel_rfl) (by kernel_rfl) (by kernel_rfl) (fun _ _ _ h => h) (Or.inl ⟨by kernel_rfl, ?_⟩) (by assumption) ?_; rotate_left; focus (intro w hSw; (try dsimp only at hSw); go_simp; try with_reducible rfl); (try simp only [List.getElem_toArray, List.getElem_cons_succ, List.getElem_cons_zero, Act.put, List.setIfInBounds_toArray, List.set_cons_zero, List.set_cons_succ]))
        have hcut := Lib.hid (CutF.mk (t' := t') (o := o) K8.out.1 K8.out.2 K4.out hHeld.2.2.2.2.2)
        obtain ⟨z0, z1, f0, f1⟩ := K8.out.1.two
        clear hHeld
        refine wpAnyH_ready (rs := [9]) (by kernel_rfl) (by simp) ?_; refine AllReadyH.cons rfl (fun K hK => ?_) AllReadyH.nil
        go_simp
        clear z0 z1 f0 f1
        have KS := Lib.hid (LwH.of HL.out.1 HL.out.2 hcut.out.below)
        first
          | refine hK.out _ _ KS.out (fun hHeld => ?_)
          | refine hK _ _ KS.out (fun hHeld => ?_)
        clear hK K KS
        (try simp only [List.getElem_toArray, List.getElem_cons_succ, List.getElem_cons_zero, Act.put, List.setIfInBounds_toArray, List.set_cons_zero, List.set_cons_succ])
        (refine wpAnyH_take (i := 10) (v := ?_) rfl (by kernel_rfl) (by kernel_rfl) (by kernel_rfl) (fun _ _ _ h => h) (Or.inl ⟨by kernel_rfl, ?_⟩) (by assumption) ?_; rotate_left; focus (intro w hSw; (try dsimp only at hSw); go_simp; try with_reducible rfl); (try simp only [List.getElem_toArray, List.getElem_cons_succ, List.getElem_cons_zero, Act.put, List.setIfInBounds_toArray, List.set_cons_zero, List.set_cons_succ]))
        clear hHeld
        refine wpAnyH_done (by kernel_rfl) ?_ _
        go_wp2_with fail
        go_meet
        exact hcut
    · go_simp
      have bd := Below.ofNew (w := X0) (.cells #[.int .i64 0, .slice none 0 0] 35)
      have KS := Lib.hid (LwH.of HL.out.1 HL.out.2 (hHeld.2.2.2.2.2.trans (bd.mono hHeld.2.2.2.2.2.size)))
      have K8 := Lib.hid (And.intro (ObAt.new X0 35 #[.int .i64 0, .slice none 0 0]) (hHeld.2.2.2.2.2.size))
      clear bd hHeld
      generalize X0.alloc (.cells #[.int .i64 0, .slice none 0 0] 35) = wZ at *
      first
        | refine hK.out _ _ KS.out (fun hHeld => ?_)
        | refine hK _ _ KS.out (fun hHeld => ?_)
      clear hK K KS
      (try simp only [List.getElem_toArray, List.getElem_cons_succ, List.getElem_cons_zero, Act.put, List.setIfInBounds_toArray, List.set_cons_zero, List.set_cons_succ])
      refine wpAnyH_ready (rs := [1]) (by kernel_rfl) (by simp) ?_; refine AllReadyH.cons rfl (fun K hK => ?_) AllReadyH.nil
      go_simp
      go_at_call 12
      refine (HTL.out _ hHeld.2.2.2.2.2).mono ?_; rintro e wA ⟨gA, rfl, -, rA, bd⟩
      have KS := Lib.hid (LwH.of HL.out.1 HL.out.2 (hHeld.2.2.2.2.2.trans (bd.mono hHeld.2.2.2.2.2.size)))
      have K8n := Lib.hid (And.intro (K8.out.1.keep bd) K8.out.2); clear K8; have K8 := K8n; clear K8n
      have RA := Lib.hid rA.reads
      clear rA bd hHeld
      go_wp2_with fail
      first
        | refine hK.out _ _ KS.out (fun hHeld => ?_)
        | refine hK _ _ KS.out (fun hHeld => ?_)
      clear hK K KS
      (try simp only [List.getElem_toArray, List.getElem_cons_succ, List.getElem_cons_zero, Act.put, List.setIfInBounds_toArray, List.set_cons_zero, List.set_cons_succ])
      refine wpAnyH_ready (rs := [3]) (by kernel_rfl) (by simp) ?_; refine AllReadyH.cons rfl (fun K hK => ?_) AllReadyH.nil
      go_simp
      go_at_call 8
      refine (toClue_any r0 r1 r2 _).mono ?_; rintro e wB ⟨rfl, bd⟩
      have KS := Lib.hid (LwH.of HL.out.1 HL.out.2 (hHeld.2.2.2.2.2.trans (bd.mono hHeld.2.2.2.2.2.size)))
      have K8n := Lib.hid (And.intro (K8.out.1.keep bd) K8.out.2); clear K8; have K8 := K8n; clear K8n
      have RAn := Lib.hid (RA.out.old bd); clear RA; have RA := RAn; clear RAn
      clear bd hHeld
      go_wp2_with fail
      first
        | refine hK.out _ _ KS.out (fun hHeld => ?_)
        | refine hK _ _ KS.out (fun hHeld => ?_)
      clear hK K KS
      (try simp only [List.getElem_toArray, List.getElem_cons_succ, List.getElem_cons_zero, Act.put, List.setIfInBounds_toArray, List.set_cons_zero, List.set_cons_succ])
      refine wpAnyH_ready (rs := [4]) (by kernel_rfl) (by simp) ?_; refine AllReadyH.cons rfl (fun K hK => ?_) AllReadyH.nil
      go_simp
      go_at_call 19
      refine (HS.out _ _ RA.out).mono ?_; rintro e wF ⟨a4, c4, rfl, own4, bd⟩
      have KS := Lib.hid (LwH.of HL.out.1 HL.out.2 (hHeld.2.2.2.2.2.trans (bd.mono hHeld.2.2.2.2.2.size)))
      have K8n := Lib.hid (And.intro (K8.out.1.keep bd) K8.out.2); clear K8; have K8 := K8n; clear K8n
      have K4 := Lib.hid (owns_mono own4 hHeld.2.2.2.2.2.size)
      clear own4 bd hHeld
      go_wp2_with fail
      first
        | refine hK.out _ _ KS.out (fun hHeld => ?_)
        | refine hK _ _ KS.out (fun hHeld => ?_)
      clear hK K KS
      (try simp only [List.getElem_toArray, List.getElem_cons_succ, List.getElem_cons_zero, Act.put, List.setIfInBounds_toArray, List.set_cons_zero, List.set_cons_succ])
      (refine wpAnyH_take (i := 5) (v := ?_) rfl (by kernel_rfl) (by kernel_rfl) (by kernel_rfl) (fun _ _ _ h => h) (Or.inl ⟨by kernel_rfl, ?_⟩) (by assumption) ?_; rotate_left; focus (intro w hSw; (try dsimp only at hSw); go_simp; try with_reducible rfl); (try simp only [List.getElem_toArray, List.getElem_cons_succ, List.getElem_cons_zero, Act.put, List.setIfInBounds_toArray, List.set_cons_zero, List.set_cons_succ])); (refine wpAnyH_take (i := 6) (v := ?_) rfl (by kernel_rfl) (by kernel_rfl) (by kernel_rfl) (fun _ _ _ h => h) (Or.inl ⟨by kernel_rfl, ?_⟩) (by assumption) ?_; rotate_left; focus (intro w hSw; (try dsimp only at hSw); go_simp; try with_reducible rfl); (try simp only [List.getElem_toArray, List.getElem_cons_succ, List.getElem_cons_zero, Act.put, List.setIfInBounds_toArray, List.set_cons_zero, List.set_cons_succ])); (refine wpAnyH_take (i := 7) (v := ?_) rfl (by kernel_rfl) (by kernel_rfl) (by kernel_rfl) (fun _ _ _ h => h) (Or.inl ⟨by kernel_rfl, ?_⟩) (by assumption) ?_; rotate_left; focus (intro w hSw; (try dsimp only at hSw); go_simp; try with_reducible rfl); (try simp only [List.getElem_toArray, List.getElem_cons_succ, List.getElem_cons_zero, Act.put, List.setIfInBounds_toArray, List.set_cons_zero, List.set_cons_succ]))
      have hcut := Lib.hid (CutF.mk (t' := t') (o := o) K8.out.1 K8.out.2 K4.out hHeld.2.2.2.2.2)
      obtain ⟨z0, z1, f0, f1⟩ := K8.out.1.two
      clear hHeld
      refine wpAnyH_ready (rs := [9]) (by kernel_rfl) (by simp) ?_; refine AllReadyH.cons rfl (fun K hK => ?_) AllReadyH.nil
      go_simp
      clear z0 z1 f0 f1
      have KS := Lib.hid (LwH.of HL.out.1 HL.out.2 hcut.out.below)
      first
        | refine hK.out _ _ KS.out (fun hHeld => ?_)
        | refine hK _ _ KS.out (fun hHeld => ?_)
      clear hK K KS
      (try simp only [List.getElem_toArray, List.getElem_cons_succ, List.getElem_cons_zero, Act.put, List.setIfInBounds_toArray, List.set_cons_zero, List.set_cons_succ])
      (refine wpAnyH_take (i := 10) (v := ?_) rfl (by kernel_rfl) (by kernel_rfl) (by kernel_rfl) (fun _ _ _ h => h) (Or.inl ⟨by kernel_rfl, ?_⟩) (by assumption) ?_; rotate_left; focus (intro w hSw; (try dsimp only at hSw); go_simp; try with_reducible rfl); (try simp only [List.getElem_toArray, List.getElem_cons_succ, List.getElem_cons_zero, Act.put, List.setIfInBounds_toArray, List.set_cons_zero, List.set_cons_succ]))
      clear hHeld
      refine wpAnyH_done (by kernel_rfl) ?_ _
      go_wp2_with fail
      go_meet
      exact hcut
  case rest =>
    clear HS HZ
    obtain ⟨g4, a2, c2, rfl, rfl, hg4, hO4, own2, hb2⟩ := hcut.out
    clear hcut
    obtain ⟨x2, y2, ev, rd2, -, -, -⟩ := Reads.own own2
    injection ev with ev1 ev2 ev3
    subst ev1 ev3
    clear ev2
    have lt2 : ∀ b, blockOf a2 = some b → b < wc.heap.size := fun b e => (owns_ge own2 (own_block.trans e)).2
    have L3 : Hid (LAt w t a l c wc ∧ Reads wc a2 (clus m) ∧ (∀ b, blockOf a2 = some b → b < wc.heap.size) ∧ ObAt wc g4 35 #[.int .i64 t', .slice a2 m.length c2] ∧ ObAt wc (w.heap.size + 1) 23 #[.int .i64 r0, .int .i64 r1, .int .i64 r2]) := ⟨L1.out.1.keep hb2, rd2, lt2, hO4, L1.out.2.keep hb2⟩
    clear lt2 hO4 own2 rd2 hb2 L1 hg4
    obtain ⟨p0, p1, -, -⟩ := L3.out.1.1.two
    go_wp2_with fail
    refine (toPuzzle_any t l _ _ _ hl L3.out.1.2.1).mono ?_; rintro e w3 ⟨g3, rfl, hge3, rd3, b3⟩
    have bn := Below.ofNew (w := w3) (.cells #[.int .i64 t, .slice (some ⟨g3, 0, none⟩) l.length l.length] 35)
    have X4 : Hid (CopAt w t a l c w3.heap.size g3 (w3.alloc (.cells #[.int .i64 t, .slice (some ⟨g3, 0, none⟩) l.length l.length] 35)) ∧ Reads (w3.alloc (.cells #[.int .i64 t, .slice (some ⟨g3, 0, none⟩) l.length l.length] 35)) a2 (clus m) ∧ Writable (w3.alloc (.cells #[.int .i64 t, .slice (some ⟨g3, 0, none⟩) l.length l.length] 35)) (some ⟨g3, 0, none⟩) (l.length * 3) ∧ ObAt (w3.alloc (.cells #[.int .i64 t, .slice (some ⟨g3, 0, none⟩) l.length l.length] 35)) g4 35 #[.int .i64 t', .slice a2 m.length c2] ∧ ObAt (w3.alloc (.cells #[.int .i64 t, .slice (some ⟨g3, 0, none⟩) l.length l.length] 35)) (w.heap.size + 1) 23 #[.int .i64 r0, .int .i64 r1, .int .i64 r2]) :=
      ⟨⟨(L3.out.1.keep b3).keep bn, ObAt.new _ _ _, rd3.reads.old bn⟩, (L3.out.2.1.old b3).old bn, rd3.writable.keep bn, (L3.out.2.2.2.1.keep b3).keep bn, (L3.out.2.2.2.2.keep b3).keep bn⟩
    have hlt3 := rd3.1
    have hl4 := L3.out.2.2.2.1.lt
    have hl5 := L3.out.2.2.2.2.lt
    have HF : Hid (w.heap.size + 1 < g3 ∧ g4 < g3 ∧ g3 < (w3.alloc (.cells #[.int .i64 t, .slice (some ⟨g3, 0, none⟩) l.length l.length] 35)).heap.size ∧ (∀ b, blockOf a2 = some b → b < g3)) :=
      ⟨by omega, by omega, by simp; omega, fun b e => by have := L3.out.2.2.1 b e; omega⟩
    clear rd3 b3 L3 p0 p1 bn hlt3 hl4 hl5 hge3
    go_upto_region 7 with fail
    generalize w3.alloc (.cells #[.int .i64 t, .slice (some ⟨g3, 0, none⟩) l.length l.length] 35) = X7 at *
    generalize w3.heap.size = g5 at *
    go_cut [9, 10] (fun s9 s10 wx => Hid (CutF t' m o X7 s9 s10 wx))
    case first =>
      clear HF HR
      have HL := Lib.hid (And.intro X4.out.1.2.1 X4.out.2.2.2.2)
      have HFX := Lib.hid (fun W (hb : Below X7.heap.size X7 W) => HI.out g3 W (X4.out.1.2.2.old hb))
      clear X4
      refine wp_region_held_drew (S := fun wi => wi.cell? ⟨g5, 0, none⟩ = some (.int .i64 t) ∧ wi.cell? ⟨g5, 1, none⟩ = some (.slice (some ⟨g3, 0, none⟩) l.length l.length) ∧ wi.cell? ⟨w.heap.size + 1, 0, none⟩ = some (.int .i64 r0) ∧ wi.cell? ⟨w.heap.size + 1, 1, none⟩ = some (.int .i64 r1) ∧ wi.cell? ⟨w.heap.size + 1, 2, none⟩ = some (.int .i64 r2) ∧ Below X7.heap.size X7 wi) (by kernel_rfl) (LwH.of HL.out.1 HL.out.2 (Below.drew (Below.refl _ _))) (fun hHeld => ?_)
      (refine wpAnyH_take (i := 0) (v := ?_) rfl (by kernel_rfl) (by kernel_rfl) (by kernel_rfl) (fun _ _ _ h => h) (Or.inl ⟨by kernel_rfl, ?_⟩) (by assumption) ?_; rotate_left; focus (intro w hSw; (try dsimp only at hSw); go_simp; try with_reducible rfl); (try simp only [List.getElem_toArray, List.getElem_cons_succ, List.getElem_cons_zero, Act.put, List.setIfInBounds_toArray, List.set_cons_zero, List.set_cons_succ])); (refine wpAnyH_take (i := 1) (v := ?_) rfl (by kernel_rfl) (by kernel_rfl) (by kernel_rfl) (fun _ _ _ h => h) (Or.inl ⟨by kernel_rfl, ?_⟩) (by assumption) ?_; rotate_left; focus (intro w hSw; (try dsimp only at hSw); go_simp; try with_reducible rfl); (try simp only [List.getElem_toArray, List.getElem_cons_succ, List.getElem_cons_zero, Act.put, List.setIfInBounds_toArray, List.set_cons_zero, List.set_cons_succ]))
      generalize X7.drew = X0 at *
      refine wpAnyH_ready (rs := [2, 7]) (by kernel_rfl) (by simp) (AllReadyH.cons rfl (fun K hK => ?_) (AllReadyH.cons rfl (fun K hK => ?_) AllReadyH.nil))
      · go_simp
        go_at_call 8
        refine (toClue_any r0 r1 r2 _).mono ?_; rintro e wB ⟨rfl, bd⟩
        have KS := Lib.hid (LwH.of HL.out.1 HL.out.2 (hHeld.2.2.2.2.2.trans (bd.mono hHeld.2.2.2.2.2.size)))
        clear bd hHeld
        go_wp2_with fail
        first
          | refine hK.out _ _ KS.out (fun hHeld => ?_)
          | refine hK _ _ KS.out (fun hHeld => ?_)
        clear hK K KS
        (try simp only [List.getElem_toArray, List.getElem_cons_succ, List.getElem_cons_zero, Act.put, List.setIfInBounds_toArray, List.set_cons_zero, List.set_cons_succ])
        refine wpAnyH_ready (rs := [3, 7]) (by kernel_rfl) (by simp) (AllReadyH.cons rfl (fun K hK => ?_) (AllReadyH.cons rfl (fun K hK => ?_) AllReadyH.nil))
        · go_simp
          go_at_call 20
          refine (HFX.out _ hHeld.2.2.2.2.2).mono ?_; rintro e wF ⟨a4, c4, rfl, own4, bd⟩
          have KS := Lib.hid (LwH.of HL.out.1 HL.out.2 (hHeld.2.2.2.2.2.trans (bd.mono hHeld.2.2.2.2.2.size)))
          have K4 := Lib.hid (owns_mono own4 hHeld.2.2.2.2.2.size)
          clear own4 bd hHeld
          go_wp2_with fail
          first
            | refine hK.out _ _ KS.out (fun hHeld => ?_)
            | refine hK _ _ KS.out (fun hHeld => ?_)
          clear hK K KS
          (try simp only [List.getElem_toArray, List.getElem_cons_succ, List.getElem_cons_zero, Act.put, List.setIfInBounds_toArray, List.set_cons_zero, List.set_cons_succ])
          (refine wpAnyH_take (i := 4) (v := ?_) rfl (by kernel_rfl) (by kernel_rfl) (by kernel_rfl) (fun _ _ _ h => h) (Or.inl ⟨by kernel_rfl, ?_⟩) (by assumption) ?_; rotate_left; focus (intro w hSw; (try dsimp only at hSw); go_simp; try with_reducible rfl); (try simp only [List.getElem_toArray, List.getElem_cons_succ, List.getElem_cons_zero, Act.put, List.setIfInBounds_toArray, List.set_cons_zero, List.set_cons_succ])); (refine wpAnyH_take (i := 5) (v := ?_) rfl (by kernel_rfl) (by kernel_rfl) (by kernel_rfl) (fun _ _ _ h => h) (Or.inl ⟨by kernel_rfl, ?_⟩) (by assumption) ?_; rotate_left; focus (intro w hSw; (try dsimp only at hSw); go_simp; try with_reducible rfl); (try simp only [List.getElem_toArray, List.getElem_cons_succ, List.getElem_cons_zero, Act.put, List.setIfInBounds_toArray, List.set_cons_zero, List.set_cons_succ])); (refine wpAnyH_take (i := 6) (v := ?_) rfl (by kernel_rfl) (by kernel_rfl) (by kernel_rfl) (fun _ _ _ h => h) (Or.inl ⟨by kernel_rfl, ?_⟩) (by assumption) ?_; rotate_left; focus (intro w hSw; (try dsimp only at hSw); go_simp; try with_reducible rfl); (try simp only [List.getElem_toArray, List.getElem_cons_succ, List.getElem_cons_zero, Act.put, List.setIfInBounds_toArray, List.set_cons_zero, List.set_cons_succ]))
          refine wpAnyH_ready (rs := [7]) (by kernel_rfl) (by simp) ?_; refine AllReadyH.cons rfl (fun K hK => ?_) AllReadyH.nil
          go_simp
          have bd := Below.ofNew (w := wF) (.cells #[.int .i64 0, .slice none 0 0] 35)
          have KS := Lib.hid (LwH.of HL.out.1 HL.out.2 (hHeld.2.2.2.2.2.trans (bd.mono hHeld.2.2.2.2.2.size)))
          have K4n := Lib.hid (owns_below K4.out bd); clear K4; have K4 := K4n; clear K4n
          have K8 := Lib.hid (And.intro (ObAt.new wF 35 #[.int .i64 0, .slice none 0 0]) (hHeld.2.2.2.2.2.size))
          clear bd hHeld
          generalize wF.alloc (.cells #[.int .i64 0, .slice none 0 0] 35) = wZ at *
          first
            | refine hK.out _ _ KS.out (fun hHeld => ?_)
            | refine hK _ _ KS.out (fun hHeld => ?_)
          clear hK K KS
          (try simp only [List.getElem_toArray, List.getElem_cons_succ, List.getElem_cons_zero, Act.put, List.setIfInBounds_toArray, List.set_cons_zero, List.set_cons_succ])
          have hcut := Lib.hid (CutF.mk (t' := t') (o := o) K8.out.1 K8.out.2 K4.out hHeld.2.2.2.2.2)
          obtain ⟨z0, z1, f0, f1⟩ := K8.out.1.two
          clear hHeld
          refine wpAnyH_ready (rs := [8]) (by kernel_rfl) (by simp) ?_; refine AllReadyH.cons rfl (fun K hK => ?_) AllReadyH.nil
          go_simp
          clear z0 z1 f0 f1
          have KS := Lib.hid (LwH.of HL.out.1 HL.out.2 hcut.out.below)
          first
            | refine hK.out _ _ KS.out (fun hHeld => ?_)
            | refine hK _ _ KS.out (fun hHeld => ?_)
          clear hK K KS
          (try simp only [List.getElem_toArray, List.getElem_cons_succ, List.getElem_cons_zero, Act.put, List.setIfInBounds_toArray, List.set_cons_zero, List.set_cons_succ])
          (refine wpAnyH_take (i := 9) (v := ?_) rfl (by kernel_rfl) (by kernel_rfl) (by kernel_rfl) (fun _ _ _ h => h) (Or.inl ⟨by kernel_rfl, ?_⟩) (by assumption) ?_; rotate_left; focus (intro w hSw; (try dsimp only at hSw); go_simp; try with_reducible rfl); (try simp only [List.getElem_toArray, List.getElem_cons_succ, List.getElem_cons_zero, Act.put, List.setIfInBounds_toArray, List.set_cons_zero, List.set_cons_succ]))
          clear hHeld
          refine wpAnyH_done (by kernel_rfl) ?_ _
          go_wp2_with fail
          go_meet
          exact hcut
        · go_simp
          have bd := Below.ofNew (w := wB) (.cells #[.int .i64 0, .slice none 0 0] 35)
          have KS := Lib.hid (LwH.of HL.out.1 HL.out.2 (hHeld.2.2.2.2.2.trans (bd.mono hHeld.2.2.2.2.2.size)))
          have K8 := Lib.hid (And.intro (ObAt.new wB 35 #[.int .i64 0, .slice none 0 0]) (hHeld.2.2.2.2.2.size))
          clear bd hHeld
          generalize wB.alloc (.cells #[.int .i64 0, .slice none 0 0] 35) = wZ at *
          first
            | refine hK.out _ _ KS.out (fun hHeld => ?_)
            | refine hK _ _ KS.out (fun hHeld => ?_)
          clear hK K KS
          (try simp only [List.getElem_toArray, List.getElem_cons_succ, List.getElem_cons_zero, Act.put, List.setIfInBounds_toArray, List.set_cons_zero, List.set_cons_succ])
          refine wpAnyH_ready (rs := [3]) (by kernel_rfl) (by simp) ?_; refine AllReadyH.cons rfl (fun K hK => ?_) AllReadyH.nil
          go_simp
          go_at_call 20
          refine (HFX.out _ hHeld.2.2.2.2.2).mono ?_; rintro e wF ⟨a4, c4, rfl, own4, bd⟩
          have KS := Lib.hid (LwH.of HL.out.1 HL.out.2 (hHeld.2.2.2.2.2.trans (bd.mono hHeld.2.2.2.2.2.size)))
          have K8n := Lib.hid (And.intro (K8.out.1.keep bd) K8.out.2); clear K8; have K8 := K8n; clear K8n
          have K4 := Lib.hid (owns_mono own4 hHeld.2.2.2.2.2.size)
          clear own4 bd hHeld
          go_wp2_with fail
          first
            | refine hK.out _ _ KS.out (fun hHeld => ?_)
            | refine hK _ _ KS.out (fun hHeld => ?_)
          clear hK K KS
          (try simp only [List.getElem_toArray, List.getElem_cons_succ, List.getElem_cons_zero, Act.put, List.setIfInBounds_toArray, List.set_cons_zero, List.set_cons_succ])
          (refine wpAnyH_take (i := 4) (v := ?_) rfl (by kernel_rfl) (by kernel_rfl) (by kernel_rfl) (fun _ _ _ h => h) (Or.inl ⟨by kernel_rfl, ?_⟩) (by assumption) ?_; rotate_left; focus (intro w hSw; (try dsimp only at hSw); go_simp; try with_reducible rfl); (try simp only [List.getElem_toArray, List.getElem_cons_succ, List.getElem_cons_zero, Act.put, List.setIfInBounds_toArray, List.set_cons_zero, List.set_cons_succ])); (refine wpAnyH_take (i := 5) (v := ?_) rfl (by kernel_rfl) (by kernel_rfl) (by kernel_rfl) (fun _ _ _ h => h) (Or.inl ⟨by kernel_rfl, ?_⟩) (by assumption) ?_; rotate_left; focus (intro w hSw; (try dsimp only at hSw); go_simp; try with_reducible rfl); (try simp only [List.getElem_toArray, List.getElem_cons_succ, List.getElem_cons_zero, Act.put, List.setIfInBounds_toArray, List.set_cons_zero, List.set_cons_succ])); (refine wpAnyH_take (i := 6) (v := ?_) rfl (by kernel_rfl) (by kernel_rfl) (by kernel_rfl) (fun _ _ _ h => h) (Or.inl ⟨by kernel_rfl, ?_⟩) (by assumption) ?_; rotate_left; focus (intro w hSw; (try dsimp only at hSw); go_simp; try with_reducible rfl); (try simp only [List.getElem_toArray, List.getElem_cons_succ, List.getElem_cons_zero, Act.put, List.setIfInBounds_toArray, List.set_cons_zero, List.set_cons_succ]))
          have hcut := Lib.hid (CutF.mk (t' := t') (o := o) K8.out.1 K8.out.2 K4.out hHeld.2.2.2.2.2)
          obtain ⟨z0, z1, f0, f1⟩ := K8.out.1.two
          clear hHeld
          refine wpAnyH_ready (rs := [8]) (by kernel_rfl) (by simp) ?_; refine AllReadyH.cons rfl (fun K hK => ?_) AllReadyH.nil
          go_simp
          clear z0 z1 f0 f1
          have KS := Lib.hid (LwH.of HL.out.1 HL.out.2 hcut.out.below)
          first
            | refine hK.out _ _ KS.out (fun hHeld => ?_)
            | refine hK _ _ KS.out (fun hHeld => ?_)
          clear hK K KS
          (try simp only [List.getElem_toArray, List.getElem_cons_succ, List.getElem_cons_zero, Act.put, List.setIfInBounds_toArray, List.set_cons_zero, List.set_cons_succ])
          (refine wpAnyH_take (i := 9) (v := ?_) rfl (by kernel_rfl) (by kernel_rfl) (by kernel_rfl) (fun _ _ _ h => h) (Or.inl ⟨by kernel_rfl, ?_⟩) (by assumption) ?_; rotate_left; focus (intro w hSw; (try dsimp only at hSw); go_simp; try with_reducible rfl); (try simp only [List.getElem_toArray, List.getElem_cons_succ, List.getElem_cons_zero, Act.put, List.setIfInBounds_toArray, List.set_cons_zero, List.set_cons_succ]))
          clear hHeld
          refine wpAnyH_done (by kernel_rfl) ?_ _
          go_wp2_with fail
          go_meet
          exact hcut
      · go_simp
        have bd := Below.ofNew (w := X0) (.cells #[.int .i64 0, .slice none 0 0] 35)
        have KS := Lib.hid (LwH.of HL.out.1 HL.out.2 (hHeld.2.2.2.2.2.trans (bd.mono hHeld.2.2.2.2.2.size)))
        have K8 := Lib.hid (And.intro (ObAt.new X0 35 #[.int .i64 0, .slice none 0 0]) (hHeld.2.2.2.2.2.size))
        clear bd hHeld
        generalize X0.alloc (.cells #[.int .i64 0, .slice none 0 0] 35) = wZ at *
        first
          | refine hK.out _ _ KS.out (fun hHeld => ?_)
          | refine hK _ _ KS.out (fun hHeld => ?_)
        clear hK K KS
        (try simp only [List.getElem_toArray, List.getElem_cons_succ, List.getElem_cons_zero, Act.put, List.setIfInBounds_toArray, List.set_cons_zero, List.set_cons_succ])
        refine wpAnyH_ready (rs := [2]) (by kernel_rfl) (by simp) ?_; refine AllReadyH.cons rfl (fun K hK => ?_) AllReadyH.nil
        go_simp
        go_at_call 8
        refine (toClue_any r0 r1 r2 _).mono ?_; rintro e wB ⟨rfl, bd⟩
        have KS := Lib.hid (LwH.of HL.out.1 HL.out.2 (hHeld.2.2.2.2.2.trans (bd.mono hHeld.2.2.2.2.2.size)))
        have K8n := Lib.hid (And.intro (K8.out.1.keep bd) K8.out.2); clear K8; have K8 := K8n; clear K8n
        clear bd hHeld
        go_wp2_with fail
        first
          | refine hK.out _ _ KS.out (fun hHeld => ?_)
          | refine hK _ _ KS.out (fun hHeld => ?_)
        clear hK K KS
        (try simp only [List.getElem_toArray, List.getElem_cons_succ, List.getElem_cons_zero, Act.put, List.setIfInBounds_toArray, List.set_cons_zero, List.set_cons_succ])
        refine wpAnyH_ready (rs := [3]) (by kernel_rfl) (by simp) ?_; refine AllReadyH.cons rfl (fun K hK => ?_) AllReadyH.nil
        go_simp
        go_at_call 20
        refine (HFX.out _ hHeld.2.2.2.2.2).mono ?_; rintro e wF ⟨a4, c4, rfl, own4, bd⟩
        have KS := Lib.hid (LwH.of HL.out.1 HL.out.2 (hHeld.2.2.2.2.2.trans (bd.mono hHeld.2.2.2.2.2.size)))
        have K8n := Lib.hid (And.intro (K8.out.1.keep bd) K8.out.2); clear K8; have K8 := K8n; clear K8n
        have K4 := Lib.hid (owns_mono own4 hHeld.2.2.2.2.2.size)
        clear own4 bd hHeld
        go_wp2_with fail
        first
          | refine hK.out _ _ KS.out (fun hHeld => ?_)
          | refine hK _ _ KS.out (fun hHeld => ?_)
        clear hK K KS
        (try simp only [List.getElem_toArray, List.getElem_cons_succ, List.getElem_cons_zero, Act.put, List.setIfInBounds_toArray, List.set_cons_zero, List.set_cons_succ])
        (refine wpAnyH_take (i := 4) (v := ?_) rfl (by kernel_rfl) (by kernel_rfl) (by kernel_rfl) (fun _ _ _ h => h) (Or.inl ⟨by kernel_rfl, ?_⟩) (by assumption) ?_; rotate_left; focus (intro w hSw; (try dsimp only at hSw); go_simp; try with_reducible rfl); (try simp only [List.getElem_toArray, List.getElem_cons_succ, List.getElem_cons_zero, Act.put, List.setIfInBounds_toArray, List.set_cons_zero, List.set_cons_succ])); (refine wpAnyH_take (i := 5) (v := ?_) rfl (by kernel_rfl) (by kernel_rfl) (by kernel_rfl) (fun _ _ _ h => h) (Or.inl ⟨by kernel_rfl, ?_⟩) (by assumption) ?_; rotate_left; focus (intro w hSw; (try dsimp only at hSw); go_simp; try with_reducible rfl); (try simp only [List.getElem_toArray, List.getElem_cons_succ, List.getElem_cons_zero, Act.put, List.setIfInBounds_toArray, List.set_cons_zero, List.set_cons_succ])); (refine wpAnyH_take (i := 6) (v := ?_) rfl (by kernel_rfl) (by kernel_rfl) (by kernel_rfl) (fun _ _ _ h => h) (Or.inl ⟨by kernel_rfl, ?_⟩) (by assumption) ?_; rotate_left; focus (intro w hSw; (try dsimp only at hSw); go_simp; try with_reducible rfl); (try simp only [List.getElem_toArray, List.getElem_cons_succ, List.getElem_cons_zero, Act.put, List.setIfInBounds_toArray, List.set_cons_zero, List.set_cons_succ]))
        have hcut := Lib.hid (CutF.mk (t' := t') (o := o) K8.out.1 K8.out.2 K4.out hHeld.2.2.2.2.2)
        obtain ⟨z0, z1, f0, f1⟩ := K8.out.1.two
        clear hHeld
        refine wpAnyH_ready (rs := [8]) (by kernel_rfl) (by simp) ?_; refine AllReadyH.cons rfl (fun K hK => ?_) AllReadyH.nil
        go_simp
        clear z0 z1 f0 f1
        have KS := Lib.hid (LwH.of HL.out.1 HL.out.2 hcut.out.below)
        first
          | refine hK.out _ _ KS.out (fun hHeld => ?_)
          | refine hK _ _ KS.out (fun hHeld => ?_)
        clear hK K KS
        (try simp only [List.getElem_toArray, List.getElem_cons_succ, List.getElem_cons_zero, Act.put, List.setIfInBounds_toArray, List.set_cons_zero, List.set_cons_succ])
        (refine wpAnyH_take (i := 9) (v := ?_) rfl (by kernel_rfl) (by kernel_rfl) (by kernel_rfl) (fun _ _ _ h => h) (Or.inl ⟨by kernel_rfl, ?_⟩) (by assumption) ?_; rotate_left; focus (intro w hSw; (try dsimp only at hSw); go_simp; try with_reducible rfl); (try simp only [List.getElem_toArray, List.getElem_cons_succ, List.getElem_cons_zero, Act.put, List.setIfInBounds_toArray, List.set_cons_zero, List.set_cons_succ]))
        clear hHeld
        refine wpAnyH_done (by kernel_rfl) ?_ _
        go_wp2_with fail
        go_meet
        exact hcut
    case rest =>
      obtain ⟨g7, a4, c4, rfl, rfl, hg7, hO7, o4, hb7⟩ := hcut.out
      clear hcut
      have HF4 : Hid ((∀ b, blockOf a4 = some b → X7.heap.size ≤ b ∧ b ≠ g7) ∧ X7.heap.size ≤ g7) := ⟨fun b e => ⟨(owns_ge o4 (own_block.trans e)).1, fun e2 => by
        subst e2
        exact owns_apart (g := b) (T := 35) (fr := (0, 0)) hO7 (by decide) o4 (own_block.trans e)⟩, hg7⟩
      have Y5 : Hid (LwB w t a l c r0 r1 r2 g5 g3 m a2 X7.heap.size (.slice a4 m.length c4) t' c2 g4 c4 g7 a4 wc) :=
        ⟨⟨X4.out.1.keep hb7, X4.out.2.1.old hb7, o4, X4.out.2.2.1.keep hb7⟩, ⟨X4.out.2.2.2.1.keep hb7, hO7⟩, X4.out.2.2.2.2.keep hb7⟩
      clear hg7 hO7 o4 hb7 X4
      obtain ⟨b0, b1, b3, b4⟩ := Y5.out.2.1.full
      go_wp2_with fail
      obtain ⟨x4, y4, ev, r4, -, -, -⟩ := Reads.own Y5.out.1.2.2.1
      injection ev with ev1 ev2 ev3
      subst ev1 ev3
      clear ev2
      refine (eq_sameL t' m _ _ _ _ _ (by omega) r4 Y5.out.1.2.1).mono ?_; rintro e w5 ⟨rfl, bb5⟩
      have Y6 := Lib.hid (Y5.out.keep bb5); clear bb5 Y5 r4 b0 b1 b3 b4
      have Y6d := Lib.hid (Y6.out.keep (Below.drew (Below.refl _ _)))
      obtain ⟨p0, p1, p3, p4, -⟩ := full Y6.out
      go_wp2_with fail
      clear p0 p1 p3 p4
      refine wp_region_held_drew (S := fun w' => w'.cell? ⟨w.heap.size, 0, none⟩ = some (.int .i64 t) ∧ w'.cell? ⟨w.heap.size, 1, none⟩ = some (.slice a l.length c) ∧ w'.cell? ⟨g5, 0, none⟩ = some (.int .i64 t) ∧ w'.cell? ⟨g5, 1, none⟩ = some (.slice (some ⟨g3, 0, none⟩) l.length l.length) ∧ LwB w t a l c r0 r1 r2 g5 g3 m a2 X7.heap.size (.slice a4 m.length c4) t' c2 g4 c4 g7 a4 w') (by kernel_rfl) (full Y6d.out) (fun hHeld => ?_)
      (refine wpAnyH_take (i := 0) (v := ?_) rfl (by kernel_rfl) (by kernel_rfl) (by kernel_rfl) (fun _ _ _ h => h) (Or.inl ⟨by kernel_rfl, ?_⟩) (by assumption) ?_; rotate_left; focus (intro w hSw; (try dsimp only at hSw); go_simp; try with_reducible rfl); (try simp only [List.getElem_toArray, List.getElem_cons_succ, List.getElem_cons_zero, Act.put, List.setIfInBounds_toArray, List.set_cons_zero, List.set_cons_succ])); (refine wpAnyH_take (i := 1) (v := ?_) rfl (by kernel_rfl) (by kernel_rfl) (by kernel_rfl) (fun _ _ _ h => h) (Or.inl ⟨by kernel_rfl, ?_⟩) (by assumption) ?_; rotate_left; focus (intro w hSw; (try dsimp only at hSw); go_simp; try with_reducible rfl); (try simp only [List.getElem_toArray, List.getElem_cons_succ, List.getElem_cons_zero, Act.put, List.setIfInBounds_toArray, List.set_cons_zero, List.set_cons_succ]))
      refine wpAnyH_ready (rs := [2]) (by kernel_rfl) (by simp) ?_; refine AllReadyH.cons rfl (fun K hK => ?_) AllReadyH.nil
      go_simp
      go_at_call 12
      refine (toPuzzle_any t l _ _ _ hl Y6d.out.1.1.1.2.1).mono ?_; rintro e w6 ⟨g6, rfl, -, r6, b6⟩
      have Y7 := Lib.hid (Y6d.out.keep b6)
      have R6 := Lib.hid r6.reads; clear r6 b6 Y6 Y6d hHeld
      go_wp2_with fail
      first
        | refine hK.out _ _ (full Y7.out) (fun hHeld => ?_)
        | refine hK _ _ (full Y7.out) (fun hHeld => ?_)
      clear hK K
      (try simp only [List.getElem_toArray, List.getElem_cons_succ, List.getElem_cons_zero, Act.put, List.setIfInBounds_toArray, List.set_cons_zero, List.set_cons_succ])
      refine wpAnyH_ready (rs := [3]) (by kernel_rfl) (by simp) ?_; refine AllReadyH.cons rfl (fun K hK => ?_) AllReadyH.nil
      go_simp
      go_at_call 14
      refine (eqPuzzle_same t l _ _ _ hl Y7.out.1.1.2.2 R6.out).mono ?_; rintro e w7 ⟨rfl, b7⟩
      have Y8 := Lib.hid (Y7.out.keep b7); clear b7 Y7 hHeld R6
      go_wp2_with fail
      first
        | refine hK.out _ _ (full Y8.out) (fun hHeld => ?_)
        | refine hK _ _ (full Y8.out) (fun hHeld => ?_)
      clear hK K
      (try simp only [List.getElem_toArray, List.getElem_cons_succ, List.getElem_cons_zero, Act.put, List.setIfInBounds_toArray, List.set_cons_zero, List.set_cons_succ])
      (refine wpAnyH_take (i := 4) (v := ?_) rfl (by kernel_rfl) (by kernel_rfl) (by kernel_rfl) (fun _ _ _ h => h) (Or.inl ⟨by kernel_rfl, ?_⟩) (by assumption) ?_; rotate_left; focus (intro w hSw; (try dsimp only at hSw); go_simp; try with_reducible rfl); (try simp only [List.getElem_toArray, List.getElem_cons_succ, List.getElem_cons_zero, Act.put, List.setIfInBounds_toArray, List.set_cons_zero, List.set_cons_succ]))
      refine wpAnyH_done (by kernel_rfl) ?_ _
      clear hHeld
      obtain ⟨p0, p1, p3, p4, -⟩ := full Y8.out
      go_wp2_with fail
      refine (markPuzzle_any t l.length _ _ 1 _ (by omega) (by omega) (by omega) Y8.out.1.2.2.2).mono ?_; rintro e w8 ⟨rfl, hw8⟩
      have bn := Below.ofNew (w := w7) (.cells #[.int .i64 t, .slice (some ⟨g3, 0, none⟩) l.length l.length] 35)
      have Z8 : Hid (LmAt w t a l c m a2 X7.heap.size (.slice a4 m.length c4) w8 ∧ BxL t' m.length a2 c2 g4 a4 c4 g7 w8 ∧ ObAt w8 (w.heap.size + 1) 23 #[.int .i64 r0, .int .i64 r1, .int .i64 r2]) := by
        have h9 := Y8.out.keep bn
        rw [hw8]
        refine ⟨⟨h9.1.1.1.write HR.out (fun b e => by simp [blockOf] at e; subst e; have := HF.out.1; omega) _, h9.1.2.1.write_other (fun b e e2 => by simp [blockOf] at e2; have := HF.out.2.2.2 b e; omega) _, owns_heap h9.1.2.2.1 (fun k e => write_heap _ _ _ _ (by
          rw [own_block] at e
          have := (HF4.out.1 k e).1
          have := HF.out.2.2.1
          simp [blockOf]; omega))⟩, h9.2.1.write (by have := HF.out.2.1; simp [blockOf]; omega) (by have := HF.out.2.2.1; have := HF4.out.2; simp [blockOf]; omega) _, h9.2.2.write (by have := HF.out.1; simp [blockOf]; omega) _⟩
      clear hw8 bn Y8 p0 p1 p3 p4
      have k1 : ((1 : Int) + ((l.length * 3 : Nat) : Int) < 0) = False := by simp; omega
      obtain ⟨b0, b1, b3, b4⟩ := Z8.out.2.1.full
      go_wp2_with fail
      obtain ⟨x4, y4, ev, r4, -, -, -⟩ := Reads.own Z8.out.1.2.2
      injection ev with ev1 ev2 ev3
      subst ev1 ev3
      clear ev2
      refine (eq_sameL t' m _ _ _ _ _ (by omega) r4 Z8.out.1.2.1).mono ?_; rintro e w9 ⟨rfl, b9⟩
      have Z9 := Lib.hid (And.intro (Z8.out.1.keep b9) (And.intro (Z8.out.2.1.keep b9) (Z8.out.2.2.keep b9))); clear b9 Z8 r4 b0 b1 b3 b4
      obtain ⟨b0, b1, b3, b4⟩ := Z9.out.2.1.full
      go_wp2_with fail
      have bn9 := Below.ofNew (w := w9) (.cells #[.int .i64 t', .slice a4 m.length c4] 35)
      have wr9 := Writable.own Z9.out.1.2.2
      refine (markPuzzle_any t' m.length _ _ 1 _ (by omega) (by omega) (by omega) wr9).mono ?_; rintro e w10 ⟨rfl, hw10⟩
      have Z10 : Hid (LkAt w t a l c m a2 a4 w10 ∧ BxL t' m.length a2 c2 g4 a4 c4 g7 w10 ∧ ObAt w10 (w.heap.size + 1) 23 #[.int .i64 r0, .int .i64 r1, .int .i64 r2]) := by
        have h9 := Z9.out.1.keep bn9
        have h9b := Z9.out.2.1.keep bn9
        have h9c := Z9.out.2.2.keep bn9
        rw [hw10]
        refine ⟨⟨h9.1.write HR.out (fun b e => by have := (HF4.out.1 b e).1; have := HF.out.1; have := HF.out.2.2.1; omega) _, h9.2.1.write_other (fun b e e2 => by have := (HF4.out.1 b e2).1; have := HF.out.2.2.2 b e; have := HF.out.2.2.1; omega) _, Reads.written (by rw [ints_len, marks_len]; exact wr9.keep bn9)⟩, h9b.write (fun e => by have := (HF4.out.1 _ e).1; have := HF.out.2.1; have := HF.out.2.2.1; omega) (fun e => (HF4.out.1 _ e).2 rfl) _, h9c.write (fun e => by have := (HF4.out.1 _ e).1; have := HF.out.1; have := HF.out.2.2.1; omega) _⟩
      clear hw10 wr9 Z9 bn9 b0 b1 b3 b4
      have k2 : ((1 : Int) + ((m.length * 3 : Nat) : Int) < 0) = False := by simp; omega
      have k3 : ((1 : Int) + ((m.length * 3 : Nat) : Int) != 1 + ((m.length * 3 : Nat) : Int)) = false := by simp
      obtain ⟨b0, b1, b3, b4⟩ := Z10.out.2.1.full
      go_wp2_with fail
      refine (heldPuzzle_any t' m.length _ _ 1 _ (by omega) (by omega) (by omega) Z10.out.1.2.2).mono ?_; rintro e w11 ⟨rfl, b11⟩
      have Z11 := Lib.hid (And.intro (Z10.out.1.keep b11) (And.intro (Z10.out.2.1.keep b11) (Z10.out.2.2.keep b11))); clear b11 Z10 b0 b1 b3 b4
      go_upto_region 24 with fail
      go_cut [14, 15] (fun s14 s15 wx => Hid (CutF t' m o w11 s14 s15 wx))
      case first =>
        clear HF HR HF4 k1 k2 k3
        have HL := Lib.hid (And.intro Z11.out.1.1.1 Z11.out.2.2)
        have HTL := Lib.hid (fun W (hb : Below w11.heap.size w11 W) => toPuzzle_any t l a c W hl (Z11.out.1.1.2.1.old hb))
        clear Z11
        refine wp_region_held_drew (S := fun wi => wi.cell? ⟨w.heap.size, 0, none⟩ = some (.int .i64 t) ∧ wi.cell? ⟨w.heap.size, 1, none⟩ = some (.slice a l.length c) ∧ wi.cell? ⟨w.heap.size + 1, 0, none⟩ = some (.int .i64 r0) ∧ wi.cell? ⟨w.heap.size + 1, 1, none⟩ = some (.int .i64 r1) ∧ wi.cell? ⟨w.heap.size + 1, 2, none⟩ = some (.int .i64 r2) ∧ Below w11.heap.size w11 wi) (by kernel_rfl) (LwH.of HL.out.1 HL.out.2 (Below.drew (Below.refl _ _))) (fun hHeld => ?_)
        (refine wpAnyH_take (i := 0) (v := ?_) rfl (by kernel_rfl) (by kernel_rfl) (by kernel_rfl) (fun _ _ _ h => h) (Or.inl ⟨by kernel_rfl, ?_⟩) (by assumption) ?_; rotate_left; focus (intro w hSw; (try dsimp only at hSw); go_simp; try with_reducible rfl); (try simp only [List.getElem_toArray, List.getElem_cons_succ, List.getElem_cons_zero, Act.put, List.setIfInBounds_toArray, List.set_cons_zero, List.set_cons_succ])); (refine wpAnyH_take (i := 2) (v := ?_) rfl (by kernel_rfl) (by kernel_rfl) (by kernel_rfl) (fun _ _ _ h => h) (Or.inl ⟨by kernel_rfl, ?_⟩) (by assumption) ?_; rotate_left; focus (intro w hSw; (try dsimp only at hSw); go_simp; try with_reducible rfl); (try simp only [List.getElem_toArray, List.getElem_cons_succ, List.getElem_cons_zero, Act.put, List.setIfInBounds_toArray, List.set_cons_zero, List.set_cons_succ]))
        generalize w11.drew = X0 at *
        refine wpAnyH_ready (rs := [1, 8]) (by kernel_rfl) (by simp) (AllReadyH.cons rfl (fun K hK => ?_) (AllReadyH.cons rfl (fun K hK => ?_) AllReadyH.nil))
        · go_simp
          go_at_call 12
          refine (HTL.out _ hHeld.2.2.2.2.2).mono ?_; rintro e wA ⟨gA, rfl, -, rA, bd⟩
          have KS := Lib.hid (LwH.of HL.out.1 HL.out.2 (hHeld.2.2.2.2.2.trans (bd.mono hHeld.2.2.2.2.2.size)))
          have RA := Lib.hid rA.reads
          clear rA bd hHeld
          go_wp2_with fail
          first
            | refine hK.out _ _ KS.out (fun hHeld => ?_)
            | refine hK _ _ KS.out (fun hHeld => ?_)
          clear hK K KS
          (try simp only [List.getElem_toArray, List.getElem_cons_succ, List.getElem_cons_zero, Act.put, List.setIfInBounds_toArray, List.set_cons_zero, List.set_cons_succ])
          refine wpAnyH_ready (rs := [3, 8]) (by kernel_rfl) (by simp) (AllReadyH.cons rfl (fun K hK => ?_) (AllReadyH.cons rfl (fun K hK => ?_) AllReadyH.nil))
          · go_simp
            go_at_call 8
            refine (toClue_any r0 r1 r2 _).mono ?_; rintro e wB ⟨rfl, bd⟩
            have KS := Lib.hid (LwH.of HL.out.1 HL.out.2 (hHeld.2.2.2.2.2.trans (bd.mono hHeld.2.2.2.2.2.size)))
            have RAn := Lib.hid (RA.out.old bd); clear RA; have RA := RAn; clear RAn
            clear bd hHeld
            go_wp2_with fail
            first
              | refine hK.out _ _ KS.out (fun hHeld => ?_)
              | refine hK _ _ KS.out (fun hHeld => ?_)
            clear hK K KS
            (try simp only [List.getElem_toArray, List.getElem_cons_succ, List.getElem_cons_zero, Act.put, List.setIfInBounds_toArray, List.set_cons_zero, List.set_cons_succ])
            refine wpAnyH_ready (rs := [4, 8]) (by kernel_rfl) (by simp) (AllReadyH.cons rfl (fun K hK => ?_) (AllReadyH.cons rfl (fun K hK => ?_) AllReadyH.nil))
            · go_simp
              go_at_call 20
              refine (HI.out _ _ RA.out).mono ?_; rintro e wF ⟨a4, c4, rfl, own4, bd⟩
              have KS := Lib.hid (LwH.of HL.out.1 HL.out.2 (hHeld.2.2.2.2.2.trans (bd.mono hHeld.2.2.2.2.2.size)))
              have K4 := Lib.hid (owns_mono own4 hHeld.2.2.2.2.2.size)
              clear own4 bd hHeld
              go_wp2_with fail
              first
                | refine hK.out _ _ KS.out (fun hHeld => ?_)
                | refine hK _ _ KS.out (fun hHeld => ?_)
              clear hK K KS
              (try simp only [List.getElem_toArray, List.getElem_cons_succ, List.getElem_cons_zero, Act.put, List.setIfInBounds_toArray, List.set_cons_zero, List.set_cons_succ])
              (refine wpAnyH_take (i := 5) (v := ?_) rfl (by kernel_rfl) (by kernel_rfl) (by kernel_rfl) (fun _ _ _ h => h) (Or.inl ⟨by kernel_rfl, ?_⟩) (by assumption) ?_; rotate_left; focus (intro w hSw; (try dsimp only at hSw); go_simp; try with_reducible rfl); (try simp only [List.getElem_toArray, List.getElem_cons_succ, List.getElem_cons_zero, Act.put, List.setIfInBounds_toArray, List.set_cons_zero, List.set_cons_succ])); (refine wpAnyH_take (i := 6) (v := ?_) rfl (by kernel_rfl) (by kernel_rfl) (by kernel_rfl) (fun _ _ _ h => h) (Or.inl ⟨by kernel_rfl, ?_⟩) (by assumption) ?_; rotate_left; focus (intro w hSw; (try dsimp only at hSw); go_simp; try with_reducible rfl); (try simp only [List.getElem_toArray, List.getElem_cons_succ, List.getElem_cons_zero, Act.put, List.setIfInBounds_toArray, List.set_cons_zero, List.set_cons_succ])); (refine wpAnyH_take (i := 7) (v := ?_) rfl (by kernel_rfl) (by kernel_rfl) (by kernel_rfl) (fun _ _ _ h => h) (Or.inl ⟨by kernel_rfl, ?_⟩) (by assumption) ?_; rotate_left; focus (intro w hSw; (try dsimp only at hSw); go_simp; try with_reducible rfl); (try simp only [List.getElem_toArray, List.getElem_cons_succ, List.getElem_cons_zero, Act.put, List.setIfInBounds_toArray, List.set_cons_zero, List.set_cons_succ]))
              refine wpAnyH_ready (rs := [8]) (by kernel_rfl) (by simp) ?_; refine AllReadyH.cons rfl (fun K hK => ?_) AllReadyH.nil
              go_simp
              have bd := Below.ofNew (w := wF) (.cells #[.int .i64 0, .slice none 0 0] 35)
              have KS := Lib.hid (LwH.of HL.out.1 HL.out.2 (hHeld.2.2.2.2.2.trans (bd.mono hHeld.2.2.2.2.2.size)))
              have K4n := Lib.hid (owns_below K4.out bd); clear K4; have K4 := K4n; clear K4n
              have K8 := Lib.hid (And.intro (ObAt.new wF 35 #[.int .i64 0, .slice none 0 0]) (hHeld.2.2.2.2.2.size))
              clear bd hHeld
              generalize wF.alloc (.cells #[.int .i64 0, .slice none 0 0] 35) = wZ at *
              first
                | refine hK.out _ _ KS.out (fun hHeld => ?_)
                | refine hK _ _ KS.out (fun hHeld => ?_)
              clear hK K KS
              (try simp only [List.getElem_toArray, List.getElem_cons_succ, List.getElem_cons_zero, Act.put, List.setIfInBounds_toArray, List.set_cons_zero, List.set_cons_succ])
              have hcut := Lib.hid (CutF.mk (t' := t') (o := o) K8.out.1 K8.out.2 K4.out hHeld.2.2.2.2.2)
              obtain ⟨z0, z1, f0, f1⟩ := K8.out.1.two
              clear hHeld
              refine wpAnyH_ready (rs := [9]) (by kernel_rfl) (by simp) ?_; refine AllReadyH.cons rfl (fun K hK => ?_) AllReadyH.nil
              go_simp
              clear z0 z1 f0 f1
              have KS := Lib.hid (LwH.of HL.out.1 HL.out.2 hcut.out.below)
              first
                | refine hK.out _ _ KS.out (fun hHeld => ?_)
                | refine hK _ _ KS.out (fun hHeld => ?_)
              clear hK K KS
              (try simp only [List.getElem_toArray, List.getElem_cons_succ, List.getElem_cons_zero, Act.put, List.setIfInBounds_toArray, List.set_cons_zero, List.set_cons_succ])
              (refine wpAnyH_take (i := 10) (v := ?_) rfl (by kernel_rfl) (by kernel_rfl) (by kernel_rfl) (fun _ _ _ h => h) (Or.inl ⟨by kernel_rfl, ?_⟩) (by assumption) ?_; rotate_left; focus (intro w hSw; (try dsimp only at hSw); go_simp; try with_reducible rfl); (try simp only [List.getElem_toArray, List.getElem_cons_succ, List.getElem_cons_zero, Act.put, List.setIfInBounds_toArray, List.set_cons_zero, List.set_cons_succ]))
              clear hHeld
              refine wpAnyH_done (by kernel_rfl) ?_ _
              go_wp2_with fail
              go_meet
              exact hcut
            · go_simp
              have bd := Below.ofNew (w := wB) (.cells #[.int .i64 0, .slice none 0 0] 35)
              have KS := Lib.hid (LwH.of HL.out.1 HL.out.2 (hHeld.2.2.2.2.2.trans (bd.mono hHeld.2.2.2.2.2.size)))
              have RAn := Lib.hid (RA.out.old bd); clear RA; have RA := RAn; clear RAn
              have K8 := Lib.hid (And.intro (ObAt.new wB 35 #[.int .i64 0, .slice none 0 0]) (hHeld.2.2.2.2.2.size))
              clear bd hHeld
              generalize wB.alloc (.cells #[.int .i64 0, .slice none 0 0] 35) = wZ at *
              first
                | refine hK.out _ _ KS.out (fun hHeld => ?_)
                | refine hK _ _ KS.out (fun hHeld => ?_)
              clear hK K KS
              (try simp only [List.getElem_toArray, List.getElem_cons_succ, List.getElem_cons_zero, Act.put, List.setIfInBounds_toArray, List.set_cons_zero, List.set_cons_succ])
              refine wpAnyH_ready (rs := [4]) (by kernel_rfl) (by simp) ?_; refine AllReadyH.cons rfl (fun K hK => ?_) AllReadyH.nil
              go_simp
              go_at_call 20
              refine (HI.out _ _ RA.out).mono ?_; rintro e wF ⟨a4, c4, rfl, own4, bd⟩
              have KS := Lib.hid (LwH.of HL.out.1 HL.out.2 (hHeld.2.2.2.2.2.trans (bd.mono hHeld.2.2.2.2.2.size)))
              have K8n := Lib.hid (And.intro (K8.out.1.keep bd) K8.out.2); clear K8; have K8 := K8n; clear K8n
              have K4 := Lib.hid (owns_mono own4 hHeld.2.2.2.2.2.size)
              clear own4 bd hHeld
              go_wp2_with fail
              first
                | refine hK.out _ _ KS.out (fun hHeld => ?_)
                | refine hK _ _ KS.out (fun hHeld => ?_)
              clear hK K KS
              (try simp only [List.getElem_toArray, List.getElem_cons_succ, List.getElem_cons_zero, Act.put, List.setIfInBounds_toArray, List.set_cons_zero, List.set_cons_succ])
              (refine wpAnyH_take (i := 5) (v := ?_) rfl (by kernel_rfl) (by kernel_rfl) (by kernel_rfl) (fun _ _ _ h => h) (Or.inl ⟨by kernel_rfl, ?_⟩) (by assumption) ?_; rotate_left; focus (intro w hSw; (try dsimp only at hSw); go_simp; try with_reducible rfl); (try simp only [List.getElem_toArray, List.getElem_cons_succ, List.getElem_cons_zero, Act.put, List.setIfInBounds_toArray, List.set_cons_zero, List.set_cons_succ])); (refine wpAnyH_take (i := 6) (v := ?_) rfl (by kernel_rfl) (by kernel_rfl) (by kernel_rfl) (fun _ _ _ h => h) (Or.inl ⟨by kernel_rfl, ?_⟩) (by assumption) ?_; rotate_left; focus (intro w hSw; (try dsimp only at hSw); go_simp; try with_reducible rfl); (try simp only [List.getElem_toArray, List.getElem_cons_succ, List.getElem_cons_zero, Act.put, List.setIfInBounds_toArray, List.set_cons_zero, List.set_cons_succ])); (refine wpAnyH_take (i := 7) (v := ?_) rfl (by kernel_rfl) (by kernel_rfl) (by kernel_rfl) (fun _ _ _ h => h) (Or.inl ⟨by kernel_rfl, ?_⟩) (by assumption) ?_; rotate_left; focus (intro w hSw; (try dsimp only at hSw); go_simp; try with_reducible rfl); (try simp only [List.getElem_toArray, List.getElem_cons_succ, List.getElem_cons_zero, Act.put, List.setIfInBounds_toArray, List.set_cons_zero, List.set_cons_succ]))
              have hcut := Lib.hid (CutF.mk (t' := t') (o := o) K8.out.1 K8.out.2 K4.out hHeld.2.2.2.2.2)
              obtain ⟨z0, z1, f0, f1⟩ := K8.out.1.two
              clear hHeld
              refine wpAnyH_ready (rs := [9]) (by kernel_rfl) (by simp) ?_; refine AllReadyH.cons rfl (fun K hK => ?_) AllReadyH.nil
              go_simp
              clear z0 z1 f0 f1
              have KS := Lib.hid (LwH.of HL.out.1 HL.out.2 hcut.out.below)
              first
                | refine hK.out _ _ KS.out (fun hHeld => ?_)
                | refine hK _ _ KS.out (fun hHeld => ?_)
              clear hK K KS
              (try simp only [List.getElem_toArray, List.getElem_cons_succ, List.getElem_cons_zero, Act.put, List.setIfInBounds_toArray, List.set_cons_zero, List.set_cons_succ])
              (refine wpAnyH_take (i := 10) (v := ?_) rfl (by kernel_rfl) (by kernel_rfl) (by kernel_rfl) (fun _ _ _ h => h) (Or.inl ⟨by kernel_rfl, ?_⟩) (by assumption) ?_; rotate_left; focus (intro w hSw; (try dsimp only at hSw); go_simp; try with_reducible rfl); (try simp only [List.getElem_toArray, List.getElem_cons_succ, List.getElem_cons_zero, Act.put, List.setIfInBounds_toArray, List.set_cons_zero, List.set_cons_succ]))
              clear hHeld
              refine wpAnyH_done (by kernel_rfl) ?_ _
              go_wp2_with fail
              go_meet
              exact hcut
          · go_simp
            have bd := Below.ofNew (w := wA) (.cells #[.int .i64 0, .slice none 0 0] 35)
            have KS := Lib.hid (LwH.of HL.out.1 HL.out.2 (hHeld.2.2.2.2.2.trans (bd.mono hHeld.2.2.2.2.2.size)))
            have RAn := Lib.hid (RA.out.old bd); clear RA; have RA := RAn; clear RAn
            have K8 := Lib.hid (And.intro (ObAt.new wA 35 #[.int .i64 0, .slice none 0 0]) (hHeld.2.2.2.2.2.size))
            clear bd hHeld
            generalize wA.alloc (.cells #[.int .i64 0, .slice none 0 0] 35) = wZ at *
            first
              | refine hK.out _ _ KS.out (fun hHeld => ?_)
              | refine hK _ _ KS.out (fun hHeld => ?_)
            clear hK K KS
            (try simp only [List.getElem_toArray, List.getElem_cons_succ, List.getElem_cons_zero, Act.put, List.setIfInBounds_toArray, List.set_cons_zero, List.set_cons_succ])
            refine wpAnyH_ready (rs := [3]) (by kernel_rfl) (by simp) ?_; refine AllReadyH.cons rfl (fun K hK => ?_) AllReadyH.nil
            go_simp
            go_at_call 8
            refine (toClue_any r0 r1 r2 _).mono ?_; rintro e wB ⟨rfl, bd⟩
            have KS := Lib.hid (LwH.of HL.out.1 HL.out.2 (hHeld.2.2.2.2.2.trans (bd.mono hHeld.2.2.2.2.2.size)))
            have K8n := Lib.hid (And.intro (K8.out.1.keep bd) K8.out.2); clear K8; have K8 := K8n; clear K8n
            have RAn := Lib.hid (RA.out.old bd); clear RA; have RA := RAn; clear RAn
            clear bd hHeld
            go_wp2_with fail
            first
              | refine hK.out _ _ KS.out (fun hHeld => ?_)
              | refine hK _ _ KS.out (fun hHeld => ?_)
            clear hK K KS
            (try simp only [List.getElem_toArray, List.getElem_cons_succ, List.getElem_cons_zero, Act.put, List.setIfInBounds_toArray, List.set_cons_zero, List.set_cons_succ])
            refine wpAnyH_ready (rs := [4]) (by kernel_rfl) (by simp) ?_; refine AllReadyH.cons rfl (fun K hK => ?_) AllReadyH.nil
            go_simp
            go_at_call 20
            refine (HI.out _ _ RA.out).mono ?_; rintro e wF ⟨a4, c4, rfl, own4, bd⟩
            have KS := Lib.hid (LwH.of HL.out.1 HL.out.2 (hHeld.2.2.2.2.2.trans (bd.mono hHeld.2.2.2.2.2.size)))
            have K8n := Lib.hid (And.intro (K8.out.1.keep bd) K8.out.2); clear K8; have K8 := K8n; clear K8n
            have K4 := Lib.hid (owns_mono own4 hHeld.2.2.2.2.2.size)
            clear own4 bd hHeld
            go_wp2_with fail
            first
              | refine hK.out _ _ KS.out (fun hHeld => ?_)
              | refine hK _ _ KS.out (fun hHeld => ?_)
            clear hK K KS
            (try simp only [List.getElem_toArray, List.getElem_cons_succ, List.getElem_cons_zero, Act.put, List.setIfInBounds_toArray, List.set_cons_zero, List.set_cons_succ])
            (refine wpAnyH_take (i := 5) (v := ?_) rfl (by kernel_rfl) (by kernel_rfl) (by kernel_rfl) (fun _ _ _ h => h) (Or.inl ⟨by kernel_rfl, ?_⟩) (by assumption) ?_; rotate_left; focus (intro w hSw; (try dsimp only at hSw); go_simp; try with_reducible rfl); (try simp only [List.getElem_toArray, List.getElem_cons_succ, List.getElem_cons_zero, Act.put, List.setIfInBounds_toArray, List.set_cons_zero, List.set_cons_succ])); (refine wpAnyH_take (i := 6) (v := ?_) rfl (by kernel_rfl) (by kernel_rfl) (by kernel_rfl) (fun _ _ _ h => h) (Or.inl ⟨by kernel_rfl, ?_⟩) (by assumption) ?_; rotate_left; focus (intro w hSw; (try dsimp only at hSw); go_simp; try with_reducible rfl); (try simp only [List.getElem_toArray, List.getElem_cons_succ, List.getElem_cons_zero, Act.put, List.setIfInBounds_toArray, List.set_cons_zero, List.set_cons_succ])); (refine wpAnyH_take (i := 7) (v := ?_) rfl (by kernel_rfl) (by kernel_rfl) (by kernel_rfl) (fun _ _ _ h => h) (Or.inl ⟨by kernel_rfl, ?_⟩) (by assumption) ?_; rotate_left; focus (intro w hSw; (try dsimp only at hSw); go_simp; try with_reducible rfl); (try simp only [List.getElem_toArray, List.getElem_cons_succ, List.getElem_cons_zero, Act.put, List.setIfInBounds_toArray, List.set_cons_zero, List.set_cons_succ]))
            have hcut := Lib.hid (CutF.mk (t' := t') (o := o) K8.out.1 K8.out.2 K4.out hHeld.2.2.2.2.2)
            obtain ⟨z0, z1, f0, f1⟩ := K8.out.1.two
            clear hHeld
            refine wpAnyH_ready (rs := [9]) (by kernel_rfl) (by simp) ?_; refine AllReadyH.cons rfl (fun K hK => ?_) AllReadyH.nil
            go_simp
            clear z0 z1 f0 f1
            have KS := Lib.hid (LwH.of HL.out.1 HL.out.2 hcut.out.below)
            first
              | refine hK.out _ _ KS.out (fun hHeld => ?_)
              | refine hK _ _ KS.out (fun hHeld => ?_)
            clear hK K KS
            (try simp only [List.getElem_toArray, List.getElem_cons_succ, List.getElem_cons_zero, Act.put, List.setIfInBounds_toArray, List.set_cons_zero, List.set_cons_succ])
            (refine wpAnyH_take (i := 10) (v := ?_) rfl (by kernel_rfl) (by kernel_rfl) (by kernel_rfl) (fun _ _ _ h => h) (Or.inl ⟨by kernel_rfl, ?_⟩) (by assumption) ?_; rotate_left; focus (intro w hSw; (try dsimp only at hSw); go_simp; try with_reducible rfl); (try simp only [List.getElem_toArray, List.getElem_cons_succ, List.getElem_cons_zero, Act.put, List.setIfInBounds_toArray, List.set_cons_zero, List.set_cons_succ]))
            clear hHeld
            refine wpAnyH_done (by kernel_rfl) ?_ _
            go_wp2_with fail
            go_meet
            exact hcut
        · go_simp
          have bd := Below.ofNew (w := X0) (.cells #[.int .i64 0, .slice none 0 0] 35)
          have KS := Lib.hid (LwH.of HL.out.1 HL.out.2 (hHeld.2.2.2.2.2.trans (bd.mono hHeld.2.2.2.2.2.size)))
          have K8 := Lib.hid (And.intro (ObAt.new X0 35 #[.int .i64 0, .slice none 0 0]) (hHeld.2.2.2.2.2.size))
          clear bd hHeld
          generalize X0.alloc (.cells #[.int .i64 0, .slice none 0 0] 35) = wZ at *
          first
            | refine hK.out _ _ KS.out (fun hHeld => ?_)
            | refine hK _ _ KS.out (fun hHeld => ?_)
          clear hK K KS
          (try simp only [List.getElem_toArray, List.getElem_cons_succ, List.getElem_cons_zero, Act.put, List.setIfInBounds_toArray, List.set_cons_zero, List.set_cons_succ])
          refine wpAnyH_ready (rs := [1]) (by kernel_rfl) (by simp) ?_; refine AllReadyH.cons rfl (fun K hK => ?_) AllReadyH.nil
          go_simp
          go_at_call 12
          refine (HTL.out _ hHeld.2.2.2.2.2).mono ?_; rintro e wA ⟨gA, rfl, -, rA, bd⟩
          have KS := Lib.hid (LwH.of HL.out.1 HL.out.2 (hHeld.2.2.2.2.2.trans (bd.mono hHeld.2.2.2.2.2.size)))
          have K8n := Lib.hid (And.intro (K8.out.1.keep bd) K8.out.2); clear K8; have K8 := K8n; clear K8n
          have RA := Lib.hid rA.reads
          clear rA bd hHeld
          go_wp2_with fail
          first
            | refine hK.out _ _ KS.out (fun hHeld => ?_)
            | refine hK _ _ KS.out (fun hHeld => ?_)
          clear hK K KS
          (try simp only [List.getElem_toArray, List.getElem_cons_succ, List.getElem_cons_zero, Act.put, List.setIfInBounds_toArray, List.set_cons_zero, List.set_cons_succ])
          refine wpAnyH_ready (rs := [3]) (by kernel_rfl) (by simp) ?_; refine AllReadyH.cons rfl (fun K hK => ?_) AllReadyH.nil
          go_simp
          go_at_call 8
          refine (toClue_any r0 r1 r2 _).mono ?_; rintro e wB ⟨rfl, bd⟩
          have KS := Lib.hid (LwH.of HL.out.1 HL.out.2 (hHeld.2.2.2.2.2.trans (bd.mono hHeld.2.2.2.2.2.size)))
          have K8n := Lib.hid (And.intro (K8.out.1.keep bd) K8.out.2); clear K8; have K8 := K8n; clear K8n
          have RAn := Lib.hid (RA.out.old bd); clear RA; have RA := RAn; clear RAn
          clear bd hHeld
          go_wp2_with fail
          first
            | refine hK.out _ _ KS.out (fun hHeld => ?_)
            | refine hK _ _ KS.out (fun hHeld => ?_)
          clear hK K KS
          (try simp only [List.getElem_toArray, List.getElem_cons_succ, List.getElem_cons_zero, Act.put, List.setIfInBounds_toArray, List.set_cons_zero, List.set_cons_succ])
          refine wpAnyH_ready (rs := [4]) (by kernel_rfl) (by simp) ?_; refine AllReadyH.cons rfl (fun K hK => ?_) AllReadyH.nil
          go_simp
          go_at_call 20
          refine (HI.out _ _ RA.out).mono ?_; rintro e wF ⟨a4, c4, rfl, own4, bd⟩
          have KS := Lib.hid (LwH.of HL.out.1 HL.out.2 (hHeld.2.2.2.2.2.trans (bd.mono hHeld.2.2.2.2.2.size)))
          have K8n := Lib.hid (And.intro (K8.out.1.keep bd) K8.out.2); clear K8; have K8 := K8n; clear K8n
          have K4 := Lib.hid (owns_mono own4 hHeld.2.2.2.2.2.size)
          clear own4 bd hHeld
          go_wp2_with fail
          first
            | refine hK.out _ _ KS.out (fun hHeld => ?_)
            | refine hK _ _ KS.out (fun hHeld => ?_)
          clear hK K KS
          (try simp only [List.getElem_toArray, List.getElem_cons_succ, List.getElem_cons_zero, Act.put, List.setIfInBounds_toArray, List.set_cons_zero, List.set_cons_succ])
          (refine wpAnyH_take (i := 5) (v := ?_) rfl (by kernel_rfl) (by kernel_rfl) (by kernel_rfl) (fun _ _ _ h => h) (Or.inl ⟨by kernel_rfl, ?_⟩) (by assumption) ?_; rotate_left; focus (intro w hSw; (try dsimp only at hSw); go_simp; try with_reducible rfl); (try simp only [List.getElem_toArray, List.getElem_cons_succ, List.getElem_cons_zero, Act.put, List.setIfInBounds_toArray, List.set_cons_zero, List.set_cons_succ])); (refine wpAnyH_take (i := 6) (v := ?_) rfl (by kernel_rfl) (by kernel_rfl) (by kernel_rfl) (fun _ _ _ h => h) (Or.inl ⟨by kernel_rfl, ?_⟩) (by assumption) ?_; rotate_left; focus (intro w hSw; (try dsimp only at hSw); go_simp; try with_reducible rfl); (try simp only [List.getElem_toArray, List.getElem_cons_succ, List.getElem_cons_zero, Act.put, List.setIfInBounds_toArray, List.set_cons_zero, List.set_cons_succ])); (refine wpAnyH_take (i := 7) (v := ?_) rfl (by kernel_rfl) (by kernel_rfl) (by kernel_rfl) (fun _ _ _ h => h) (Or.inl ⟨by kernel_rfl, ?_⟩) (by assumption) ?_; rotate_left; focus (intro w hSw; (try dsimp only at hSw); go_simp; try with_reducible rfl); (try simp only [List.getElem_toArray, List.getElem_cons_succ, List.getElem_cons_zero, Act.put, List.setIfInBounds_toArray, List.set_cons_zero, List.set_cons_succ]))
          have hcut := Lib.hid (CutF.mk (t' := t') (o := o) K8.out.1 K8.out.2 K4.out hHeld.2.2.2.2.2)
          obtain ⟨z0, z1, f0, f1⟩ := K8.out.1.two
          clear hHeld
          refine wpAnyH_ready (rs := [9]) (by kernel_rfl) (by simp) ?_; refine AllReadyH.cons rfl (fun K hK => ?_) AllReadyH.nil
          go_simp
          clear z0 z1 f0 f1
          have KS := Lib.hid (LwH.of HL.out.1 HL.out.2 hcut.out.below)
          first
            | refine hK.out _ _ KS.out (fun hHeld => ?_)
            | refine hK _ _ KS.out (fun hHeld => ?_)
          clear hK K KS
          (try simp only [List.getElem_toArray, List.getElem_cons_succ, List.getElem_cons_zero, Act.put, List.setIfInBounds_toArray, List.set_cons_zero, List.set_cons_succ])
          (refine wpAnyH_take (i := 10) (v := ?_) rfl (by kernel_rfl) (by kernel_rfl) (by kernel_rfl) (fun _ _ _ h => h) (Or.inl ⟨by kernel_rfl, ?_⟩) (by assumption) ?_; rotate_left; focus (intro w hSw; (try dsimp only at hSw); go_simp; try with_reducible rfl); (try simp only [List.getElem_toArray, List.getElem_cons_succ, List.getElem_cons_zero, Act.put, List.setIfInBounds_toArray, List.set_cons_zero, List.set_cons_succ]))
          clear hHeld
          refine wpAnyH_done (by kernel_rfl) ?_ _
          go_wp2_with fail
          go_meet
          exact hcut
      case rest =>
        obtain ⟨g14, a13, c13, rfl, rfl, hg14, hO14, o13, hb14⟩ := hcut.out
        clear hcut
        obtain ⟨x13, y13, ev, r13, -, -, -⟩ := Reads.own o13
        injection ev with ev1 ev2 ev3
        subst ev1 ev3
        clear ev2
        have Z13 := Lib.hid (And.intro r13 (And.intro (Z11.out.1.keep hb14) (And.intro (Z11.out.2.1.keep hb14) hO14)))
        clear r13 hO14 hg14 o13 hb14 Z11
        obtain ⟨b0, b1, b3, b4⟩ := Z13.out.2.2.1.full
        obtain ⟨q0, q2, -, -⟩ := Z13.out.2.2.2.two
        go_wp2_with fail
        refine (eq_sameL t' m _ _ _ _ _ (by omega) Z13.out.1 Z13.out.2.1.2.1).mono ?_; rintro e w14 ⟨rfl, b14⟩
        have Z14 := Lib.hid (And.intro (Z13.out.2.1.keep b14) (Z13.out.2.2.1.keep b14)); clear b14 Z13 b0 b1 b3 b4 q0 q2
        obtain ⟨b0, b1, b3, b4⟩ := Z14.out.2.full
        go_wp2_with fail
        refine (heldPuzzle_any t' m.length _ _ 1 _ (by omega) (by omega) (by omega) Z14.out.1.2.2).mono ?_; rintro e w15 ⟨rfl, b15⟩
        have Z15 := Lib.hid (Z14.out.1.1.2.2.trans (b15.mono Z14.out.1.1.2.2.size)); clear b15 Z14
        go_wp2_with fail
        go_ret
        exact ⟨rfl, Z15.out⟩

theorem walk (t : Int) (a : Option Addr) (n c : Nat) (l : List Cl) (r0 r1 r2 : Int) (w : World) (wf : (l.length = n ∧ Reads w a (clus l)) ∧ (n : Int) ≤ 9223372036854775807) :
    Calls Try.prog 6 #[.agg #[.int .i64 t, .slice a n c], .agg #[.int .i64 r0, .int .i64 r1, .int .i64 r2]] w fun e w' => e = .returned (.bool true) ∧ Below w.heap.size w w' := by
  obtain ⟨⟨rfl, hr⟩, hn⟩ := wf
  by_cases hl : (1048576 : Int) < (l.length : Int)
  · exact law_long t a _ c r0 r1 r2 w hl hn
  · have hl' : (l.length : Int) ≤ 1048576 := by omega
    exact law_of t a c l r0 r1 r2 (if okA t l (r0, r1, r2) then t else 0) (if okA t l (r0, r1, r2) then l ++ [(r0, r1, r2)] else []) (okA t l (r0, r1, r2)) (by
      by_cases h : okA t l (r0, r1, r2) = true
      · rw [if_pos h]
        simp only [okA, Bool.and_eq_true] at h
        have := (goodP_bd h.1).2.1
        simp; omega
      · rw [if_neg h]; simp) (fun g w h => specAddClue_any t l _ _ r0 r1 r2 w (by omega) (Nat.le_refl _) h (by simp)) (fun g w h => implAddClue_any t l _ _ r0 r1 r2 w (by omega) (Nat.le_refl _) h) w hl' hr
end Go.Proofs.Ytbbojebonknklaa.ExAddClue
