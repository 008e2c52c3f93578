/-
  Pins: the program's first game.
-/
import Derived.Test.YthbkclgdoopbpaaPtFf
namespace Go.Proofs.Ythbkclgdoopbpaa
open Go.RowKit Go.Maps
set_option linter.unusedVariables false
set_option linter.unusedSimpArgs false

/-- The game, frame by frame. -/
def gmF : Nat → Nat → Nat → Option (List Nat)
  | 0, _, _ => some []
  | m + 1, s, p => match ffO m s p with
    | none => none
    | some f => (gmF m (bhF s f) (p - ptsF s f)).map (f ++ ·)
def totB : Nat → Nat
  | 0 => 0
  | m + 1 => newB (m + 1) + totB m
theorem totB_10 {m : Nat} (h : m ≤ 10) : totB m ≤ 9000000000000000000 := by
  have e0 : (frs 0).length = 241 := frL_len
  have e : ∀ m, (frs (m + 1)).length = 66 := fun m => frN_len
  have hm : ∀ k, totB m ≤ totB (m + k) := by
    intro k
    induction k with
    | zero => exact Nat.le_refl _
    | succ k ih => exact Nat.le_trans ih (by show totB (m + k) ≤ newB (m + k + 1) + totB (m + k); omega)
  have h3 := hm (10 - m)
  rw [show m + (10 - m) = 10 by omega] at h3
  refine Nat.le_trans h3 ?_
  simp [totB, newB, e0, e]
theorem book_map {w : World} {b n : Nat} (h : BookAt w b n) : ∃ es clock, w.heap[b]? = some (.map es clock) := by
  obtain ⟨D, ⟨es, clock, hb, -⟩, -⟩ := h
  exact ⟨es, clock, hb⟩
theorem owns_book {w w' : World} {b n base T k size : Nat} {v : Value} {xs : List Value} (hb : BookAt w b n) (ho : w.ownsRow base T size v k xs) (hg : w.grownBy w' (some b)) : w'.ownsRow base T size v k xs := by
  obtain ⟨es, clock, hm⟩ := book_map hb
  obtain ⟨h1, h2 | ⟨g, cap, cur, hv, hg0, hh, r⟩⟩ := ho
  · exact ⟨h1, .inl h2⟩
  · refine ⟨h1, .inr ⟨g, cap, cur, hv, hg0, ?_, r⟩⟩
    rw [hg.block g (Array.getElem?_eq_some_iff.1 hh).1 (fun e => by cases e; rw [hm] at hh; cases hh)]; exact hh
theorem ob_book {w w' : World} {b n g : Nat} {T : TypeId} {cs : Array Value} (hb : BookAt w b n) (ho : ObAt w g T cs) (hg : w.grownBy w' (some b)) : ObAt w' g T cs := by
  obtain ⟨es, clock, hm⟩ := book_map hb
  refine ho.block hg (fun e => ?_)
  subst e
  unfold ObAt at ho; rw [hm] at ho; cases ho
theorem book_apart {w : World} {b n base T k size : Nat} {v : Value} {xs : List Value} (hb : BookAt w b n) (ho : w.ownsRow base T size v k xs) : v.ownBlock ≠ some b := by
  obtain ⟨es, clock, hm⟩ := book_map hb
  obtain ⟨-, ⟨rfl, -⟩ | ⟨g, cap, cur, rfl, hg0, hh, r⟩⟩ := ho
  · simp [Value.ownBlock]
  · intro e
    simp [Value.ownBlock] at e
    subst e
    rw [hm] at hh; cases hh

/-- The game under way. -/
structure FgW (w : World) (F t b g8 m s p : Nat) (L : List Nat) (v : Value) (wr : World) : Prop where
  own : wr.ownsRow w.heap.size 3 1 v L.length (ints (bsI L))
  left : ObAt wr g8 62 #[.int .i64 m, .int .i64 (oneT s), .int .i64 (twoT s), .int .i64 1]
  g80 : w.heap.size ≤ g8
  book : ∃ nn, BookAt wr b nn ∧ nn + totB m ≤ 9000000000000000000
  b0 : w.heap.size ≤ b
  below : Below w.heap.size w wr
  plan : (gmF m s p).map (L ++ ·) = gmF F 0 t
  len : L.length + 3 * m ≤ 30
/-- What is handed back. -/
def RowQ (L : List Int) (o : Bool) (w : World) (e : Ending) (w' : World) : Prop :=
  ∃ v, e = .returned (.tuple #[v, .bool o]) ∧ w'.ownsRow w.heap.size 3 1 v L.length (ints L) ∧ Below w.heap.size w w'
def fgB (f t : Int) : Bool := gmB f t && (gmF f.toNat 0 t.toNat).isSome
def fgL (f t : Int) : List Int := if fgB f t then bsI ((gmF f.toNat 0 t.toNat).getD []) else []
theorem fgL_no {f t : Int} (h : fgB f t = false) : fgL f t = [] := by unfold fgL; rw [h]; rfl
theorem owns_nilT (w : World) (B : Nat) : w.ownsRow B 3 1 (.slice none 0 0) ([] : List Int).length (ints []) := ⟨rfl, .inl ⟨rfl, rfl⟩⟩
theorem RowQ.no {w w' : World} (hb : Below w.heap.size w w') : RowQ [] false w (.returned (.tuple #[.slice none 0 0, .bool false])) w' := ⟨_, rfl, owns_nilT _ _, hb⟩
theorem ff_mem {m s p : Nat} {f : List Nat} (h : ffO m s p = some f) : f ∈ frs m ∧ ptsF s f ≤ p ∧ 0 < tl m (bhF s f) (p - ptsF s f) := by
  have h1 := List.mem_of_find?_eq_some h
  have h2 := List.find?_some h
  simp only [okFf, Bool.and_eq_true, decide_eq_true_eq] at h2
  exact ⟨h1, h2⟩
theorem frs_small {m : Nat} {f : List Nat} (h : f ∈ frs m) : f.length ≤ 3 := by
  rcases shape_cases (frs_shape h) with rfl | ⟨a, b, rfl, -⟩ | ⟨a, b, c, rfl, -⟩ <;> simp
theorem bsI_app (L M : List Nat) : bsI (L ++ M) = bsI L ++ bsI M := by simp [bsI]

/-- The same without the plan: the walk's worlds between two rounds. -/
structure FgC (w : World) (b g8 n : Nat) (cs : Array Value) (L : List Nat) (v : Value) (wr : World) : Prop where
  own : wr.ownsRow w.heap.size 3 1 v L.length (ints (bsI L))
  left : ObAt wr g8 62 cs
  book : BookAt wr b n
  below : Below w.heap.size w wr
theorem owns_kept {B : Nat} {e : TypeId} {k : Nat} {v : Value} {n : Nat} {xs : List Value} {w w' : World} (h : w.ownsRow B e k v n xs) (hb : ∀ g, v.ownBlock = some g → w'.heap[g]? = w.heap[g]?) : w'.ownsRow B e k v n xs := by
  obtain ⟨h1, h2⟩ := h
  refine ⟨h1, ?_⟩
  rcases h2 with h2 | ⟨g, cap, cur, hv, hg, hh, r⟩
  · exact Or.inl h2
  · exact Or.inr ⟨g, cap, cur, hv, hg, by rw [hb g (by rw [hv]; simp [Value.ownBlock])]; exact hh, r⟩
theorem owns_in {B : Nat} {e : TypeId} {k : Nat} {v : Value} {n : Nat} {xs : List Value} {w : World} (h : w.ownsRow B e k v n xs) {g : Nat} (hg : v.ownBlock = some g) : B ≤ g ∧ g < w.heap.size := by
  obtain ⟨-, ⟨rfl, -⟩ | ⟨g', cap, cur, rfl, hb, hh, r⟩⟩ := h
  · simp [Value.ownBlock] at hg
  · simp [Value.ownBlock] at hg
    subst hg
    exact ⟨hb, (Array.getElem?_eq_some_iff.1 hh).1⟩
theorem owns_typed {w : World} {g T T' base n size : Nat} {v : Value} {xs : List Value} {cs : Array Value} {fr : Nat × Nat} (h : w.heap[g]? = some (.cells cs T fr)) (hT : T ≠ T') (ho : w.ownsRow base T' size v n xs) : v.ownBlock ≠ some g := by
  obtain ⟨_, ⟨rfl, _⟩ | ⟨g', cap, cur, rfl, _, hh, _⟩⟩ := ho
  · simp [Value.ownBlock]
  · intro e
    simp [Value.ownBlock] at e
    subst e
    rw [hh] at h
    injection h with h
    injection h with h1 h2 h3
    exact hT h2.symm
theorem FgC.keep {w : World} {b g8 n : Nat} {cs : Array Value} {L : List Nat} {v : Value} {wr w' : World} (h : FgC w b g8 n cs L v wr) (hb : Below wr.heap.size wr w') : FgC w b g8 n cs L v w' :=
  ⟨owns_kept h.own (fun g hg => hb.block g (owns_in h.own hg).2), h.left.keep hb, h.book.same (hb.block b h.book.lt), h.below.trans (hb.mono h.below.size)⟩
theorem FgC.asked {w : World} {b g8 n n' : Nat} {cs : Array Value} {L : List Nat} {v : Value} {wr w' : World} (h : FgC w b g8 n cs L v wr) (hb0 : w.heap.size ≤ b) (hg : wr.grownBy w' (some b)) (hb : BookAt w' b n') : FgC w b g8 n' cs L v w' :=
  ⟨owns_book h.book h.own hg, ob_book h.book h.left hg, hb, h.below.grown hg h.below.size (by rintro k hk; cases hk; exact hb0)⟩
theorem FgC.app {w : World} {b g8 n : Nat} {cs : Array Value} {L f : List Nat} {v v' : Value} {wr w' : World} (h : FgC w b g8 n cs L v wr) (ho : w'.ownsRow w.heap.size 3 1 v' (L.length + (bsI f).length) (ints (bsI L) ++ ints (bsI f))) (hg : wr.grownBy w' v.ownBlock) : FgC w b g8 n cs (L ++ f) v' w' := by
  refine ⟨?_, ?_, h.book.same (hg.block b h.book.lt (fun e => book_apart h.book h.own e.symm)), h.below.grown hg h.below.size (fun k hk => (owns_in h.own hk).1)⟩
  · rw [List.length_append, bsI_app, show ints (bsI L ++ bsI f) = ints (bsI L) ++ ints (bsI f) by simp [ints]]
    rw [bsI_len] at ho; exact ho
  · have := h.left
    unfold ObAt at this ⊢
    rw [hg.block g8 (Array.getElem?_eq_some_iff.1 this).1 (fun e => owns_typed this (by decide) h.own e.symm)]; exact this
theorem ob_app {w : World} {g : Nat} {cs : Array Value} {B n size : Nat} {v : Value} {xs : List Value} {w' : World} (h : ObAt w g 69 cs) (ho : w.ownsRow B 3 size v n xs) (hg : w.grownBy w' v.ownBlock) : ObAt w' g 69 cs := by
  unfold ObAt at h ⊢
  rw [hg.block g (Array.getElem?_eq_some_iff.1 h).1 (fun e => owns_typed h (by decide) ho e.symm)]; exact h
theorem heap_put4 (wr : World) (g : Nat) (x0 x1 x2 x3 : Value) {k : Nat} (hk : k ≠ g) : ((((wr.setCell ⟨g, 0, none⟩ x0).setCell ⟨g, 1, none⟩ x1).setCell ⟨g, 2, none⟩ x2).setCell ⟨g, 3, none⟩ x3).heap[k]? = wr.heap[k]? := by
  rw [heap_setCell_other _ _ k _ (by simp only; omega), heap_setCell_other _ _ k _ (by simp only; omega), heap_setCell_other _ _ k _ (by simp only; omega), heap_setCell_other _ _ k _ (by simp only; omega)]
theorem FgC.put4 {w : World} {b g8 n : Nat} {a0 a1 a2 a3 : Value} {L : List Nat} {v : Value} {wr : World} (h : FgC w b g8 n #[a0, a1, a2, a3] L v wr) (hg : w.heap.size ≤ g8) (x0 x1 x2 x3 : Value) :
    FgC w b g8 n #[x0, x1, x2, x3] L v ((((wr.setCell ⟨g8, 0, none⟩ x0).setCell ⟨g8, 1, none⟩ x1).setCell ⟨g8, 2, none⟩ x2).setCell ⟨g8, 3, none⟩ x3) := by
  obtain ⟨h1, h2, h3, h4⟩ := h
  refine ⟨owns_kept h1 (fun g e => heap_put4 _ _ _ _ _ _ (fun q => ?_)), ?_, h3.same (heap_put4 _ _ _ _ _ _ (fun q => ?_)), (((h4.setCell (p := ⟨g8, 0, none⟩) hg _).setCell (p := ⟨g8, 1, none⟩) hg _).setCell (p := ⟨g8, 2, none⟩) hg _).setCell (p := ⟨g8, 3, none⟩) hg _⟩
  · subst q; exact owns_typed h2 (by decide) h1 e
  · have := (((h2.put 0 x0).put 1 x1).put 2 x2).put 3 x3
    exact this
  · obtain ⟨es, clock, hm⟩ := book_map h3
    subst q
    unfold ObAt at h2; rw [hm] at h2; cases h2
/-- The number of frames that are left, off the box. -/
def msF (g : Value) (wr : World) : Nat := match g with
  | .pointer (some a) => (match wr.cell? a with
    | some (.int _ x) => x.toNat
    | _ => 0)
  | _ => 0
theorem msF_at {wr : World} {g m : Nat} {x y z : Value} (h : ObAt wr g 62 #[.int .i64 (m : Int), x, y, z]) : msF (.pointer (some ⟨g, 0, none⟩)) wr = m := by
  unfold msF
  obtain ⟨c0, -⟩ := h.four
  simp only [c0]; simp

set_option maxRecDepth 100000 in
set_option maxHeartbeats 12800000 in
theorem implFirstGame_loop (F t : Nat) (hF1 : 1 ≤ F) (hF2 : F ≤ 10) (ht : t ≤ 300) (w : World) :
    Calls Try.prog 12 #[.int .i64 F, .int .i64 t] w (RowQ (bsI ((gmF F 0 t).getD [])) (gmF F 0 t).isSome w) := by
  obtain ⟨i1, j1, jz0, jz1, jz2⟩ := info_parts infoIntT
  have HJ := Lib.hid (And.intro j1 (And.intro jz0 (And.intro jz1 jz2))); clear j1 jz0 jz1 jz2
  have HF := Lib.hid (fun W => fcIn_yes F hF1 hF2 W)
  have HT := Lib.hid (fun W => totIn_any t W)
  rw [show inQ (t : Int) 0 300 = true by simp [inQ]; omega] at HT
  have HWG := Lib.hid (fun W => wholeGame_any (F : Int) W)
  have HFF := Lib.hid (fun m s p hm hs hp b n W hb hn => firstFrame_any m s p hm hs hp b n W hb hn)
  have hmm := @run_makeMap Try.prog
  go_enter Try.func12, Try.ntmps12
  go_wp2_with fail
  refine (HF.out _).mono ?_; rintro e w1 ⟨rfl, rfl⟩
  go_wp2_with fail
  refine (HT.out _).mono ?_; rintro e w1 ⟨rfl, rfl⟩
  go_wp2_with fail
  refine (HWG.out _).mono ?_; rintro e w2 ⟨rfl, b2⟩
  have H2 : Hid (FgW w F t w.heap.size w2.heap.size F 0 t [] (.slice none 0 0) (w2.alloc (.cells #[.int .i64 F, .int .i64 1, .int .i64 1, .int .i64 1] 62))) := by
    have hb1 : Below w.heap.size w w2 := (Below.ofNew (w := w) (.map #[] 0)).trans (b2.mono (by simp))
    have hbk : BookAt w2 w.heap.size 0 := by
      refine BookAt.same (w := w.alloc (.map #[] 0)) ⟨_, World.ownsMap_made w Try.prog 62 heldR, BookD.nil⟩ (b2.block _ (by simp))
    refine Lib.hid ⟨owns_nilT _ _, ObAt.new w2 _ _, hb1.size, ⟨0, hbk.same (Below.heap_alloc _ _ _ hbk.lt), by have := totB_10 hF2; omega⟩, Nat.le_refl _, hb1.alloc hb1.size _, by cases gmF F 0 t <;> simp, by simp; omega⟩
  clear b2 hmm
  go_upto_region 6 with fail
  generalize (w2.alloc (.cells #[.int .i64 F, .int .i64 1, .int .i64 1, .int .i64 1] 62)) = W0 at *
  generalize w2.heap.size = g0 at *
  go_loopw [1, 7, 8] (fun pv v gv wr => ∃ m s p g8 : Nat, ∃ L : List Nat, pv = .int .i64 (p : Int) ∧ gv = .pointer (some ⟨g8, 0, none⟩) ∧ m ≤ F ∧ s ≤ 3 ∧ (m ≤ 9 ∨ s = 0) ∧ p ≤ 300 ∧ Hid (FgW w F t w.heap.size g8 m s p L v wr)) (fun _ _ gv wr => msF gv wr)
  case atStart => exact ⟨F, 0, t, g0, [], rfl, rfl, Nat.le_refl _, by omega, .inr rfl, ht, H2⟩
  case round =>
    clear H2 HF HT HWG
    obtain ⟨m, s, p, g8, L, rfl, rfl, hm, hs, hms, hp, hH⟩ := hrel
    obtain ⟨c0, c1, c2, c3, -, -, -, -⟩ := hH.out.left.four
    cases m with
    | zero =>
      have hpl := hH.out.plan
      have hres : gmF F 0 t = some L := by rw [← hpl]; simp [gmF]
      have HE := Lib.hid (And.intro hH.out.own (And.intro hH.out.below hres)); clear hH hpl hres
      rw [show (((0 : Nat) : Int)) = 0 from rfl] at c0
      go_wp2_with fail
      refine bodyPost_ret (v := .tuple #[u7, .bool true]) (by simp [results, Try.results12, go_sem]) rfl (by rw [HE.out.2.2]; exact ⟨_, rfl, by have h := HE.out.1; rw [← bsI_len] at h; exact h, HE.out.2.1⟩)
    | succ m =>
      have b1 : (0 : Int) < ((m + 1 : Nat) : Int) := by omega
      have hms0 := msF_at hH.out.left
      obtain ⟨nn, hbk, hnn⟩ := hH.out.book
      have hnb : nn + (frs m).length * newB m + totB m ≤ 9000000000000000000 := by
        have e1 : totB (m + 1) = newB (m + 1) + totB m := rfl
        have e2 : newB (m + 1) = 1 + (frs m).length * newB m := rfl
        omega
      have hff := HFF.out m s p (by omega) hs hp w.heap.size nn wr hbk (by omega)
      have HC0 : Hid (FgC w w.heap.size g8 nn #[.int .i64 ((m + 1 : Nat) : Int), .int .i64 (oneT s : Int), .int .i64 (twoT s : Int), .int .i64 1] L u7 wr) := Lib.hid ⟨hH.out.own, hH.out.left, hbk, hH.out.below⟩
      have HMS := Lib.hid hms0
      have HPLAN := Lib.hid (And.intro hH.out.plan (And.intro hH.out.len (And.intro hnb hH.out.g80)))
      clear hbk hnn hnb hms0 hH
      rw [show lfV (m + 1) s = .agg #[.int .i64 ((m + 1 : Nat) : Int), .int .i64 (oneT s : Int), .int .i64 (twoT s : Int), .int .i64 1] from rfl] at hff
      have HFFC := Lib.hid hff; clear hff
      cases hfo : ffO m s p with
      | none =>
        have hres : gmF F 0 t = none := by rw [← HPLAN.out.1]; simp [gmF, hfo]
        have HRES := Lib.hid hres
        have HFO := Lib.hid hfo; clear hfo hres
        generalize ((m + 1 : Nat) : Int) = M at *
        generalize (oneT s : Int) = o1 at *
        generalize (twoT s : Int) = o2 at *
        go_wp2_with fail
        refine HFFC.out.mono ?_; rintro e w3 ⟨he, hb3, hg3⟩
        rw [HFO.out] at he
        have he2 : e = .returned (.tuple #[.agg #[.int .i64 0, .int .i64 0, .int .i64 0], .bool false]) := he
        clear he
        subst he2
        have H3 := Lib.hid (HC0.out.asked (Nat.le_refl _) hg3 hb3); clear hb3 hg3 HC0
        clear c0 c1 c2 c3
        go_wp2_with fail
        refine bodyPost_ret (v := .tuple #[.slice none 0 0, .bool false]) (by simp [results, Try.results12, go_sem]) rfl (by rw [HRES.out]; exact RowQ.no (H3.out.below.alloc H3.out.below.size _))
      | some f =>
        obtain ⟨hfm, hle, hpos⟩ := ff_mem hfo
        have hsh := frs_shape hfm
        have hsm := shape_small hsh
        have hfl := frs_small hfm
        have hpl : (gmF m (bhF s f) (p - ptsF s f)).map ((L ++ f) ++ ·) = gmF F 0 t := by
          rw [← HPLAN.out.1]
          simp only [gmF, hfo]
          cases gmF m (bhF s f) (p - ptsF s f) <;> simp
        have hpt := fun W => points_any f s hsh W
        have hbh := fun W => behind_any m s (by omega) f hsh W
        have hba := fun W => balls_any (bsI f) hsm W
        have HFV : Hid (frV (bsI f) = .agg #[.int .i64 ((bsI f).getD 0 (-1)), .int .i64 ((bsI f).getD 1 (-1)), .int .i64 ((bsI f).getD 2 (-1))]) := Lib.hid rfl
        rw [show frV (bsI f) = .agg #[.int .i64 ((bsI f).getD 0 (-1)), .int .i64 ((bsI f).getD 1 (-1)), .int .i64 ((bsI f).getD 2 (-1))] from rfl] at hpt hbh hba
        rw [show lfV (m + 1) s = .agg #[.int .i64 ((m + 1 : Nat) : Int), .int .i64 (oneT s : Int), .int .i64 (twoT s : Int), .int .i64 1] from rfl] at hbh
        generalize (bsI f).getD 0 (-1) = x at *
        generalize (bsI f).getD 1 (-1) = y at *
        generalize (bsI f).getD 2 (-1) = z at *
        have HPT := Lib.hid hpt
        have HBH := Lib.hid hbh
        have HBA := Lib.hid hba
        have HFO := Lib.hid (And.intro hfo (And.intro hpl hfl)); clear hfo hpl hpt hbh hba hfm hpos hsh hsm
        obtain ⟨P, hP⟩ : ∃ P, P = ptsF s f := ⟨_, rfl⟩
        obtain ⟨q, hq⟩ : ∃ q, q = p - ptsF s f := ⟨_, rfl⟩
        have ew : IntKind.i64.wrap ((p : Int) - (P : Int)) = (q : Int) := by rw [IntKind.wrap_i64]; omega
        have hq300 : q ≤ 300 := by omega
        have HQ := Lib.hid hq; clear hq hle
        rw [← hP] at HPT
        clear hP
        generalize ((m + 1 : Nat) : Int) = M at *
        generalize (oneT s : Int) = o1 at *
        generalize (twoT s : Int) = o2 at *
        go_wp2_with fail
        refine HFFC.out.mono ?_; rintro e w3 ⟨he, hb3, hg3⟩
        rw [HFO.out.1] at he
        have he2 : e = .returned (.tuple #[frV (bsI f), .bool true]) := he
        rw [HFV.out] at he2
        clear he
        subst he2
        have h3 := HC0.out.asked (Nat.le_refl _) hg3 hb3
        have H3 := Lib.hid (And.intro (h3.keep (below_newT w3 (.cells #[.int .i64 x, .int .i64 y, .int .i64 z] 69))) (ObAt.new w3 69 #[.int .i64 x, .int .i64 y, .int .i64 z])); clear hb3 hg3 HC0 h3
        clear c0 c1 c2 c3
        go_upto_region 10 with fail
        generalize (w3.alloc (.cells #[.int .i64 x, .int .i64 y, .int .i64 z] 69)) = W3 at *
        generalize w3.heap.size = g9 at *
        obtain ⟨d0, d1, d2, -, -, -⟩ := H3.out.2.three
        go_wp2_with fail
        refine (HBA.out _).mono ?_; rintro e w4 ⟨rfl, hp4, b4⟩
        have H4 := Lib.hid (And.intro (H3.out.1.keep b4) (And.intro (H3.out.2.keep b4) hp4)); clear b4 hp4 H3 d0 d1 d2
        have hbs := H4.out.1.below.size
        have hlen : L.length ≤ 30 := by have := HPLAN.out.2.1; omega
        have hfl := HFO.out.2.2
        generalize W3.heap.size = g4 at *
        go_wp2_with (at_builtin; refine wpList_append_own_at _ rfl _ _ 25 rfl w.heap.size 3 i1 (.int .i64 0) 1 8 Try.underlying25 HJ.out.1 HJ.out.2.1 HJ.out.2.2.1 HJ.out.2.2.2 rfl (by decide) _ L.length (ints (bsI L)) rfl H4.out.1.own ⟨g4, 0, none⟩ (bsI f).length (bsI f).length (ints (bsI f)) rfl (by simp [ints]) ?_ ?_ ?_ ?_ ?_ ?_)
        · intro j u hu
          have hj : j < (bsI f).length := by
            have := (List.getElem?_eq_some_iff.1 hu).1
            simpa [ints] using this
          have e : ((⟨g4, 0, none⟩ : Addr).add j) = ⟨g4, j, none⟩ := by rw [add_pl]; simp
          rw [e, H4.out.2.2.cell j (by rw [bsI_len] at hj; omega), ← hu]
          simp [ints, hj]
        · intro u hu
          simp [ints] at hu
          obtain ⟨x, _, rfl⟩ := hu
          rfl
        · unfold maxLen; rw [bsI_len]; omega
        · rw [bsI_len]; omega
        · omega
        intro v5 w5 hown5 hgrow5 _ _
        have H5 := Lib.hid (And.intro (H4.out.1.app hown5 hgrow5) (ob_app H4.out.2.1 H4.out.1.own hgrow5)); clear hown5 hgrow5 H4
        obtain ⟨c0, c1, c2, c3, -, -, -, -⟩ := H5.out.1.left.four
        obtain ⟨d0, d1, d2, -, -, -⟩ := H5.out.2.three
        go_wp2_with fail
        refine (HPT.out _).mono ?_; rintro e w6 ⟨rfl, b6⟩
        have H6 := Lib.hid (And.intro (H5.out.1.keep b6) (H5.out.2.keep b6)); clear H5 b6 c0 c1 c2 c3 d0 d1 d2
        obtain ⟨c0, c1, c2, c3, -, -, -, -⟩ := H6.out.1.left.four
        obtain ⟨d0, d1, d2, -, -, -⟩ := H6.out.2.three
        go_wp2_with fail
        refine (HBH.out _).mono ?_; rintro e w7 ⟨he, b7⟩
        have he2 : e = .returned (.agg #[.int .i64 (m : Int), .int .i64 (oneT (bhF s f) : Int), .int .i64 (twoT (bhF s f) : Int), .int .i64 1]) := he
        clear he
        subst he2
        have h7 := H6.out.1.keep b7
        obtain ⟨c0', c1', c2', c3', f0, f1, f2, f3⟩ := h7.left.four
        clear c0 c1 c2 c3 d0 d1 d2 H6 b7
        have hg8 := HPLAN.out.2.2.2
        have H7 := Lib.hid (h7.put4 hg8 (.int .i64 (m : Int)) (.int .i64 (oneT (bhF s f) : Int)) (.int .i64 (twoT (bhF s f) : Int)) (.int .i64 1)); clear h7
        go_upto_region 13 with fail
        clear c0' c1' c2' c3' f0 f1 f2 f3
        generalize ((((w7.setCell ⟨g8, 0, none⟩ (.int .i64 (m : Int))).setCell ⟨g8, 1, none⟩ (.int .i64 (oneT (bhF s f) : Int))).setCell ⟨g8, 2, none⟩ (.int .i64 (twoT (bhF s f) : Int))).setCell ⟨g8, 3, none⟩ (.int .i64 1)) = W8 at *
        obtain ⟨c0, c1, c2, c3, -, -, -, -⟩ := H7.out.left.four
        have H8 : Hid (FgW w F t w.heap.size W8.heap.size m (bhF s f) q (L ++ f) v5 (W8.alloc (.cells #[.int .i64 (m : Int), .int .i64 (oneT (bhF s f) : Int), .int .i64 (twoT (bhF s f) : Int), .int .i64 1] 62))) := Lib.hid (by
          have h := H7.out.keep (below_newT W8 (.cells #[.int .i64 (m : Int), .int .i64 (oneT (bhF s f) : Int), .int .i64 (twoT (bhF s f) : Int), .int .i64 1] 62))
          refine ⟨h.own, ObAt.new W8 _ _, H7.out.below.size, ⟨_, h.book, HPLAN.out.2.2.1⟩, Nat.le_refl _, h.below, by rw [HQ.out]; exact HFO.out.2.1, ?_⟩
          have := HPLAN.out.2.1
          rw [List.length_append]; omega)
        have hbh3 := bhF_le s f
        clear H7
        go_wp2_with fail
        go_roundw
        case rel => exact ⟨m, bhF s f, q, W8.heap.size, L ++ f, by go_num, rfl, by omega, hbh3, .inl (by omega), hq300, H8⟩
        case measure =>
          rw [msF_at H8.out.left, HMS.out]; omega

theorem implFirstGameOf_any (f t : Int) (w : World) : Calls Try.prog 12 #[.int .i64 f, .int .i64 t] w (RowQ (fgL f t) (fgB f t) w) := by
  cases hb : gmB f t
  · have hfb : fgB f t = false := by unfold fgB; rw [hb]; rfl
    rw [fgL_no hfb, hfb]; clear hfb
    by_cases hf : 1 ≤ f ∧ f ≤ 10
    · obtain ⟨F, rfl⟩ : ∃ F : Nat, f = (F : Int) := ⟨f.toNat, by omega⟩
      have HF := Lib.hid (fun W => fcIn_yes F (by omega) (by omega) W)
      have HT := Lib.hid (fun W => totIn_any t W)
      have ht : inQ t 0 300 = false := by unfold gmB at hb; rw [decide_eq_true hf] at hb; simpa using hb
      rw [ht] at HT; clear ht hb hf
      go_enter Try.func12, Try.ntmps12
      go_wp2_with fail
      refine (HF.out _).mono ?_; rintro e w1 ⟨rfl, rfl⟩
      go_wp2_with fail
      refine (HT.out _).mono ?_; rintro e w1 ⟨rfl, rfl⟩
      go_wp2_with fail
      refine bodyPost_ret (v := .tuple #[.slice none 0 0, .bool false]) (by simp [results, Try.results12, go_sem]) rfl (RowQ.no (Below.refl _ _))
    · have HF := Lib.hid (fun W => fcIn_no f hf W)
      clear hb hf
      go_enter Try.func12, Try.ntmps12
      go_wp2_with fail
      refine (HF.out _).mono ?_; rintro e w1 ⟨rfl, rfl⟩
      go_wp2_with fail
      refine bodyPost_ret (v := .tuple #[.slice none 0 0, .bool false]) (by simp [results, Try.results12, go_sem]) rfl (RowQ.no (Below.refl _ _))
  · have hq : (1 ≤ f ∧ f ≤ 10) ∧ 0 ≤ t ∧ t ≤ 300 := by simpa [gmB, inQ] using hb
    obtain ⟨F, rfl⟩ : ∃ F : Nat, f = (F : Int) := ⟨f.toNat, by omega⟩
    obtain ⟨n, rfl⟩ : ∃ n : Nat, t = (n : Int) := ⟨t.toNat, by omega⟩
    have e1 : fgB (F : Int) (n : Int) = (gmF F 0 n).isSome := by unfold fgB; rw [hb]; simp
    have e2 : fgL (F : Int) (n : Int) = bsI ((gmF F 0 n).getD []) := by
      unfold fgL
      rw [e1]
      cases hh : gmF F 0 n <;> simp [bsI, hh]
    rw [e1, e2]
    exact implFirstGame_loop F n (by omega) (by omega) (by omega) w
end Go.Proofs.Ythbkclgdoopbpaa
