/-
  Puzzles in the laws: one that comes in, copied, compared.
-/
import Derived.Test.YtbgdngfjeikheaaDoorPzAt
import Derived.Deep.SlicePairs
import Derived.Deep.Strs
namespace Go.Proofs.YtbgdngfjeikheaaDoor
open Go.RowKit Go.ChangeShapes Go.WideShapes Go.Deep
set_option linter.unusedVariables false
set_option linter.unusedSimpArgs false

/-- The three cells of a struct of three. -/
theorem cells3 {w : World} {base : Nat} {a : Addr} {cs : List Value} (h : w.cells? base a 3 = some cs) :
    ∃ v0 v1 v2, cs = [v0, v1, v2] ∧ w.cell? a = some v0 ∧ w.cell? (a.add 1) = some v1 ∧ w.cell? (a.add 2) = some v2 := by
  obtain ⟨_, hlen, hcell⟩ := World.cells?_some h
  match cs, hlen with
  | [v0, v1, v2], _ =>
    have e0 := hcell 0 (by omega)
    have e1 := hcell 1 (by omega)
    have e2 := hcell 2 (by omega)
    have z : a.add 0 = a := by simp [Addr.add]
    rw [z] at e0
    exact ⟨v0, v1, v2, rfl, by simpa using e0, by simpa using e1, by simpa using e2⟩

theorem open_clues {H : Type} {enc : TypeId × Value → H} {w : World} {v : Value} {m : Nat} {y : DataW H × List MemPlace}
    (h : DataW.trod enc Tryd.prog w 0 (fun _ => true) true m 30 [v] = some y) :
    ∃ (a : Option Addr) (n c : Nat) (l : List Cl), v = .slice a n c ∧ (l.length = n ∧ Reads w a (clus l)) ∧ (n : Int) ≤ 9223372036854775807 := by
  have hfour : Tryd.prog.cellsOf 128 = 3 := by kernel_rfl
  rcases open_slice Tryd.underlying30 h with ⟨hcs, _⟩ | ⟨x, n, cap, m, k, D, Pl, hcs, _, hl, hm, hmm, _, hi⟩
  · simp at hcs
    exact ⟨none, 0, 0, [], hcs, ⟨rfl, .inl rfl⟩, by omega⟩
  · simp at hcs
    simp only [if_true] at hmm
    subst hmm
    have hm2 := hm
    unfold maxLen at hm2
    have hcell : ∀ i, i < n → ∃ r : Cl, w.cell? (x.add (i * 3)) = some (.int .i64 r.1) ∧ w.cell? (x.add (i * 3 + 1)) = some (.int .i64 r.2.1) ∧ w.cell? (x.add (i * 3 + 2)) = some (.int .i64 r.2.2) := by
      intro i hin
      obtain ⟨cs', h1, h2⟩ := hi i (by omega)
      rw [hfour] at h1
      obtain ⟨v0, v1, v2, rfl, k0, k1, k2⟩ := cells3 h1
      obtain ⟨y0, y1, y2, q, _, _, t0, t1, t2⟩ := Go.Deep.trod_struct3 Tryd.underlying128 h2
      obtain ⟨s0, e0, _, _⟩ := DataW.trod_int Tryd.underlying3 t0
      obtain ⟨s1, e1, _, _⟩ := DataW.trod_int Tryd.underlying3 t1
      obtain ⟨s2, e2, _, _⟩ := DataW.trod_int Tryd.underlying3 t2
      have hone : Tryd.prog.cellsOf 3 = 1 := by kernel_rfl
      simp [hone] at e0 e1 e2
      rw [add_add] at k1 k2
      exact ⟨(s0, s1, s2), by rw [k0, e0], by rw [k1, e1], by rw [k2, e2]⟩
    obtain ⟨V, hV⟩ : ∃ V : Nat → Cl, ∀ i, i < n → w.cell? (x.add (i * 3)) = some (.int .i64 (V i).1) ∧ w.cell? (x.add (i * 3 + 1)) = some (.int .i64 (V i).2.1) ∧ w.cell? (x.add (i * 3 + 2)) = some (.int .i64 (V i).2.2) :=
      ⟨fun i => if h : i < n then (hcell i h).choose else zC, fun i hin => by simp only [hin, dif_pos]; exact (hcell i hin).choose_spec⟩
    refine ⟨some x, n, _, (List.range n).map V, hcs, ⟨by simp, ?_⟩, by omega⟩
    by_cases hn : n = 0
    · subst hn; exact .inl rfl
    obtain ⟨b, off, spot⟩ := x
    have hspot : spot = none := by simpa [Addr.add] using World.cell?_spot (hV 0 (by omega)).1
    subst hspot
    refine .inr ⟨b, off, rfl, World.block_lt_of_cell? w _ (hV 0 (by omega)).1, fun j hj => ?_⟩
    rw [clus_len] at hj
    simp at hj
    obtain ⟨q, hq, hj⟩ : ∃ q, q < n ∧ (j = q * 3 ∨ j = q * 3 + 1 ∨ j = q * 3 + 2) := ⟨j / 3, by omega, by omega⟩
    obtain ⟨g0, g1, g2⟩ := clus_get ((List.range n).map V) q (by simpa using hq)
    obtain ⟨k0, k1, k2⟩ := hV q hq
    rw [add_plain] at k0 k1 k2
    have hd : ((List.range n).map V).getD q zC = V q := by simp [hq]
    rw [hd] at g0 g1 g2
    rcases hj with rfl | rfl | rfl
    · rw [k0, g0]
    · rw [k1, g1]
    · rw [k2, g2]

set_option maxHeartbeats 1600000 in
theorem toPuzzle_any (t : Int) (l : List Cl) (a : Option Addr) (c : Nat) (w : World) (hl : (l.length : Int) ≤ 1048576) (h : Reads w a (clus l)) :
    Calls Tryd.prog 20 #[.agg #[.int .i64 t, .slice a l.length c]] w fun e w' => ∃ g, e = .returned (.agg #[.int .i64 t, .slice (some ⟨g, 0, none⟩) l.length l.length]) ∧ w.heap.size ≤ g ∧ Filled w' g (l.length * 3) (clus l) ∧ Below w.heap.size w w' := by
  have HR := Lib.hid h; clear h
  have HB0 : Hid (∀ x y z : Obj, Below w.heap.size w (((w.alloc x).alloc y).alloc z)) := fun x y z => by (repeat (first | exact Below.refl _ _ | exact ‹Below _ _ _› | refine Below.drew ?_ | refine Below.alloc ?_ (by first | omega | (simp; done) | (simp; omega)) _ | refine Below.setCell ?_ (by first | omega | (simp; done) | (simp; omega)) _ | refine Below.trans ?_ (Below.mono ‹Below _ _ _› (by first | omega | (simp; done) | (simp; omega)))))
  go_enter Tryd.func20, Tryd.ntmps20
  go_wp2_with fail
  have A3 := Lib.hid (ObAt.new ((w.alloc (.cells #[.int .i64 t, .slice a l.length c] 32)).alloc (.cells #[.int .i64 0, .slice none 0 0] 24)) 24 #[.int .i64 t, .slice none 0 0])
  have A2 := Lib.hid ((ObAt.new (w.alloc (.cells #[.int .i64 t, .slice a l.length c] 32)) 24 #[.int .i64 0, .slice none 0 0]).old (.cells #[.int .i64 t, .slice none 0 0] 24))
  refine (toClueS_any l _ _ _ hl (HR.out.old (HB0.out _ _ _))).mono ?_; rintro e w2 ⟨g, rfl, hg, hf, hb⟩
  have a3 := A3.out.keep hb
  have a2 := A2.out.keep hb
  have HF := Lib.hid (And.intro hg (And.intro hf ((HB0.out _ _ _).trans (hb.mono (HB0.out _ _ _).size)))); clear hg hf hb A2 A3
  simp only [World.size_alloc] at a3 a2
  have b3 := a3.put 1 (.slice (some ⟨g, 0, none⟩) l.length l.length)
  have b2 := ((a2.other (h := w.heap.size + 1 + 1) (o := 1) (by omega) (.slice (some ⟨g, 0, none⟩) l.length l.length)).put 0 (.int .i64 t)).put 1 (.slice (some ⟨g, 0, none⟩) l.length l.length)
  obtain ⟨p0, p1, f0, f1⟩ := a3.two
  obtain ⟨q0, q1, e0, e1⟩ := a2.two
  clear a3 a2 b3 b2
  have hfin : ∀ u0 u1 u2 : Value, Filled (((w2.setCell ⟨w.heap.size + 1 + 1, 1, none⟩ u0).setCell ⟨w.heap.size + 1, 0, none⟩ u1).setCell ⟨w.heap.size + 1, 1, none⟩ u2) g (l.length * 3) (clus l) ∧ Below w.heap.size w (((w2.setCell ⟨w.heap.size + 1 + 1, 1, none⟩ u0).setCell ⟨w.heap.size + 1, 0, none⟩ u1).setCell ⟨w.heap.size + 1, 1, none⟩ u2) := by
    intro u0 u1 u2
    obtain ⟨h1, h2, h3⟩ := HF.out
    simp only [World.size_alloc] at h1
    exact ⟨((h2.other (by omega) _).other (by omega) _).other (by omega) _, ((h3.setCell (by simp only; omega) _).setCell (by simp only; omega) _).setCell (by simp only; omega) _⟩
  have hgl : w.heap.size ≤ g := by have h1 := HF.out.1; simp only [World.size_alloc] at h1; omega
  have HFin := Lib.hid hfin; clear hfin
  go_wp2
  refine bodyPost_ret (v := .agg #[.int .i64 t, .slice (some ⟨g, 0, none⟩) l.length l.length]) ?_ rfl ⟨g, rfl, hgl, (HFin.out _ _ _).1, (HFin.out _ _ _).2⟩
  simp [results, Tryd.results20, go_sem, *]

def eqL (t t' : Int) (l m : List Cl) : Bool := decide (t = t') && SameC l m
set_option maxHeartbeats 1600000 in
theorem eqPuzzle_any (t t' : Int) (l m : List Cl) (a a' : Option Addr) (c c' : Nat) (w : World) (hl : (l.length : Int) ≤ 1000000000000) (hm : (m.length : Int) ≤ 1000000000000) (h : Reads w a (clus l)) (h' : Reads w a' (clus m)) :
    Calls Tryd.prog 15 #[.agg #[.int .i64 t, .slice a l.length c], .agg #[.int .i64 t', .slice a' m.length c']] w fun e w' => e = .returned (.bool (eqL t t' l m)) ∧ Below w.heap.size w w' := by
  by_cases h1 : t = t'
  · subst h1
    have q1 : (t != t) = false := by simp
    have HE := Lib.hid (fun W (b : Below w.heap.size w W) => eqClueS_any l m a a' c c' W hl hm (h.old b) (h'.old b)); clear h h'
    cases hs : SameC l m
    all_goals
      rw [hs] at HE
      have hf : eqL t t l m = SameC l m := by simp [eqL]
      rw [hf, hs]; clear hf hs
      go_enter Tryd.func15, Tryd.ntmps15
      go_wp2_with fail
      refine (HE.out _ (by (repeat (first | exact Below.refl _ _ | exact ‹Below _ _ _› | refine Below.drew ?_ | refine Below.alloc ?_ (by first | omega | (simp; done) | (simp; omega)) _ | refine Below.setCell ?_ (by first | omega | (simp; done) | (simp; omega)) _ | refine Below.trans ?_ (Below.mono ‹Below _ _ _› (by first | omega | (simp; done) | (simp; omega))))))).mono ?_; rintro e w2 ⟨rfl, b2⟩
      have HB := Lib.hid b2; clear b2
      go_wp2_with fail
      go_ret
      refine ⟨rfl, ?_⟩
      have := HB.out
      refine Below.trans ?_ (this.mono (by simp; omega))
      (repeat (first | exact Below.refl _ _ | exact ‹Below _ _ _› | refine Below.drew ?_ | refine Below.alloc ?_ (by first | omega | (simp; done) | (simp; omega)) _ | refine Below.setCell ?_ (by first | omega | (simp; done) | (simp; omega)) _ | refine Below.trans ?_ (Below.mono ‹Below _ _ _› (by first | omega | (simp; done) | (simp; omega)))))
  · have q1 : (t != t') = true := by rw [bne_iff_ne]; exact h1
    go_enter Tryd.func15, Tryd.ntmps15
    go_wp2
    go_ret
    refine ⟨ret_bool (by simp [eqL, h1]), ?_⟩
    (repeat (first | exact Below.refl _ _ | exact ‹Below _ _ _› | refine Below.drew ?_ | refine Below.alloc ?_ (by first | omega | (simp; done) | (simp; omega)) _ | refine Below.setCell ?_ (by first | omega | (simp; done) | (simp; omega)) _ | refine Below.trans ?_ (Below.mono ‹Below _ _ _› (by first | omega | (simp; done) | (simp; omega)))))
theorem eqPuzzle_same (t : Int) (l : List Cl) (g g' : Nat) (w : World) (hl : (l.length : Int) ≤ 1048576) (h : Reads w (some ⟨g, 0, none⟩) (clus l)) (h' : Reads w (some ⟨g', 0, none⟩) (clus l)) :
    Calls Tryd.prog 15 #[.agg #[.int .i64 t, .slice (some ⟨g, 0, none⟩) l.length l.length], .agg #[.int .i64 t, .slice (some ⟨g', 0, none⟩) l.length l.length]] w fun e w' => e = .returned (.bool true) ∧ Below w.heap.size w w' := by
  have := eqPuzzle_any t t l l (some ⟨g, 0, none⟩) (some ⟨g', 0, none⟩) l.length l.length w (by omega) (by omega) h h'
  rw [show eqL t t l l = true from by simp [eqL, SameC]] at this
  exact this

set_option maxHeartbeats 800000 in
theorem szPuzzle_any (t : Int) (a : Option Addr) (n c : Nat) (k : Int) (w : World) (hn : (n : Int) ≤ 9223372036854775807) (h0 : 0 ≤ k) (h1 : k ≤ 1000000000000) :
    Calls Tryd.prog 18 #[.agg #[.int .i64 t, .slice a n c], .int .i64 k] w fun e w' => e = .returned (.int .i64 (szN k n)) ∧ Below w.heap.size w w' := by
  have HB := Lib.hid (Below.ofNew (w := w) (.cells #[.int .i64 t, .slice a n c] 32))
  have hs : szN k n = if k < n then -1 else k - n := rfl
  by_cases h : k < n
  · rw [hs, if_pos h]
    go_enter Tryd.func18, Tryd.ntmps18
    go_wp2
    go_ret
    exact ⟨rfl, HB.out⟩
  · rw [hs, if_neg h]
    go_enter Tryd.func18, Tryd.ntmps18
    go_wp2
    go_ret
    exact ⟨ret_int (by omega), HB.out⟩

/-- The law's own league, in its block, and what else stays. -/
def LAt (w : World) (t : Int) (a : Option Addr) (l : List Cl) (c : Nat) (wi : World) : Prop :=
  ObAt wi w.heap.size 32 #[.int .i64 t, .slice a l.length c] ∧ Reads wi a (clus l) ∧ Below w.heap.size w wi
theorem LAt.keep {w : World} {t : Int} {a : Option Addr} {l : List Cl} {c : Nat} {wi wj : World} (h : LAt w t a l c wi) (hb : Below wi.heap.size wi wj) : LAt w t a l c wj :=
  ⟨h.1.keep hb, h.2.1.old hb, h.2.2.trans (hb.mono h.2.2.size)⟩
theorem LAt.start {w : World} {t : Int} {a : Option Addr} {l : List Cl} {c : Nat} (h : Reads w a (clus l)) : LAt w t a l c (w.alloc (.cells #[.int .i64 t, .slice a l.length c] 32)) :=
  ⟨ObAt.new _ _ _, h.old (Below.ofNew _), Below.ofNew _⟩
/-- The law's league, and the copy that was handed to the program. -/
def CopAt (w : World) (t : Int) (a : Option Addr) (l : List Cl) (c g5 g3 : Nat) (wi : World) : Prop :=
  LAt w t a l c wi ∧ ObAt wi g5 24 #[.int .i64 t, .slice (some ⟨g3, 0, none⟩) l.length l.length] ∧ Reads wi (some ⟨g3, 0, none⟩) (clus l)
theorem CopAt.keep {w : World} {t : Int} {a : Option Addr} {l : List Cl} {c g5 g3 : Nat} {wi wj : World} (h : CopAt w t a l c g5 g3 wi) (hb : Below wi.heap.size wi wj) : CopAt w t a l c g5 g3 wj :=
  ⟨h.1.keep hb, h.2.1.keep hb, h.2.2.old hb⟩
theorem CopAt.drew {w : World} {t : Int} {a : Option Addr} {l : List Cl} {c g5 g3 : Nat} {wi : World} (h : CopAt w t a l c g5 g3 wi) : CopAt w t a l c g5 g3 wi.drew := h.keep (Below.drew (Below.refl _ _))
theorem CopAt.full {w : World} {t : Int} {a : Option Addr} {l : List Cl} {c g5 g3 : Nat} {w' : World} (h : CopAt w t a l c g5 g3 w') :
    w'.cell? ⟨w.heap.size, 0, none⟩ = some (.int .i64 t) ∧ w'.cell? ⟨w.heap.size, 1, none⟩ = some (.slice a l.length c) ∧ w'.cell? ⟨g5, 0, none⟩ = some (.int .i64 t) ∧ w'.cell? ⟨g5, 1, none⟩ = some (.slice (some ⟨g3, 0, none⟩) l.length l.length) ∧ CopAt w t a l c g5 g3 w' :=
  ⟨h.1.1.cell 0, h.1.1.cell 1, h.2.1.cell 0, h.2.1.cell 1, h⟩
end Go.Proofs.YtbgdngfjeikheaaDoor
