/-
  Leagues in the laws: one that comes in, copied, compared.
-/
import Derived.Test.YtgkkjlpfkoplhaaGreatDoorLgAt
import Derived.Deep.SlicePairs
namespace Go.Proofs.YtgkkjlpfkoplhaaGreatDoor.Lg
open Go.RowKit Go.ChangeShapes Go.WideShapes Go.Deep
set_option linter.unusedVariables false
set_option linter.unusedSimpArgs false

/-- The four cells of a struct of four. -/
theorem cells4 {w : World} {base : Nat} {a : Addr} {cs : List Value} (h : w.cells? base a 4 = some cs) :
    ∃ v0 v1 v2 v3, cs = [v0, v1, v2, v3] ∧ w.cell? a = some v0 ∧ w.cell? (a.add 1) = some v1 ∧ w.cell? (a.add 2) = some v2 ∧ w.cell? (a.add 3) = some v3 := by
  obtain ⟨_, hlen, hcell⟩ := World.cells?_some h
  match cs, hlen with
  | [v0, v1, v2, v3], _ =>
    have e0 := hcell 0 (by omega)
    have e1 := hcell 1 (by omega)
    have e2 := hcell 2 (by omega)
    have e3 := hcell 3 (by omega)
    have z : a.add 0 = a := by simp [Addr.add]
    rw [z] at e0
    exact ⟨v0, v1, v2, v3, rfl, by simpa using e0, by simpa using e1, by simpa using e2, by simpa using e3⟩

theorem open_results {H : Type} {enc : TypeId × Value → H} {w : World} {v : Value} {m : Nat} {y : DataW H × List MemPlace}
    (h : DataW.trod enc Tryz.prog w 0 (fun _ => true) true m 23 [v] = some y) :
    ∃ (a : Option Addr) (n c : Nat) (l : List Rs), v = .slice a n c ∧ (l.length = n ∧ Reads w a (ress l)) ∧ (n : Int) ≤ 9223372036854775807 := by
  have hfour : Tryz.prog.cellsOf 74 = 4 := by kernel_rfl
  rcases open_slice Tryz.underlying23 h with ⟨hcs, _⟩ | ⟨x, n, cap, m, k, D, Pl, hcs, _, hl, hm, hmm, _, hi⟩
  · simp at hcs
    exact ⟨none, 0, 0, [], hcs, ⟨rfl, .inl rfl⟩, by omega⟩
  · simp at hcs
    simp only [if_true] at hmm
    subst hmm
    have hm2 := hm
    unfold maxLen at hm2
    have hcell : ∀ i, i < n → ∃ r : Rs, w.cell? (x.add (i * 4)) = some (.int .i64 r.1) ∧ w.cell? (x.add (i * 4 + 1)) = some (.int .i64 r.2.1) ∧ w.cell? (x.add (i * 4 + 2)) = some (.int .i64 r.2.2.1) ∧ w.cell? (x.add (i * 4 + 3)) = some (.int .i64 r.2.2.2) := by
      intro i hin
      obtain ⟨cs', h1, h2⟩ := hi i (by omega)
      rw [hfour] at h1
      obtain ⟨v0, v1, v2, v3, rfl, k0, k1, k2, k3⟩ := cells4 h1
      obtain ⟨y0, y1, y2, y3, q, _, _, t0, t1, t2, t3⟩ := Go.Joins.trod_struct4 Tryz.underlying74 h2
      obtain ⟨s0, e0, _, _⟩ := DataW.trod_int Tryz.underlying3 t0
      obtain ⟨s1, e1, _, _⟩ := DataW.trod_int Tryz.underlying3 t1
      obtain ⟨s2, e2, _, _⟩ := DataW.trod_int Tryz.underlying3 t2
      obtain ⟨s3, e3, _, _⟩ := DataW.trod_int Tryz.underlying3 t3
      have hone : Tryz.prog.cellsOf 3 = 1 := by kernel_rfl
      simp [hone] at e0 e1 e2 e3
      rw [add_add] at k1 k2 k3
      exact ⟨(s0, s1, s2, s3), by rw [k0, e0], by rw [k1, e1], by rw [k2, e2], by rw [k3, e3]⟩
    obtain ⟨V, hV⟩ : ∃ V : Nat → Rs, ∀ i, i < n → w.cell? (x.add (i * 4)) = some (.int .i64 (V i).1) ∧ w.cell? (x.add (i * 4 + 1)) = some (.int .i64 (V i).2.1) ∧ w.cell? (x.add (i * 4 + 2)) = some (.int .i64 (V i).2.2.1) ∧ w.cell? (x.add (i * 4 + 3)) = some (.int .i64 (V i).2.2.2) :=
      ⟨fun i => if h : i < n then (hcell i h).choose else zR, fun i hin => by simp only [hin, dif_pos]; exact (hcell i hin).choose_spec⟩
    refine ⟨some x, n, _, (List.range n).map V, hcs, ⟨by simp, ?_⟩, by omega⟩
    by_cases hn : n = 0
    · subst hn; exact .inl rfl
    obtain ⟨b, off, spot⟩ := x
    have hspot : spot = none := by simpa [Addr.add] using World.cell?_spot (hV 0 (by omega)).1
    subst hspot
    refine .inr ⟨b, off, rfl, World.block_lt_of_cell? w _ (hV 0 (by omega)).1, fun j hj => ?_⟩
    rw [ress_len] at hj
    simp at hj
    obtain ⟨q, hq, hj⟩ : ∃ q, q < n ∧ (j = q * 4 ∨ j = q * 4 + 1 ∨ j = q * 4 + 2 ∨ j = q * 4 + 3) := ⟨j / 4, by omega, by omega⟩
    obtain ⟨g0, g1, g2, g3⟩ := ress_get ((List.range n).map V) q (by simpa using hq)
    obtain ⟨k0, k1, k2, k3⟩ := hV q hq
    rw [add_plain] at k0 k1 k2 k3
    have hd : ((List.range n).map V).getD q zR = V q := by simp [hq]
    rw [hd] at g0 g1 g2 g3
    rcases hj with rfl | rfl | rfl | rfl
    · rw [k0, g0]
    · rw [k1, g1]
    · rw [k2, g2]
    · rw [k3, g3]

set_option maxHeartbeats 1600000 in
theorem toLeague_any (t wn : Int) (l : List Rs) (a : Option Addr) (c : Nat) (w : World) (hl : (l.length : Int) ≤ 1048576) (h : Reads w a (ress l)) :
    Calls Tryz.prog 13 #[.agg #[.int .i64 t, .int .i64 wn, .slice a l.length c]] w fun e w' => ∃ g, e = .returned (.agg #[.int .i64 t, .int .i64 wn, .slice (some ⟨g, 0, none⟩) l.length l.length]) ∧ w.heap.size ≤ g ∧ Filled w' g (l.length * 4) (ress l) ∧ Below w.heap.size w w' := by
  have HR := Lib.hid h; clear h
  have HB0 : Hid (∀ x y z : Obj, Below w.heap.size w (((w.alloc x).alloc y).alloc z)) := fun x y z => by (repeat (first | exact Below.refl _ _ | exact ‹Below _ _ _› | refine Below.drew ?_ | refine Below.alloc ?_ (by first | omega | (simp; done) | (simp; omega)) _ | refine Below.setCell ?_ (by first | omega | (simp; done) | (simp; omega)) _ | refine Below.trans ?_ (Below.mono ‹Below _ _ _› (by first | omega | (simp; done) | (simp; omega)))))
  go_enter Tryz.func13, Tryz.ntmps13
  go_wp2_with fail
  have A3 := Lib.hid (ObAt.new ((w.alloc (.cells #[.int .i64 t, .int .i64 wn, .slice a l.length c] 25)).alloc (.cells #[.int .i64 0, .int .i64 0, .slice none 0 0] 32)) 32 #[.int .i64 t, .int .i64 wn, .slice none 0 0])
  have A2 := Lib.hid ((ObAt.new (w.alloc (.cells #[.int .i64 t, .int .i64 wn, .slice a l.length c] 25)) 32 #[.int .i64 0, .int .i64 0, .slice none 0 0]).old (.cells #[.int .i64 t, .int .i64 wn, .slice none 0 0] 32))
  refine (toResultS_any l _ _ _ hl (HR.out.old (HB0.out _ _ _))).mono ?_; rintro e w2 ⟨g, rfl, hg, hf, hb⟩
  have a3 := A3.out.keep hb
  have a2 := A2.out.keep hb
  have HF := Lib.hid (And.intro hg (And.intro hf ((HB0.out _ _ _).trans (hb.mono (HB0.out _ _ _).size)))); clear hg hf hb A2 A3
  simp only [World.size_alloc] at a3 a2
  have b3 := a3.put 2 (.slice (some ⟨g, 0, none⟩) l.length l.length)
  have b2 := (((a2.other (h := w.heap.size + 1 + 1) (o := 2) (by omega) (.slice (some ⟨g, 0, none⟩) l.length l.length)).put 0 (.int .i64 t)).put 1 (.int .i64 wn)).put 2 (.slice (some ⟨g, 0, none⟩) l.length l.length)
  obtain ⟨p0, p1, p2, f0, f1, f2⟩ := a3.three
  obtain ⟨q0, q1, q2, e0, e1, e2⟩ := a2.three
  clear a3 a2 b3 b2
  have hfin : ∀ u0 u1 u2 u3 : Value, Filled ((((w2.setCell ⟨w.heap.size + 1 + 1, 2, none⟩ u0).setCell ⟨w.heap.size + 1, 0, none⟩ u1).setCell ⟨w.heap.size + 1, 1, none⟩ u2).setCell ⟨w.heap.size + 1, 2, none⟩ u3) g (l.length * 4) (ress l) ∧ Below w.heap.size w ((((w2.setCell ⟨w.heap.size + 1 + 1, 2, none⟩ u0).setCell ⟨w.heap.size + 1, 0, none⟩ u1).setCell ⟨w.heap.size + 1, 1, none⟩ u2).setCell ⟨w.heap.size + 1, 2, none⟩ u3) := by
    intro u0 u1 u2 u3
    obtain ⟨h1, h2, h3⟩ := HF.out
    simp only [World.size_alloc] at h1
    exact ⟨(((h2.other (by omega) _).other (by omega) _).other (by omega) _).other (by omega) _, (((h3.setCell (by simp only; omega) _).setCell (by simp only; omega) _).setCell (by simp only; omega) _).setCell (by simp only; omega) _⟩
  have hgl : w.heap.size ≤ g := by have h1 := HF.out.1; simp only [World.size_alloc] at h1; omega
  have HFin := Lib.hid hfin; clear hfin
  go_wp2
  refine bodyPost_ret (v := .agg #[.int .i64 t, .int .i64 wn, .slice (some ⟨g, 0, none⟩) l.length l.length]) ?_ rfl ⟨g, rfl, hgl, (HFin.out _ _ _ _).1, (HFin.out _ _ _ _).2⟩
  simp [results, Tryz.results13, go_sem, *]

def eqL (t wn t' wn' : Int) (l m : List Rs) : Bool := decide (t = t') && (decide (wn = wn') && SameR l m)
set_option maxHeartbeats 1600000 in
theorem eqLeague_any (t wn t' wn' : Int) (l m : List Rs) (a a' : Option Addr) (c c' : Nat) (w : World) (hl : (l.length : Int) ≤ 1000000000000) (hm : (m.length : Int) ≤ 1000000000000) (h : Reads w a (ress l)) (h' : Reads w a' (ress m)) :
    Calls Tryz.prog 19 #[.agg #[.int .i64 t, .int .i64 wn, .slice a l.length c], .agg #[.int .i64 t', .int .i64 wn', .slice a' m.length c']] w fun e w' => e = .returned (.bool (eqL t wn t' wn' l m)) ∧ Below w.heap.size w w' := by
  by_cases h1 : t = t'
  · by_cases h2 : wn = wn'
    · subst h1 h2
      have q1 : (t != t) = false := by simp
      have q2 : (wn != wn) = false := by simp
      have HE := Lib.hid (fun W (b : Below w.heap.size w W) => eqResultS_any l m a a' c c' W hl hm (h.old b) (h'.old b)); clear h h'
      cases hs : SameR l m
      all_goals
        rw [hs] at HE
        have hf : eqL t wn t wn l m = SameR l m := by simp [eqL]
        rw [hf, hs]; clear hf hs
        go_enter Tryz.func19, Tryz.ntmps19
        go_wp2_with fail
        refine (HE.out _ (by (repeat (first | exact Below.refl _ _ | exact ‹Below _ _ _› | refine Below.drew ?_ | refine Below.alloc ?_ (by first | omega | (simp; done) | (simp; omega)) _ | refine Below.setCell ?_ (by first | omega | (simp; done) | (simp; omega)) _ | refine Below.trans ?_ (Below.mono ‹Below _ _ _› (by first | omega | (simp; done) | (simp; omega))))))).mono ?_; rintro e w2 ⟨rfl, b2⟩
        have HB := Lib.hid b2; clear b2
        go_wp2_with fail
        go_ret
        refine ⟨rfl, ?_⟩
        have := HB.out
        refine Below.trans ?_ (this.mono (by simp; omega))
        (repeat (first | exact Below.refl _ _ | exact ‹Below _ _ _› | refine Below.drew ?_ | refine Below.alloc ?_ (by first | omega | (simp; done) | (simp; omega)) _ | refine Below.setCell ?_ (by first | omega | (simp; done) | (simp; omega)) _ | refine Below.trans ?_ (Below.mono ‹Below _ _ _› (by first | omega | (simp; done) | (simp; omega)))))
    · subst h1
      have q1 : (t != t) = false := by simp
      have q2 : (wn != wn') = true := by rw [bne_iff_ne]; exact h2
      go_enter Tryz.func19, Tryz.ntmps19
      go_wp2
      go_ret
      refine ⟨ret_bool (by simp [eqL, h2]), ?_⟩
      (repeat (first | exact Below.refl _ _ | exact ‹Below _ _ _› | refine Below.drew ?_ | refine Below.alloc ?_ (by first | omega | (simp; done) | (simp; omega)) _ | refine Below.setCell ?_ (by first | omega | (simp; done) | (simp; omega)) _ | refine Below.trans ?_ (Below.mono ‹Below _ _ _› (by first | omega | (simp; done) | (simp; omega)))))
  · have q1 : (t != t') = true := by rw [bne_iff_ne]; exact h1
    go_enter Tryz.func19, Tryz.ntmps19
    go_wp2
    go_ret
    refine ⟨ret_bool (by simp [eqL, h1]), ?_⟩
    (repeat (first | exact Below.refl _ _ | exact ‹Below _ _ _› | refine Below.drew ?_ | refine Below.alloc ?_ (by first | omega | (simp; done) | (simp; omega)) _ | refine Below.setCell ?_ (by first | omega | (simp; done) | (simp; omega)) _ | refine Below.trans ?_ (Below.mono ‹Below _ _ _› (by first | omega | (simp; done) | (simp; omega)))))
theorem eqLeague_same (t wn : Int) (l : List Rs) (g g' : Nat) (w : World) (hl : (l.length : Int) ≤ 1048576) (h : Reads w (some ⟨g, 0, none⟩) (ress l)) (h' : Reads w (some ⟨g', 0, none⟩) (ress l)) :
    Calls Tryz.prog 19 #[.agg #[.int .i64 t, .int .i64 wn, .slice (some ⟨g, 0, none⟩) l.length l.length], .agg #[.int .i64 t, .int .i64 wn, .slice (some ⟨g', 0, none⟩) l.length l.length]] w fun e w' => e = .returned (.bool true) ∧ Below w.heap.size w w' := by
  have := eqLeague_any t wn t wn l l (some ⟨g, 0, none⟩) (some ⟨g', 0, none⟩) l.length l.length w (by omega) (by omega) h h'
  rw [show eqL t wn t wn l l = true from by simp [eqL, SameR]] at this
  exact this

set_option maxHeartbeats 800000 in
theorem szLeague_any (t wn : Int) (a : Option Addr) (n c : Nat) (k : Int) (w : World) (hn : (n : Int) ≤ 9223372036854775807) (h0 : 0 ≤ k) (h1 : k ≤ 1000000000000) :
    Calls Tryz.prog 10 #[.agg #[.int .i64 t, .int .i64 wn, .slice a n c], .int .i64 k] w fun e w' => e = .returned (.int .i64 (szN k n)) ∧ Below w.heap.size w w' := by
  have HB := Lib.hid (Below.ofNew (w := w) (.cells #[.int .i64 t, .int .i64 wn, .slice a n c] 25))
  have hs : szN k n = if k < n then -1 else k - n := rfl
  by_cases h : k < n
  · rw [hs, if_pos h]
    go_enter Tryz.func10, Tryz.ntmps10
    go_wp2
    go_ret
    exact ⟨rfl, HB.out⟩
  · rw [hs, if_neg h]
    go_enter Tryz.func10, Tryz.ntmps10
    go_wp2
    go_ret
    exact ⟨ret_int (by omega), HB.out⟩

/-- The law's own league, in its block, and what else stays. -/
def LAt (w : World) (t wn : Int) (a : Option Addr) (l : List Rs) (c : Nat) (wi : World) : Prop :=
  ObAt wi w.heap.size 25 #[.int .i64 t, .int .i64 wn, .slice a l.length c] ∧ Reads wi a (ress l) ∧ Below w.heap.size w wi
theorem LAt.keep {w : World} {t wn : Int} {a : Option Addr} {l : List Rs} {c : Nat} {wi wj : World} (h : LAt w t wn a l c wi) (hb : Below wi.heap.size wi wj) : LAt w t wn a l c wj :=
  ⟨h.1.keep hb, h.2.1.old hb, h.2.2.trans (hb.mono h.2.2.size)⟩
theorem LAt.start {w : World} {t wn : Int} {a : Option Addr} {l : List Rs} {c : Nat} (h : Reads w a (ress l)) : LAt w t wn a l c (w.alloc (.cells #[.int .i64 t, .int .i64 wn, .slice a l.length c] 25)) :=
  ⟨ObAt.new _ _ _, h.old (Below.ofNew _), Below.ofNew _⟩
/-- The law's league, and the copy that was handed to the program. -/
def CopAt (w : World) (t wn : Int) (a : Option Addr) (l : List Rs) (c g5 g3 : Nat) (wi : World) : Prop :=
  LAt w t wn a l c wi ∧ ObAt wi g5 32 #[.int .i64 t, .int .i64 wn, .slice (some ⟨g3, 0, none⟩) l.length l.length] ∧ Reads wi (some ⟨g3, 0, none⟩) (ress l)
theorem CopAt.keep {w : World} {t wn : Int} {a : Option Addr} {l : List Rs} {c g5 g3 : Nat} {wi wj : World} (h : CopAt w t wn a l c g5 g3 wi) (hb : Below wi.heap.size wi wj) : CopAt w t wn a l c g5 g3 wj :=
  ⟨h.1.keep hb, h.2.1.keep hb, h.2.2.old hb⟩
theorem CopAt.drew {w : World} {t wn : Int} {a : Option Addr} {l : List Rs} {c g5 g3 : Nat} {wi : World} (h : CopAt w t wn a l c g5 g3 wi) : CopAt w t wn a l c g5 g3 wi.drew := h.keep (Below.drew (Below.refl _ _))
theorem CopAt.full {w : World} {t wn : Int} {a : Option Addr} {l : List Rs} {c g5 g3 : Nat} {w' : World} (h : CopAt w t wn a l c g5 g3 w') :
    w'.cell? ⟨w.heap.size, 0, none⟩ = some (.int .i64 t) ∧ w'.cell? ⟨w.heap.size, 1, none⟩ = some (.int .i64 wn) ∧ w'.cell? ⟨w.heap.size, 2, none⟩ = some (.slice a l.length c) ∧ w'.cell? ⟨g5, 0, none⟩ = some (.int .i64 t) ∧ w'.cell? ⟨g5, 1, none⟩ = some (.int .i64 wn) ∧ w'.cell? ⟨g5, 2, none⟩ = some (.slice (some ⟨g3, 0, none⟩) l.length l.length) ∧ CopAt w t wn a l c g5 g3 w' :=
  ⟨h.1.1.cell 0, h.1.1.cell 1, h.1.1.cell 2, h.2.1.cell 0, h.2.1.cell 1, h.2.1.cell 2, h⟩
end Go.Proofs.YtgkkjlpfkoplhaaGreatDoor.Lg
