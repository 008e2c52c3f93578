/-
  Leagues in the laws: one that comes in, copied, compared.
-/
import Derived.Test.YtgkkjlpfkoplhaaDoorLgAt
import Derived.Deep.SlicePairs
namespace Go.Proofs.YtgkkjlpfkoplhaaDoor
open Go.RowKit Go.ChangeShapes Go.WideShapes Go.Deep
set_option linter.unusedVariables false
set_option linter.unusedSimpArgs false

/-- The four cells of a struct of four. -/
theorem cells4 {w : World} {base : Nat} {a : Addr} {cs : List Value} (h : w.cells? base a 4 = some cs) :
    ∃ v0 v1 v2 v3, cs = [v0, v1, v2, v3] ∧ w.cell? a = some v0 ∧ w.cell? (a.add 1) = some v1 ∧ w.cell? (a.add 2) = some v2 ∧ w.cell? (a.add 3) = some v3 := by
  obtain ⟨_, hlen, hcell⟩ := World.cells?_some h
  match cs, hlen with
  | [v0, v1, v2, v3], _ =>
    have e0 := hcell 0 (by omega)
    have e1 := hcell 1 (by omega)
    have e2 := hcell 2 (by omega)
    have e3 := hcell 3 (by omega)
    have z : a.add 0 = a := by simp [Addr.add]
    rw [z] at e0
    exact ⟨v0, v1, v2, v3, rfl, by simpa using e0, by simpa using e1, by simpa using e2, by simpa using e3⟩

def eqL (t wn t' wn' : Int) (l m : List Rs) : Bool := decide (t = t') && (decide (wn = wn') && SameR l m)
set_option maxHeartbeats 1600000 in
theorem eqLeague_any (t wn t' wn' : Int) (l m : List Rs) (a a' : Option Addr) (c c' : Nat) (w : World) (hl : (l.length : Int) ≤ 1000000000000) (hm : (m.length : Int) ≤ 1000000000000) (h : Reads w a (ress l)) (h' : Reads w a' (ress m)) :
    Calls Tryd.prog 28 #[.agg #[.int .i64 t, .int .i64 wn, .slice a l.length c], .agg #[.int .i64 t', .int .i64 wn', .slice a' m.length c']] w fun e w' => e = .returned (.bool (eqL t wn t' wn' l m)) ∧ Below w.heap.size w w' := by
  by_cases h1 : t = t'
  · by_cases h2 : wn = wn'
    · subst h1 h2
      have q1 : (t != t) = false := by simp
      have q2 : (wn != wn) = false := by simp
      have HE := Lib.hid (fun W (b : Below w.heap.size w W) => eqResultS_any l m a a' c c' W hl hm (h.old b) (h'.old b)); clear h h'
      cases hs : SameR l m
      all_goals
        rw [hs] at HE
        have hf : eqL t wn t wn l m = SameR l m := by simp [eqL]
        rw [hf, hs]; clear hf hs
        go_enter Tryd.func28, Tryd.ntmps28
        go_wp2_with fail
        refine (HE.out _ (by (repeat (first | exact Below.refl _ _ | exact ‹Below _ _ _› | refine Below.drew ?_ | refine Below.alloc ?_ (by first | omega | (simp; done) | (simp; omega)) _ | refine Below.setCell ?_ (by first | omega | (simp; done) | (simp; omega)) _ | refine Below.trans ?_ (Below.mono ‹Below _ _ _› (by first | omega | (simp; done) | (simp; omega))))))).mono ?_; rintro e w2 ⟨rfl, b2⟩
        have HB := Lib.hid b2; clear b2
        go_wp2_with fail
        go_ret
        refine ⟨rfl, ?_⟩
        have := HB.out
        refine Below.trans ?_ (this.mono (by simp; omega))
        (repeat (first | exact Below.refl _ _ | exact ‹Below _ _ _› | refine Below.drew ?_ | refine Below.alloc ?_ (by first | omega | (simp; done) | (simp; omega)) _ | refine Below.setCell ?_ (by first | omega | (simp; done) | (simp; omega)) _ | refine Below.trans ?_ (Below.mono ‹Below _ _ _› (by first | omega | (simp; done) | (simp; omega)))))
    · subst h1
      have q1 : (t != t) = false := by simp
      have q2 : (wn != wn') = true := by rw [bne_iff_ne]; exact h2
      go_enter Tryd.func28, Tryd.ntmps28
      go_wp2
      go_ret
      refine ⟨ret_bool (by simp [eqL, h2]), ?_⟩
      (repeat (first | exact Below.refl _ _ | exact ‹Below _ _ _› | refine Below.drew ?_ | refine Below.alloc ?_ (by first | omega | (simp; done) | (simp; omega)) _ | refine Below.setCell ?_ (by first | omega | (simp; done) | (simp; omega)) _ | refine Below.trans ?_ (Below.mono ‹Below _ _ _› (by first | omega | (simp; done) | (simp; omega)))))
  · have q1 : (t != t') = true := by rw [bne_iff_ne]; exact h1
    go_enter Tryd.func28, Tryd.ntmps28
    go_wp2
    go_ret
    refine ⟨ret_bool (by simp [eqL, h1]), ?_⟩
    (repeat (first | exact Below.refl _ _ | exact ‹Below _ _ _› | refine Below.drew ?_ | refine Below.alloc ?_ (by first | omega | (simp; done) | (simp; omega)) _ | refine Below.setCell ?_ (by first | omega | (simp; done) | (simp; omega)) _ | refine Below.trans ?_ (Below.mono ‹Below _ _ _› (by first | omega | (simp; done) | (simp; omega)))))
theorem eqLeague_same (t wn : Int) (l : List Rs) (g g' : Nat) (w : World) (hl : (l.length : Int) ≤ 1048576) (h : Reads w (some ⟨g, 0, none⟩) (ress l)) (h' : Reads w (some ⟨g', 0, none⟩) (ress l)) :
    Calls Tryd.prog 28 #[.agg #[.int .i64 t, .int .i64 wn, .slice (some ⟨g, 0, none⟩) l.length l.length], .agg #[.int .i64 t, .int .i64 wn, .slice (some ⟨g', 0, none⟩) l.length l.length]] w fun e w' => e = .returned (.bool true) ∧ Below w.heap.size w w' := by
  have := eqLeague_any t wn t wn l l (some ⟨g, 0, none⟩) (some ⟨g', 0, none⟩) l.length l.length w (by omega) (by omega) h h'
  rw [show eqL t wn t wn l l = true from by simp [eqL, SameR]] at this
  exact this

end Go.Proofs.YtgkkjlpfkoplhaaDoor
