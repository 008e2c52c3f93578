/-
  Puzzles: the puzzle without a clue: both sides.
-/
import Derived.Test.YtbgdngfjeikheaaDoorPzWs
namespace Go.Proofs.YtbgdngfjeikheaaDoor
open Go.RowKit
set_option linter.unusedVariables false
set_option linter.unusedSimpArgs false

/-- A puzzle in its block, and behind it the block of the result, still empty. -/
def Two (w : World) (p : Int) (v : Value) (wi : World) : Prop :=
  ObAt wi w.heap.size 24 #[.int .i64 p, v] ∧ ObAt wi (w.heap.size + 1) 24 #[.int .i64 0, .slice none 0 0] ∧ Below w.heap.size w wi
theorem Two.new (w : World) (p : Int) (v : Value) : Two w p v ((w.alloc (.cells #[.int .i64 p, v] 24)).alloc (.cells #[.int .i64 0, .slice none 0 0] 24)) := by
  have h := ObAt.new (w.alloc (.cells #[.int .i64 p, v] 24)) 24 #[.int .i64 0, .slice none 0 0]
  rw [World.size_alloc] at h
  exact ⟨(ObAt.new _ _ _).old _, h, (Below.ofNew _).alloc (Below.ofNew _).size _⟩
theorem Two.keep {w : World} {p : Int} {v : Value} {wi wj : World} (h : Two w p v wi) (hb : Below wi.heap.size wi wj) : Two w p v wj := ⟨h.1.keep hb, h.2.1.keep hb, h.2.2.trans (hb.mono h.2.2.size)⟩
theorem Two.cells {w : World} {p : Int} {v : Value} {wi : World} (h : Two w p v wi) :
    wi.cell? ⟨w.heap.size, 0, none⟩ = some (.int .i64 p) ∧ wi.cell? ⟨w.heap.size, 1, none⟩ = some v ∧ wi.cell? ⟨w.heap.size + 1, 0, none⟩ = some (.int .i64 0) ∧ wi.cell? ⟨w.heap.size + 1, 1, none⟩ = some (.slice none 0 0) ∧ wi.frozen? ⟨w.heap.size + 1, 0, none⟩ = false ∧ wi.frozen? ⟨w.heap.size + 1, 1, none⟩ = false :=
  ⟨h.1.cell 0, h.1.cell 1, h.2.1.cell 0, h.2.1.cell 1, h.2.1.free 0, h.2.1.free 1⟩
theorem Two.put {w : World} {p : Int} {v : Value} {wi : World} (h : Two w p v wi) (u0 u1 : Value) : Below w.heap.size w ((wi.setCell ⟨w.heap.size + 1, 0, none⟩ u0).setCell ⟨w.heap.size + 1, 1, none⟩ u1) :=
  (h.2.2.setCell (p := ⟨w.heap.size + 1, 0, none⟩) (by simp only; omega) u0).setCell (p := ⟨w.heap.size + 1, 1, none⟩) (by simp only; omega) u1
/-- .. with a row of the call's own beside them. -/
theorem Two.putOwn {w : World} {p : Int} {v : Value} {wi : World} (h : Two w p v wi) {r : Value} {n : Nat} {xs : List Value} (ho : wi.ownsRow w.heap.size 75 3 r n xs) (u0 u1 : Value) :
    ((wi.setCell ⟨w.heap.size + 1, 0, none⟩ u0).setCell ⟨w.heap.size + 1, 1, none⟩ u1).ownsRow w.heap.size 75 3 r n xs ∧ Below w.heap.size w ((wi.setCell ⟨w.heap.size + 1, 0, none⟩ u0).setCell ⟨w.heap.size + 1, 1, none⟩ u1) ∧ ObAt ((wi.setCell ⟨w.heap.size + 1, 0, none⟩ u0).setCell ⟨w.heap.size + 1, 1, none⟩ u1) (w.heap.size + 1) 24 #[u0, u1] ∧ ObAt ((wi.setCell ⟨w.heap.size + 1, 0, none⟩ u0).setCell ⟨w.heap.size + 1, 1, none⟩ u1) w.heap.size 24 #[.int .i64 p, v] := by
  refine ⟨owns_heap ho (fun g e => ?_), h.put u0 u1, (h.2.1.put 0 u0).put 1 u1, (h.1.other (by omega) u0).other (by omega) u1⟩
  have hne : g ≠ w.heap.size + 1 := by
    intro e2
    subst e2
    exact owns_apart (g := w.heap.size + 1) (T := 24) (fr := (0, 0)) h.2.1 (by decide) ho e
  rw [Below.heap_setCell _ _ _ _ hne, Below.heap_setCell _ _ _ _ hne]

def okK (p : Int) (l : List Cl) (k : Int) : Bool := goodP p l && decide (0 ≤ k ∧ k < l.length)
theorem okK_true {p : Int} {l : List Cl} {k : Int} (h : okK p l k = true) : goodP p l = true ∧ 0 ≤ k ∧ k < l.length := by
  simpa [okK] using h

end Go.Proofs.YtbgdngfjeikheaaDoor
