/-
  Tennis: game orders: the table.
-/
import Derived.Test.YtaplkciomagmiabToWith
namespace Go.Proofs.Ytaplkciomagmiab
open Go.RowKit
set_option linter.unusedVariables false
set_option linter.unusedSimpArgs false

def cellsG (t : List (Nat × List UInt8)) : List Value := t.flatMap fun g => [.int .i64 (g.1 : Int), .string ⟨g.2.toArray⟩]
theorem cellsG_cons (g : Nat × List UInt8) (t : List (Nat × List UInt8)) : cellsG (g :: t) = .int .i64 (g.1 : Int) :: .string ⟨g.2.toArray⟩ :: cellsG t := by simp [cellsG]
theorem cellsG_len : ∀ t : List (Nat × List UInt8), (cellsG t).length = 2 * t.length
  | [] => rfl
  | g :: t => by rw [cellsG_cons, List.length_cons, List.length_cons, cellsG_len t, List.length_cons]; omega
theorem cellsG_get : ∀ (t : List (Nat × List UInt8)) (i : Nat), i < t.length → (cellsG t)[2 * i]? = some (.int .i64 ((tg t i).1 : Int)) ∧ (cellsG t)[2 * i + 1]? = some (.string ⟨(tg t i).2.toArray⟩)
  | [], i, h => by simp at h
  | g :: t, 0, h => by rw [cellsG_cons]; simp [tg]
  | g :: t, i + 1, h => by
    have := cellsG_get t i (by simpa using h)
    rw [cellsG_cons, show 2 * (i + 1) = 2 * i + 2 from by omega, show 2 * i + 2 + 1 = 2 * i + 1 + 2 from by omega]
    simpa [tg] using this
theorem cellsG_set : ∀ (t : List (Nat × List UInt8)) (i : Nat) (g : Nat × List UInt8), ((cellsG t).set (2 * i) (.int .i64 (g.1 : Int))).set (2 * i + 1) (.string ⟨g.2.toArray⟩) = cellsG (t.set i g)
  | [], i, g => by simp [cellsG]
  | h :: t, 0, g => by
    rw [show (h :: t).set 0 g = g :: t from rfl, cellsG_cons, cellsG_cons]; rfl
  | h :: t, i + 1, g => by
    have := cellsG_set t i g
    rw [show (h :: t).set (i + 1) g = h :: t.set i g from rfl, cellsG_cons, cellsG_cons, ← this, show 2 * (i + 1) = 2 * i + 1 + 1 from by omega, show 2 * i + 1 + 1 + 1 = (2 * i + 1) + 1 + 1 from rfl]
    simp only [List.set_cons_succ]
/-- The block g holds this table. -/
def TabAt (w : World) (g : Nat) (t : List (Nat × List UInt8)) : Prop := w.heap[g]? = some (.cells (cellsG t).toArray 46 (0, 0))
theorem TabAt.lt {w : World} {g : Nat} {t : List (Nat × List UInt8)} (h : TabAt w g t) : g < w.heap.size := (Array.getElem?_eq_some_iff.1 h).1
theorem TabAt.keep {w w' : World} {g : Nat} {t : List (Nat × List UInt8)} (h : TabAt w g t) (hb : Below w.heap.size w w') : TabAt w' g t := by
  unfold TabAt at *; rw [hb.block _ (Array.getElem?_eq_some_iff.1 h).1]; exact h
theorem TabAt.other {w : World} {g h o : Nat} {t : List (Nat × List UInt8)} (ht : TabAt w g t) (hne : g ≠ h) (v : Value) : TabAt (w.setCell ⟨h, o, none⟩ v) g t := by
  unfold TabAt at *; rw [Below.heap_setCell _ _ _ _ hne]; exact ht
theorem TabAt.cell {w : World} {g : Nat} {t : List (Nat × List UInt8)} (h : TabAt w g t) {i : Nat} (hi : i < t.length) :
    w.cell? ⟨g, 2 * i, none⟩ = some (.int .i64 ((tg t i).1 : Int)) ∧ w.cell? ⟨g, 2 * i + 1, none⟩ = some (.string ⟨(tg t i).2.toArray⟩) ∧ w.frozen? ⟨g, 2 * i, none⟩ = false ∧ w.frozen? ⟨g, 2 * i + 1, none⟩ = false := by
  have hc := cellsG_get t i hi
  exact ⟨by rw [cell_of_row _ _ _ _ _ _ h, List.getElem?_toArray]; exact hc.1, by rw [cell_of_row _ _ _ _ _ _ h, List.getElem?_toArray]; exact hc.2, frozen_of_row _ _ _ _ _ h, frozen_of_row _ _ _ _ _ h⟩
theorem TabAt.put {w : World} {g : Nat} {t : List (Nat × List UInt8)} (h : TabAt w g t) (i : Nat) (x : Nat × List UInt8) :
    TabAt ((w.setCell ⟨g, 2 * i, none⟩ (.int .i64 (x.1 : Int))).setCell ⟨g, 2 * i + 1, none⟩ (.string ⟨x.2.toArray⟩)) g (t.set i x) := by
  unfold TabAt at *
  have hs : g < w.heap.size := (Array.getElem?_eq_some_iff.1 h).1
  have hv := (Array.getElem?_eq_some_iff.1 h).2
  rw [← cellsG_set]
  simp only [World.setCell]
  rw [Array.getElem?_eq_getElem (by simpa using hs), Array.getElem_modify_self, Array.getElem_modify_self, hv]
  simp
theorem TabAt.at {w : World} {g : Nat} {t : List (Nat × List UInt8)} (h : TabAt w g t) (ht : t.length = 64) {x y : Nat} (hx : x < 8) (hy : y < 8) :
    w.cell? ⟨g, x * 16 + y * 2, none⟩ = some (.int .i64 ((tg t (8 * x + y)).1 : Int)) ∧ w.cell? ⟨g, x * 16 + y * 2 + 1, none⟩ = some (.string ⟨(tg t (8 * x + y)).2.toArray⟩) ∧ w.frozen? ⟨g, x * 16 + y * 2, none⟩ = false ∧ w.frozen? ⟨g, x * 16 + y * 2 + 1, none⟩ = false := by
  have := h.cell (i := 8 * x + y) (by omega)
  rw [show 2 * (8 * x + y) = x * 16 + y * 2 from by omega] at this
  exact this
theorem TabAt.put2 {w : World} {g : Nat} {t : List (Nat × List UInt8)} (h : TabAt w g t) (x y : Nat) (v : Nat × List UInt8) :
    TabAt ((w.setCell ⟨g, x * 16 + y * 2, none⟩ (.int .i64 (v.1 : Int))).setCell ⟨g, x * 16 + y * 2 + 1, none⟩ (.string ⟨v.2.toArray⟩)) g (t.set (8 * x + y) v) := by
  have := h.put (8 * x + y) v
  rw [show 2 * (8 * x + y) = x * 16 + y * 2 from by omega] at this
  exact this
set_option maxRecDepth 100000 in
theorem zero_tab : Try.zeroCells46 = (cellsG (List.replicate 64 (0, []))).toArray := by kernel_rfl
end Go.Proofs.Ytaplkciomagmiab
