/-
  A struct in a block of its own: its cells read, kept, stored.
-/
import Derived.Test.YtgkkjlpfkoplhaaGreatDoorLgSliceEq
import Derived.Deep.WholeRow
import Derived.Laws.OwnMore
import Derived.Deep.AppendSrc
import Derived.Deep.DeepAppendWide
import Derived.OwnWalk
namespace Go.Proofs.YtgkkjlpfkoplhaaGreatDoor.Lg
open Go.RowKit
set_option linter.unusedVariables false
set_option linter.unusedSimpArgs false

/-- The block g holds these cells, and may be written. -/
def ObAt (w : World) (g : Nat) (T : TypeId) (cs : Array Value) : Prop := w.heap[g]? = some (.cells cs T (0, 0))
theorem ObAt.lt {w : World} {g : Nat} {T : TypeId} {cs : Array Value} (h : ObAt w g T cs) : g < w.heap.size := (Array.getElem?_eq_some_iff.1 h).1
theorem ObAt.cell {w : World} {g : Nat} {T : TypeId} {cs : Array Value} (h : ObAt w g T cs) (k : Nat) : w.cell? ⟨g, k, none⟩ = cs[k]? := cell_of_row w g k _ T _ h
theorem ObAt.free {w : World} {g : Nat} {T : TypeId} {cs : Array Value} (h : ObAt w g T cs) (k : Nat) : w.frozen? ⟨g, k, none⟩ = false := frozen_of_row w g k _ T h
theorem ObAt.keep {w w' : World} {g : Nat} {T : TypeId} {cs : Array Value} (h : ObAt w g T cs) (hb : Below w.heap.size w w') : ObAt w' g T cs := by
  unfold ObAt at *; rw [hb.block _ (Array.getElem?_eq_some_iff.1 h).1]; exact h
theorem ObAt.keepB {w w' : World} {g B : Nat} {T : TypeId} {cs : Array Value} (h : ObAt w g T cs) (hb : Below B w w') (hB : g < B) : ObAt w' g T cs := by
  unfold ObAt at *; rw [hb.block _ hB]; exact h
theorem ObAt.old {w : World} {g : Nat} {T : TypeId} {cs : Array Value} (h : ObAt w g T cs) (o : Obj) : ObAt (w.alloc o) g T cs := by
  unfold ObAt at *; rw [Below.heap_alloc _ _ _ (Array.getElem?_eq_some_iff.1 h).1]; exact h
theorem ObAt.drew {w : World} {g : Nat} {T : TypeId} {cs : Array Value} (h : ObAt w g T cs) : ObAt w.drew g T cs := h
theorem ObAt.drewN {w : World} {g : Nat} {T : TypeId} {cs : Array Value} (h : ObAt w g T cs) (n : Nat) : ObAt (w.drewN n) g T cs := h
theorem ObAt.new (w : World) (T : TypeId) (cs : Array Value) : ObAt (w.alloc (.cells cs T)) w.heap.size T cs := heap_alloc_last w _
theorem ObAt.other {w : World} {g h o : Nat} {T : TypeId} {cs : Array Value} (ht : ObAt w g T cs) (hne : g ≠ h) (v : Value) : ObAt (w.setCell ⟨h, o, none⟩ v) g T cs := by
  unfold ObAt at *; rw [Below.heap_setCell _ _ _ _ hne]; exact ht
theorem ObAt.put {w : World} {g : Nat} {T : TypeId} {cs : Array Value} (h : ObAt w g T cs) (k : Nat) (v : Value) : ObAt (w.setCell ⟨g, k, none⟩ v) g T (cs.setIfInBounds k v) := by
  unfold ObAt at *
  have h0 := setRow_heap w g _ (cs.setIfInBounds k v) _ _ h
  rw [← setCell_eq_setRow w g k _ _ _ _ h] at h0
  exact h0
theorem ObAt.grow {w w' : World} {g : Nat} {T : TypeId} {cs : Array Value} (h : ObAt w g T cs) {T' base n size : Nat} {v : Value} {xs : List Value} (hT : T ≠ T') (ho : w.ownsRow base T' size v n xs) (hg : w.grownBy w' v.ownBlock) : ObAt w' g T cs := by
  have hne : v.ownBlock ≠ some g := by
    obtain ⟨_, ⟨rfl, _⟩ | ⟨g', cap, cur, rfl, _, hh, _⟩⟩ := ho
    · simp [Value.ownBlock]
    · intro e
      simp [Value.ownBlock] at e
      subst e
      unfold ObAt at h
      rw [hh] at h
      injection h with h
      injection h with h1 h2 h3
      exact hT h2.symm
  have hlt := h.lt
  unfold ObAt at *
  rw [hg.block g hlt (fun e => hne e.symm)]; exact h
theorem ObAt.three {w : World} {g : Nat} {T : TypeId} {x y z : Value} (h : ObAt w g T #[x, y, z]) : w.cell? ⟨g, 0, none⟩ = some x ∧ w.cell? ⟨g, 1, none⟩ = some y ∧ w.cell? ⟨g, 2, none⟩ = some z ∧ w.frozen? ⟨g, 0, none⟩ = false ∧ w.frozen? ⟨g, 1, none⟩ = false ∧ w.frozen? ⟨g, 2, none⟩ = false :=
  ⟨h.cell 0, h.cell 1, h.cell 2, h.free 0, h.free 1, h.free 2⟩
theorem ObAt.four {w : World} {g : Nat} {T : TypeId} {x y z t : Value} (h : ObAt w g T #[x, y, z, t]) : w.cell? ⟨g, 0, none⟩ = some x ∧ w.cell? ⟨g, 1, none⟩ = some y ∧ w.cell? ⟨g, 2, none⟩ = some z ∧ w.cell? ⟨g, 3, none⟩ = some t ∧ w.frozen? ⟨g, 0, none⟩ = false ∧ w.frozen? ⟨g, 1, none⟩ = false ∧ w.frozen? ⟨g, 2, none⟩ = false ∧ w.frozen? ⟨g, 3, none⟩ = false :=
  ⟨h.cell 0, h.cell 1, h.cell 2, h.cell 3, h.free 0, h.free 1, h.free 2, h.free 3⟩

theorem Below.ofNew {w : World} (o : Obj) : Below w.heap.size w (w.alloc o) := (Below.refl _ _).alloc (Nat.le_refl _) _

end Go.Proofs.YtgkkjlpfkoplhaaGreatDoor.Lg
