/-
  Slices of darts in the laws: counted, copied from the mirror, compared.
-/
import Derived.Test.YtjiigljoekhljaaDoorBase
import Derived.WalkSmall
import Derived.IntWalk
import Derived.Test.YtjiigljoekhljaaDoorDartStruct
import Derived.Deep.RegionHeld3
namespace Go.Proofs.YtjiigljoekhljaaDoor
open Go.RowKit

def darts (l : List (Int × Int)) : List Value := l.flatMap fun d => [.int .i64 d.1, .int .i64 d.2]
theorem darts_len (l : List (Int × Int)) : (darts l).length = 2 * l.length := by
  induction l with
  | nil => rfl
  | cons d l ih => simp only [darts, List.flatMap_cons, List.length_append] at *; simp at *; omega
theorem darts_append (l m : List (Int × Int)) : darts (l ++ m) = darts l ++ darts m := by simp [darts]
theorem darts_get : ∀ (l : List (Int × Int)) (j : Nat), j < l.length → (darts l)[j * 2]? = some (.int .i64 (l.getD j (0, 0)).1) ∧ (darts l)[j * 2 + 1]? = some (.int .i64 (l.getD j (0, 0)).2)
  | d :: l, 0, _ => by simp [darts]
  | d :: l, j + 1, h => by
    have := darts_get l j (by simpa using h)
    simp only [darts, List.flatMap_cons] at *
    rw [show (j + 1) * 2 = j * 2 + 1 + 1 from by omega]
    simpa using this

theorem dcells_of_reads {w : World} {a : Option Addr} {l : List (Int × Int)} (h : Reads w a (darts l)) (hne : 0 < l.length) :
    ∃ b off, a = some ⟨b, off, none⟩ ∧ b < w.heap.size ∧ ∀ j, j < l.length → w.cell? ⟨b, off + j * 2, none⟩ = some (.int .i64 (l.getD j (0, 0)).1) ∧ w.cell? ⟨b, off + j * 2 + 1, none⟩ = some (.int .i64 (l.getD j (0, 0)).2) := by
  rcases h with h | ⟨b, off, rfl, hlt, hc⟩
  · have := congrArg List.length h; rw [darts_len] at this; simp at this; omega
  · refine ⟨b, off, rfl, hlt, fun j hj => ?_⟩
    have := darts_len l
    obtain ⟨g0, g1⟩ := darts_get l j hj
    exact ⟨by rw [hc (j * 2) (by omega), g0], by rw [Nat.add_assoc, hc (j * 2 + 1) (by omega), g1]⟩

/-- A block of the call's own, 'tot' cells that may be written, the first of which are 'cs'. -/
def Filled (w : World) (g tot : Nat) (cs : List Value) : Prop :=
  g < w.heap.size ∧ (∀ j, j < tot → (w.cell? ⟨g, j, none⟩).isSome = true ∧ w.frozen? ⟨g, j, none⟩ = false) ∧ ∀ j, j < cs.length → w.cell? ⟨g, j, none⟩ = cs[j]?

theorem Filled.keep {w w' : World} {g tot : Nat} {cs : List Value} (h : Filled w g tot cs) (hb : Below w.heap.size w w') : Filled w' g tot cs := by
  obtain ⟨h1, h2, h3⟩ := h
  exact ⟨Nat.lt_of_lt_of_le h1 hb.size, fun j hj => by rw [hb.cell (p := ⟨g, j, none⟩) h1, hb.frozen (p := ⟨g, j, none⟩) h1]; exact h2 j hj, fun j hj => by rw [hb.cell (p := ⟨g, j, none⟩) h1]; exact h3 j hj⟩

theorem Filled.put {w : World} {g tot : Nat} {cs : List Value} (h : Filled w g tot cs) (v : Value) (hlt : cs.length < tot) : Filled (w.setCell ⟨g, cs.length, none⟩ v) g tot (cs ++ [v]) := by
  obtain ⟨h1, h2, h3⟩ := h
  have same : ∀ u, w.cell? ⟨g, cs.length, none⟩ = some u → (w.setCell ⟨g, cs.length, none⟩ v).cell? ⟨g, cs.length, none⟩ = some v := fun u hu => World.cell?_setCell_same _ _ _ hu
  obtain ⟨u, hu⟩ := Option.isSome_iff_exists.1 (h2 cs.length hlt).1
  have other : ∀ j, j ≠ cs.length → (w.setCell ⟨g, cs.length, none⟩ v).cell? ⟨g, j, none⟩ = w.cell? ⟨g, j, none⟩ := fun j hj => World.cell?_setCell_other _ _ _ _ (by intro e; injection e; omega)
  refine ⟨by simpa using h1, fun j hj => ⟨?_, by rw [World.frozen?_setCell]; exact (h2 j hj).2⟩, fun j hj => ?_⟩
  · by_cases e : j = cs.length
    · subst e; rw [same u hu]; rfl
    · rw [other j e]; exact (h2 j hj).1
  · simp at hj
    by_cases e : j = cs.length
    · subst e; rw [same u hu]; simp
    · rw [other j e, h3 j (by omega), List.getElem?_append_left (by omega)]

theorem Filled.reads {w : World} {g tot : Nat} {cs : List Value} (h : Filled w g tot cs) : Reads w (some ⟨g, 0, none⟩) cs :=
  .inr ⟨g, 0, rfl, h.1, fun j hj => by rw [Nat.zero_add]; exact h.2.2 j hj⟩
theorem Filled.writable {w : World} {g tot : Nat} {cs : List Value} (h : Filled w g tot cs) : Writable w (some ⟨g, 0, none⟩) tot :=
  .inr ⟨g, 0, rfl, h.1, fun j hj => by rw [Nat.zero_add]; exact h.2.1 j hj⟩

theorem Filled.made {w : World} {base g n c size : Nat} {e : TypeId} {xs : List Value} (h : w.ownsRow base e size (.slice (some ⟨g, 0, none⟩) n c) n xs) : Filled w g (n * size) [] := by
  obtain ⟨hl, h | ⟨g', cap, cur, hv, hg, hh, hn, hcap, hcs, htk⟩⟩ := h
  · exact absurd h.1 (by simp)
  · cases hv
    refine ⟨(Array.getElem?_eq_some_iff.1 hh).1, fun j hj => ⟨?_, frozen_of_row w g _ cur e hh⟩, fun j hj => absurd hj (by simp)⟩
    have : n * size ≤ cur.size := by rw [hcs]; exact Nat.mul_le_mul_right _ hn
    rw [cell_of_row w g _ cur e _ hh, Array.getElem?_eq_getElem (by omega)]; rfl

def szN (k : Int) (n : Nat) : Int := if k < n then -1 else k - n

theorem infoDart : (Tryd.prog.info? 69).map (fun i => (i.zero, i.size, i.bytes)) = some (some (.agg #[.int .i64 0, .int .i64 0]), 2, 16) := by kernel_rfl

end Go.Proofs.YtjiigljoekhljaaDoor
