/-
  Slices of results in the laws: counted, copied from the mirror; a league copied.
-/
import Derived.Test.YtgkkjlpfkoplhaaDoorLgMath
import Derived.Test.YtgkkjlpfkoplhaaDoorSliceInt
import Derived.WalkSmall
import Derived.IntWalk
import Derived.Deep.RegionHeld3
namespace Go.Proofs.YtgkkjlpfkoplhaaDoor
open Go.RowKit
set_option linter.unusedVariables false
set_option linter.unusedSimpArgs false

def flatR (l : List Rs) : List Int := l.flatMap fun r => [r.1, r.2.1, r.2.2.1, r.2.2.2]
def ress (l : List Rs) : List Value := ints (flatR l)
theorem flatR_len (l : List Rs) : (flatR l).length = 4 * l.length := by
  induction l with
  | nil => rfl
  | cons d l ih => simp only [flatR, List.flatMap_cons, List.length_append] at *; simp at *; omega
theorem ress_len (l : List Rs) : (ress l).length = 4 * l.length := by rw [ress, ints_len, flatR_len]
theorem ress_append (l m : List Rs) : ress (l ++ m) = ress l ++ ress m := by simp [ress, flatR, ints]
theorem ress_get : ∀ (l : List Rs) (j : Nat), j < l.length → (ress l)[j * 4]? = some (.int .i64 (l.getD j zR).1) ∧ (ress l)[j * 4 + 1]? = some (.int .i64 (l.getD j zR).2.1) ∧ (ress l)[j * 4 + 2]? = some (.int .i64 (l.getD j zR).2.2.1) ∧ (ress l)[j * 4 + 3]? = some (.int .i64 (l.getD j zR).2.2.2)
  | d :: l, 0, _ => by simp [ress, flatR, ints]
  | d :: l, j + 1, h => by
    have := ress_get l j (by simpa using h)
    simp only [ress, flatR, ints, List.flatMap_cons, List.map_append] at *
    rw [show (j + 1) * 4 = j * 4 + 1 + 1 + 1 + 1 from by omega]
    simpa using this

theorem rcells_of_reads {w : World} {a : Option Addr} {l : List Rs} (h : Reads w a (ress l)) (hne : 0 < l.length) :
    ∃ b off, a = some ⟨b, off, none⟩ ∧ b < w.heap.size ∧ ∀ j, j < l.length → w.cell? ⟨b, off + j * 4, none⟩ = some (.int .i64 (l.getD j zR).1) ∧ w.cell? ⟨b, off + j * 4 + 1, none⟩ = some (.int .i64 (l.getD j zR).2.1) ∧ w.cell? ⟨b, off + j * 4 + 2, none⟩ = some (.int .i64 (l.getD j zR).2.2.1) ∧ w.cell? ⟨b, off + j * 4 + 3, none⟩ = some (.int .i64 (l.getD j zR).2.2.2) := by
  rcases h with h | ⟨b, off, rfl, hlt, hc⟩
  · have := congrArg List.length h; rw [ress_len] at this; simp at this; omega
  · refine ⟨b, off, rfl, hlt, fun j hj => ?_⟩
    have := ress_len l
    obtain ⟨g0, g1, g2, g3⟩ := ress_get l j hj
    exact ⟨by rw [hc (j * 4) (by omega), g0], by rw [Nat.add_assoc, hc (j * 4 + 1) (by omega), g1], by rw [Nat.add_assoc, hc (j * 4 + 2) (by omega), g2], by rw [Nat.add_assoc, hc (j * 4 + 3) (by omega), g3]⟩

/-- A block of the call's own, 'tot' cells that may be written, the first of which are 'cs'. -/
def Filled (w : World) (g tot : Nat) (cs : List Value) : Prop :=
  g < w.heap.size ∧ (∀ j, j < tot → (w.cell? ⟨g, j, none⟩).isSome = true ∧ w.frozen? ⟨g, j, none⟩ = false) ∧ ∀ j, j < cs.length → w.cell? ⟨g, j, none⟩ = cs[j]?

theorem Filled.keep {w w' : World} {g tot : Nat} {cs : List Value} (h : Filled w g tot cs) (hb : Below w.heap.size w w') : Filled w' g tot cs := by
  obtain ⟨h1, h2, h3⟩ := h
  exact ⟨Nat.lt_of_lt_of_le h1 hb.size, fun j hj => by rw [hb.cell (p := ⟨g, j, none⟩) h1, hb.frozen (p := ⟨g, j, none⟩) h1]; exact h2 j hj, fun j hj => by rw [hb.cell (p := ⟨g, j, none⟩) h1]; exact h3 j hj⟩

theorem Filled.put {w : World} {g tot : Nat} {cs : List Value} (h : Filled w g tot cs) (v : Value) (hlt : cs.length < tot) : Filled (w.setCell ⟨g, cs.length, none⟩ v) g tot (cs ++ [v]) := by
  obtain ⟨h1, h2, h3⟩ := h
  have same : ∀ u, w.cell? ⟨g, cs.length, none⟩ = some u → (w.setCell ⟨g, cs.length, none⟩ v).cell? ⟨g, cs.length, none⟩ = some v := fun u hu => World.cell?_setCell_same _ _ _ hu
  obtain ⟨u, hu⟩ := Option.isSome_iff_exists.1 (h2 cs.length hlt).1
  have other : ∀ j, j ≠ cs.length → (w.setCell ⟨g, cs.length, none⟩ v).cell? ⟨g, j, none⟩ = w.cell? ⟨g, j, none⟩ := fun j hj => World.cell?_setCell_other _ _ _ _ (by intro e; injection e; omega)
  refine ⟨by simpa using h1, fun j hj => ⟨?_, by rw [World.frozen?_setCell]; exact (h2 j hj).2⟩, fun j hj => ?_⟩
  · by_cases e : j = cs.length
    · subst e; rw [same u hu]; rfl
    · rw [other j e]; exact (h2 j hj).1
  · simp at hj
    by_cases e : j = cs.length
    · subst e; rw [same u hu]; simp
    · rw [other j e, h3 j (by omega), List.getElem?_append_left (by omega)]

theorem Filled.other {w : World} {g h o tot : Nat} {cs : List Value} (hf : Filled w g tot cs) (hne : g ≠ h) (v : Value) : Filled (w.setCell ⟨h, o, none⟩ v) g tot cs := by
  obtain ⟨h1, h2, h3⟩ := hf
  have hk : ∀ j, (w.setCell ⟨h, o, none⟩ v).cell? ⟨g, j, none⟩ = w.cell? ⟨g, j, none⟩ := fun j => World.cell?_setCell_other _ _ _ _ (by intro e; injection e; omega)
  exact ⟨by simpa using h1, fun j hj => ⟨by rw [hk]; exact (h2 j hj).1, by rw [World.frozen?_setCell]; exact (h2 j hj).2⟩, fun j hj => by rw [hk]; exact h3 j hj⟩
theorem Filled.reads {w : World} {g tot : Nat} {cs : List Value} (h : Filled w g tot cs) : Reads w (some ⟨g, 0, none⟩) cs :=
  .inr ⟨g, 0, rfl, h.1, fun j hj => by rw [Nat.zero_add]; exact h.2.2 j hj⟩
theorem Filled.writable {w : World} {g tot : Nat} {cs : List Value} (h : Filled w g tot cs) : Writable w (some ⟨g, 0, none⟩) tot :=
  .inr ⟨g, 0, rfl, h.1, fun j hj => by rw [Nat.zero_add]; exact h.2.1 j hj⟩

theorem Filled.made {w : World} {base g n c size : Nat} {e : TypeId} {xs : List Value} (h : w.ownsRow base e size (.slice (some ⟨g, 0, none⟩) n c) n xs) : Filled w g (n * size) [] := by
  obtain ⟨hl, h | ⟨g', cap, cur, hv, hg, hh, hn, hcap, hcs, htk⟩⟩ := h
  · exact absurd h.1 (by simp)
  · cases hv
    refine ⟨(Array.getElem?_eq_some_iff.1 hh).1, fun j hj => ⟨?_, frozen_of_row w g _ cur e hh⟩, fun j hj => absurd hj (by simp)⟩
    have : n * size ≤ cur.size := by rw [hcs]; exact Nat.mul_le_mul_right _ hn
    rw [cell_of_row w g _ cur e _ hh, Array.getElem?_eq_getElem (by omega)]; rfl

def szN (k : Int) (n : Nat) : Int := if k < n then -1 else k - n

theorem infoResult : (Tryd.prog.info? 50).map (fun i => (i.zero, i.size, i.bytes)) = some (some (.agg #[.int .i64 0, .int .i64 0, .int .i64 0, .int .i64 0]), 4, 32) := by kernel_rfl

end Go.Proofs.YtgkkjlpfkoplhaaDoor
