/-
  Slices of ints in the laws: compared, marked, held against the marks.
-/
import Derived.Test.YtbbojebonknklaaBase
import Derived.WalkSmall
import Derived.IntWalk
namespace Go.Proofs.Ytbbojebonknklaa
open Go.RowKit

def ints (l : List Int) : List Value := l.map (Value.int .i64)
theorem ints_len (l : List Int) : (ints l).length = l.length := by simp [ints]
theorem ints_get (l : List Int) (j : Nat) (h : j < l.length) : (ints l)[j]? = some (.int .i64 (l.getD j 0)) := by simp [ints, h]

theorem take_eq_of_step {l m : List Int} {k : Nat} (h : l.take k = m.take k) (h1 : k < l.length) (h2 : k < m.length) (e : l.getD k 0 = m.getD k 0) : l.take (k + 1) = m.take (k + 1) := by
  rw [List.take_succ_eq_append_getElem h1, List.take_succ_eq_append_getElem h2, h]
  simp [h1, h2] at e
  rw [e]

theorem cells_of_reads {w : World} {a : Option Addr} {l : List Int} (h : Reads w a (ints l)) (hne : 0 < l.length) :
    ∃ b off, a = some ⟨b, off, none⟩ ∧ b < w.heap.size ∧ ∀ j, j < l.length → w.cell? ⟨b, off + j, none⟩ = some (.int .i64 (l.getD j 0)) := by
  rcases h with h | ⟨b, off, rfl, hlt, hc⟩
  · have := congrArg List.length h; simp [ints] at this; rw [this] at hne; exact absurd hne (by simp)
  · exact ⟨b, off, rfl, hlt, fun j hj => by rw [hc j (by rw [ints_len]; exact hj), ints_get _ _ hj]⟩

def SameB (l m : List Int) : Bool := decide (l = m)

end Go.Proofs.Ytbbojebonknklaa
