/-
  Goals: NotReached: the model's and the program's.
-/
import Derived.Test.YtooaeafnneikkabGoFew
import Derived.Test.YtooaeafnneikkabGoLawS
namespace Go.Proofs.Ytooaeafnneikkab
open Go.RowKit
set_option linter.unusedVariables false
set_option linter.unusedSimpArgs false

def OutAt (ks : List Int) (B : Nat) (w : World) (k : Nat) (v : Value) (wr : World) : Prop := wr.ownsRow B 3 1 v (outG ks k).length (ints (outG ks k)) ∧ Below w.heap.size w wr
theorem row_grown {B : Nat} {w w2 w3 : World} {T : TypeId} {v : Value} {n : Nat} {xs : List Value} {x : Value} (h : w2.ownsRow B T 1 v n xs) (hb : B ≤ w2.heap.size) (hbel : Below B w w2) (t : TypeId) (hg : (w2.alloc (.cells #[x] t)).grownBy w3 v.ownBlock) : Below B w w3 :=
  (hbel.alloc hb _).grown hg (by simp; omega) (fun g hg => by
    obtain ⟨_, h | ⟨g', cap, cur, hv, hb', _⟩⟩ := h
    · rw [h.1] at hg; cases hg
    · rw [hv] at hg; simp [Value.ownBlock] at hg; omega)
theorem new_cell (w : World) (x : Int) (t : TypeId) : ∀ j' u, ([.int .i64 x] : List Value)[j']? = some u → (w.alloc (.cells #[.int .i64 x] t)).cell? ((⟨w.heap.size, 0, none⟩ : Addr).add j') = some u := by
  intro j' u hu
  have e0 : j' = 0 := by have := (List.getElem?_eq_some_iff.1 hu).1; simp at this; omega
  subst e0
  simp at hu; subst hu
  rw [add_zero_addr]
  exact cell_of_row _ _ 0 _ _ _ (heap_alloc_last w _)

def askR (ks : List Int) (s : Int) : List Int := if askedG ks s = true then outG ks (s.toNat + 1) else []

theorem askR_len (ks : List Int) (s : Int) : ((askR ks s).length : Int) ≤ 1000 := by
  unfold askR
  split
  · rename_i h
    obtain ⟨m, rfl, hm, _⟩ := asked_nat h
    have := outG_len ks ((m : Int).toNat + 1)
    omega
  · simp
end Go.Proofs.Ytooaeafnneikkab
