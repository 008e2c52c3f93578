/-
  Goals: the model's table of the fewest goals.
-/
import Derived.Test.YtooaeafnneikkabGoRow
namespace Go.Proofs.Ytooaeafnneikkab
open Go.RowKit
set_option linter.unusedVariables false
set_option linter.unusedSimpArgs false

theorem snoc_get (l : List Int) (x : Int) (r : List Int) : (l ++ x :: r).getD l.length 0 = x := by simp
theorem pre_get (l : List Int) (r : List Int) {j : Nat} (h : j < l.length) : (l ++ r).getD j 0 = l.getD j 0 := by
  rw [List.getD_eq_getElem?_getD, List.getD_eq_getElem?_getD, List.getElem?_append_left h]
theorem set_at (l : List Int) (x y : Int) (r : List Int) : (l ++ x :: r).set l.length y = l ++ y :: r := by simp

def FewAt (ks : List Int) (w : World) (m k : Nat) (wr : World) : Prop := RowAt wr w.heap.size 3 (tabM ks k ++ List.replicate (m - k) 0) ∧ Below w.heap.size w wr
def FewIn (ks : List Int) (w : World) (m k : Nat) (o : Int) (wr : World) : Prop := RowAt wr w.heap.size 3 (tabM ks k ++ o :: List.replicate (m - k - 1) 0) ∧ Below w.heap.size w wr

theorem FewIn.put {ks : List Int} {w : World} {m k : Nat} {o : Int} {wr : World} (h : FewIn ks w m k o wr) (x : Int) : FewIn ks w m k x (wr.setCell ⟨w.heap.size, k + 1, none⟩ (.int .i64 x)) := by
  have hl := tabM_len ks k
  refine ⟨?_, h.2.setCell (Nat.le_refl _) _⟩
  have := h.1.put (j := k + 1) (by simp [hl]) x
  rw [← hl, set_at] at this
  rw [← hl]; exact this
theorem FewAt.begin {ks : List Int} {w : World} {m k : Nat} {wr : World} (h : FewAt ks w m k wr) (hk : k < m) : FewIn ks w m k 0 wr := by
  refine ⟨?_, h.2⟩
  have := h.1
  rwa [show m - k = (m - k - 1) + 1 by omega, List.replicate_succ] at this
theorem FewIn.end {ks : List Int} {w : World} {m k : Nat} {o : Int} {wr : World} (h : FewIn ks w m k o wr) (he : o = nextM ks (tabM ks k) ((k + 1 : Nat) : Int)) : FewAt ks w m (k + 1) wr := by
  refine ⟨?_, h.2⟩
  have := h.1
  rw [show tabM ks (k + 1) = tabM ks k ++ [o] by rw [he]; rfl, List.append_assoc, List.singleton_append, show m - (k + 1) = m - k - 1 by omega]
  exact this
theorem FewIn.here {ks : List Int} {w : World} {m k : Nat} {o : Int} {wr : World} (h : FewIn ks w m k o wr) : wr.cell? ⟨w.heap.size, k + 1, none⟩ = some (.int .i64 o) := by
  have hl := tabM_len ks k
  have := h.1.cell (j := k + 1) (by simp [hl])
  rw [← hl] at this ⊢
  rw [snoc_get] at this
  exact this
theorem FewIn.before {ks : List Int} {w : World} {m k : Nat} {o : Int} {wr : World} (h : FewIn ks w m k o wr) {n : Nat} (hn : n ≤ k) : wr.cell? ⟨w.heap.size, n, none⟩ = some (.int .i64 ((tabM ks k).getD n 0)) := by
  have hl := tabM_len ks k
  have := h.1.cell (j := n) (by simp [hl]; omega)
  rwa [pre_get _ _ (by omega)] at this

theorem FewIn.draw {ks : List Int} {w : World} {m k : Nat} {o : Int} {wr : World} (h : FewIn ks w m k o wr) (n : Nat) : FewIn ks w m k o (wr.drewN n) := ⟨h.1, below_drewN h.2 n⟩
end Go.Proofs.Ytooaeafnneikkab
