/-
  Leagues: LeftResults as the law asks it.
-/
import Derived.Test.YthbkclgdoopbpaaLgLeftS
namespace Go.Proofs.Ythbkclgdoopbpaa
open Go.RowKit
set_option linter.unusedVariables false
set_option linter.unusedSimpArgs false

def leftV (t wn : Int) (l : List Rs) : List (Int × Int) := if goodL t wn l then leftL t.toNat l else []
theorem leftV_len (t wn : Int) (l : List Rs) : (leftV t wn l).length ≤ 72 := by
  unfold leftV
  by_cases h : goodL t wn l = true
  · rw [if_pos h, ← leftTo_all]
    have := goodL_bd h
    exact leftTo_len _ (by omega) l _ 0 (Nat.le_refl _) (by omega)
  · rw [if_neg h]; simp
theorem rows2_ok (L : List (Int × Int)) (h : L.length ≤ 72) : SmallD (rows2 L) ∧ ∀ j, j < (rows2 L).length → ((rows2 L).getD j []).length ≤ 3 := by
  have h2 : ∀ j, j < (rows2 L).length → ((rows2 L).getD j []).length = 2 := fun j hj => by
    rw [rows2_len] at hj
    rw [rows2_get L hj]; rfl
  exact ⟨⟨by rw [rows2_len]; omega, fun j hj => by rw [h2 j hj]; omega⟩, fun j hj => by rw [h2 j hj]; omega⟩
end Go.Proofs.Ythbkclgdoopbpaa
