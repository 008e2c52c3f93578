/-
  Leagues: the most points that a team can have: both sides.
-/
import Derived.Test.YthlkndloggmehaaLgGoals
namespace Go.Proofs.Ythlkndloggmehaa
open Go.RowKit
set_option linter.unusedVariables false
set_option linter.unusedSimpArgs false

def mostV (t wn : Int) (l : List Rs) (team : Int) : Int := if teamL t wn l team then ptsT wn l team + (cntT t.toNat l team : Int) * wn else 0

/-- The j-th row, as it is read. -/
theorem PairD.row2 {B : Nat} {l : List (Int × Int)} {v : Value} {wr : World} (h : PairD B l v wr) {j : Nat} (hj : j < l.length) :
    ∃ go cap g c, v = .slice (some ⟨go, 0, none⟩) l.length cap ∧ wr.cell? ⟨go, j, none⟩ = some (.slice (some ⟨g, 0, none⟩) 2 c) ∧ Reads wr (some ⟨g, 0, none⟩) (ints [(l.getD j (0, 0)).1, (l.getD j (0, 0)).2]) := by
  obtain ⟨go, cap, g, c, hv, h0, h1, h2⟩ := h.row hj
  refine ⟨go, cap, g, c, hv, h0, .inr ⟨g, 0, rfl, World.block_lt_of_cell? wr _ h1, fun i hi => ?_⟩⟩
  simp [ints] at hi
  rcases (show i = 0 ∨ i = 1 by omega) with rfl | rfl
  · rw [h1]; rfl
  · rw [h2]; rfl
theorem PairD.slice {B : Nat} {l : List (Int × Int)} {v : Value} {wr : World} (h : PairD B l v wr) : ∃ a cap, v = .slice a l.length cap := by
  obtain ⟨vs, h1, -⟩ := h
  obtain ⟨a, c, e, -⟩ := own_cap h1
  exact ⟨a, c, e⟩
theorem cnt_snoc (L : List (Int × Int)) (k : Nat) (hk : k < L.length) (team : Int) : (L.take (k + 1)).countP (hasT team) = (L.take k).countP (hasT team) + if hasT team (L.getD k (0, 0)) then 1 else 0 := by
  rw [take_snoc (0, 0) L k hk, List.countP_append, List.countP_cons, List.countP_nil, Nat.zero_add]

end Go.Proofs.Ythlkndloggmehaa
