/-
  Leagues: CountFirsts and CanBeFirst: both sides.
-/
import Derived.Test.YthlkndloggmehaaLgFsJ
namespace Go.Proofs.Ythlkndloggmehaa
open Go.RowKit
set_option linter.unusedVariables false
set_option linter.unusedSimpArgs false

def openL (t wn : Int) (l : List Rs) (team : Int) : Bool := teamL t wn l team && decide (((leftL t.toNat l).length : Int) ≤ 7)
def firstV (t wn : Int) (l : List Rs) (team : Int) : Int := if openL t wn l team then waysN t.toNat wn team (leftL t.toNat l) (fun i => ptsT wn l i) else 0
theorem left_good (T : Nat) (l : List Rs) : ∀ p ∈ leftL T l, GoodP T p := by
  intro p hp
  simp only [leftL, List.mem_filter] at hp
  obtain ⟨h1, h2⟩ := hp
  obtain ⟨h3, h4⟩ := prs_mem_bd h1
  simp only [leftB, Bool.and_eq_true, decide_eq_true_eq] at h2
  exact ⟨h3, h4, h2.1⟩
theorem pts_small {wn : Int} (hw : 2 ≤ wn ∧ wn ≤ 3) (l : List Rs) (h : l.length ≤ 56) {n : Nat} (hn : n ≤ 7) (i : Int) : 0 ≤ ptsT wn l i ∧ ptsT wn l i ≤ 300 - 3 * (n : Int) := by
  have := ptsT_bd hw l i
  omega

end Go.Proofs.Ythlkndloggmehaa
