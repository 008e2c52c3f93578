/-
  Leagues: the goals of each team: both sides.
-/
import Derived.Test.YthlkndloggmehaaLgLr
import Derived.Deep.CutRange
namespace Go.Proofs.Ythlkndloggmehaa
open Go.RowKit
set_option linter.unusedVariables false
set_option linter.unusedSimpArgs false

def goalsTo (l : List Rs) (k : Nat) : List (Int × Int) := (List.range k).map fun (i : Nat) => (forL (gamesL l i), agL (gamesL l i))
theorem goalsTo_len (l : List Rs) (k : Nat) : (goalsTo l k).length = k := by simp [goalsTo]
theorem goalsTo_snoc (l : List Rs) (k : Nat) : goalsTo l (k + 1) = goalsTo l k ++ [(forL (gamesL l k), agL (gamesL l k))] := by simp [goalsTo, List.range_succ]
def goalsV (t wn : Int) (l : List Rs) : List (Int × Int) := if goodL t wn l then goalsTo l t.toNat else []
theorem goalsV_len (t wn : Int) (l : List Rs) : (goalsV t wn l).length ≤ 72 := by
  unfold goalsV
  by_cases h : goodL t wn l = true
  · rw [if_pos h, goalsTo_len]; have := goodL_bd h; omega
  · rw [if_neg h]; simp
theorem gTake_bd {t wn : Int} {l : List Rs} (h : goodL t wn l = true) (team : Int) (q : Nat) : (0 ≤ forL (gamesL (l.take q) team) ∧ forL (gamesL (l.take q) team) ≤ 1120) ∧ (0 ≤ agL (gamesL (l.take q) team) ∧ agL (gamesL (l.take q) team) ≤ 1120) := by
  have hs : (gamesL (l.take q) team).Sublist (gamesL l team) := (List.take_sublist q l).filterMap _
  have hm := SmallG.of h team
  have hl : (gamesL (l.take q) team).length ≤ 56 := Nat.le_trans hs.length_le hm.1
  have h1 := sum_bd (fun g : Gm => g.2.1) 20 (by omega) (gamesL (l.take q) team) (fun g hg => (hm.2 g (hs.mem hg)).1)
  have h2 := sum_bd (fun g : Gm => g.2.2) 20 (by omega) (gamesL (l.take q) team) (fun g hg => (hm.2 g (hs.mem hg)).2)
  unfold forL agL
  omega

end Go.Proofs.Ythlkndloggmehaa
