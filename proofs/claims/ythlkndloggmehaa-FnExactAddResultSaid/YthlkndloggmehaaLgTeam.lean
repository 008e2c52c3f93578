/-
  Leagues: a league and a team of it; the games of a team (the program's).
-/
import Derived.Test.YthlkndloggmehaaLgGood
import Derived.OwnWalk
import Derived.Maps.AppendAt
namespace Go.Proofs.Ythlkndloggmehaa
open Go.RowKit
set_option linter.unusedVariables false
set_option linter.unusedSimpArgs false

def teamL (t wn : Int) (l : List Rs) (team : Int) : Bool := goodL t wn l && inR team 0 (t - 1)
theorem teamL_good {t wn : Int} {l : List Rs} {team : Int} (h : teamL t wn l team = true) : goodL t wn l = true ∧ 0 ≤ team ∧ team < t := by
  simp only [teamL, Bool.and_eq_true] at h
  obtain ⟨h1, h2⟩ := h
  simp [inR] at h2
  exact ⟨h1, by omega, by omega⟩

/-- The cells of games. -/
def flatM (gs : List Gm) : List Int := gs.flatMap fun g => [g.1, g.2.1, g.2.2]
def gmc (gs : List Gm) : List Value := ints (flatM gs)
theorem flatM_len (gs : List Gm) : (flatM gs).length = 3 * gs.length := by
  induction gs with
  | nil => rfl
  | cons d l ih => simp only [flatM, List.flatMap_cons, List.length_append] at *; simp at *; omega
theorem gmc_len (gs : List Gm) : (gmc gs).length = 3 * gs.length := by rw [gmc, ints_len, flatM_len]
theorem gmc_append (a b : List Gm) : gmc (a ++ b) = gmc a ++ gmc b := by simp [gmc, flatM, ints]
theorem gmc_get : ∀ (l : List Gm) (j : Nat), j < l.length → (gmc l)[j * 3]? = some (.int .i64 (l.getD j zG).1) ∧ (gmc l)[j * 3 + 1]? = some (.int .i64 (l.getD j zG).2.1) ∧ (gmc l)[j * 3 + 2]? = some (.int .i64 (l.getD j zG).2.2)
  | d :: l, 0, _ => by simp [gmc, flatM, ints]
  | d :: l, j + 1, h => by
    have := gmc_get l j (by simpa using h)
    simp only [gmc, flatM, ints, List.flatMap_cons, List.map_append] at *
    rw [show (j + 1) * 3 = j * 3 + 1 + 1 + 1 from by omega]
    simpa using this
theorem gcells_of_reads {w : World} {a : Option Addr} {l : List Gm} (h : Reads w a (gmc l)) (hne : 0 < l.length) :
    ∃ b off, a = some ⟨b, off, none⟩ ∧ b < w.heap.size ∧ ∀ j, j < l.length → w.cell? ⟨b, off + j * 3, none⟩ = some (.int .i64 (l.getD j zG).1) ∧ w.cell? ⟨b, off + j * 3 + 1, none⟩ = some (.int .i64 (l.getD j zG).2.1) ∧ w.cell? ⟨b, off + j * 3 + 2, none⟩ = some (.int .i64 (l.getD j zG).2.2) := by
  rcases h with h | ⟨b, off, rfl, hlt, hc⟩
  · have := congrArg List.length h; rw [gmc_len] at this; simp at this; omega
  · refine ⟨b, off, rfl, hlt, fun j hj => ?_⟩
    have := gmc_len l
    obtain ⟨g0, g1, g2⟩ := gmc_get l j hj
    exact ⟨by rw [hc (j * 3) (by omega), g0], by rw [Nat.add_assoc, hc (j * 3 + 1) (by omega), g1], by rw [Nat.add_assoc, hc (j * 3 + 2) (by omega), g2]⟩

theorem cells_new (w : World) (cs : Array Value) (T : TypeId) : ∀ j u, cs.toList[j]? = some u → (w.alloc (.cells cs T)).cell? ((⟨w.heap.size, 0, none⟩ : Addr).add j) = some u := by
  intro j u h
  have := (ObAt.new w T cs).cell j
  rw [show ((⟨w.heap.size, 0, none⟩ : Addr).add j) = ⟨w.heap.size, j, none⟩ from by simp only [Addr.add]; split <;> simp_all]
  rw [this]; simpa using h

end Go.Proofs.Ythlkndloggmehaa
