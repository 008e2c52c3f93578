/-
  Tennis: how a game stands: the program's text.
-/
import Derived.Test.YtgkkjlpfkoplhaaGreatDoorTnStand
import Derived.Test.YtgkkjlpfkoplhaaGreatDoorTnRace2
import Derived.Test.YtgkkjlpfkoplhaaGreatDoorTnGames
import Derived.WalkLawsBesides
namespace Go.Proofs.YtgkkjlpfkoplhaaGreatDoor
open Go.RowKit
set_option linter.unusedVariables false
set_option linter.unusedSimpArgs false

theorem pairS_keep {B : Nat} {w0 w w' : World} {h : Nat} {a b : Int} (hb : Below w.heap.size w w') (h0 : w.cell? ⟨h, 0, none⟩ = some (.int .i64 a) ∧ w.cell? ⟨h, 1, none⟩ = some (.int .i64 b) ∧ h < w.heap.size ∧ B ≤ w.heap.size ∧ Below B w0 w) :
    w'.cell? ⟨h, 0, none⟩ = some (.int .i64 a) ∧ w'.cell? ⟨h, 1, none⟩ = some (.int .i64 b) ∧ h < w'.heap.size ∧ B ≤ w'.heap.size ∧ Below B w0 w' := by
  have := hb.size
  obtain ⟨c2, c3, hh, hB, hw⟩ := h0
  exact ⟨by rw [hb.cell (p := ⟨h, 0, none⟩) hh]; exact c2, by rw [hb.cell (p := ⟨h, 1, none⟩) hh]; exact c3, by omega, by omega, hw.trans (hb.mono hB)⟩

end Go.Proofs.YtgkkjlpfkoplhaaGreatDoor
