/-
  Goals: FewestGoals, CanReach: the model's and the program's.
-/
import Derived.Test.YthlkndloggmehaaGoTabM
namespace Go.Proofs.Ythlkndloggmehaa
open Go.RowKit
set_option linter.unusedVariables false
set_option linter.unusedSimpArgs false

def hasF (ks : List Int) (s : Int) : Bool := askedG ks s && decide (fewP ks s.toNat ≠ 1000)
def fewV (ks : List Int) (s : Int) : Int := if hasF ks s = true then fewP ks s.toNat else 0

theorem asked_nat {ks : List Int} {s : Int} (h : askedG ks s = true) : ∃ m : Nat, s = (m : Int) ∧ (m : Int) ≤ 200 ∧ (∀ x ∈ ks, 1 ≤ x ∧ x ≤ 20) := by
  obtain ⟨h1, h2⟩ := asked_split h
  obtain ⟨s1, s2⟩ := goodS_bd h2
  exact ⟨s.toNat, by omega, by omega, good_mem h1⟩
theorem TabAt.cells {ks : List Int} {w : World} {m : Nat} {v : Value} {w' : World} (h : TabAt ks w m v w') : ∃ g cap, v = .slice (some ⟨g, 0, none⟩) (m + 1) cap ∧ w.heap.size ≤ g ∧ g < w'.heap.size ∧ ∀ j, j ≤ m → w'.cell? ⟨g, j, none⟩ = some (.int .i64 (fewP ks j)) := by
  obtain ⟨g, cap, hv, h1, h2, hc⟩ := own_cells h.1 (by rw [tabP_len]; omega)
  rw [tabP_len] at hv hc
  exact ⟨g, cap, hv, h1, h2, fun j hj => by rw [hc j (by omega), tabP_get ks hj]; rfl⟩
theorem tabM_cells {ks : List Int} (hk : ∀ x ∈ ks, 1 ≤ x ∧ x ≤ 20) {m : Nat} (hm : (m : Int) < 999) {w : World} {g : Nat} {e : TypeId} (h : RowAt w g e (tabM ks m)) {j : Nat} (hj : j ≤ m) : w.cell? ⟨g, j, none⟩ = some (.int .i64 (asM (fewP ks j))) := by
  rw [h.cell (by rw [tabM_len]; omega), tabM_get ks hj, fewM_eq (fun x hx => (hk x hx).1) (by omega)]

end Go.Proofs.Ythlkndloggmehaa
