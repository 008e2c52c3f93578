/-
  Leagues: what places a team in the table (the program's).
-/
import Derived.Test.YthlkndloggmehaaLgPts
namespace Go.Proofs.Ythlkndloggmehaa
open Go.RowKit
set_option linter.unusedVariables false
set_option linter.unusedSimpArgs false

theorem sum_bd {α : Type} (f : α → Int) (m : Int) (h0 : 0 ≤ m) : ∀ l : List α, (∀ x ∈ l, 0 ≤ f x ∧ f x ≤ m) → 0 ≤ (l.map f).sum ∧ (l.map f).sum ≤ m * l.length
  | [], _ => by simp
  | x :: l, h => by
    have h1 := sum_bd f m h0 l (fun y hy => h y (List.mem_cons_of_mem _ hy))
    have h2 := h x (List.mem_cons_self ..)
    simp only [List.map_cons, List.sum_cons, List.length_cons]
    have : m * ((l.length + 1 : Nat) : Int) = m * l.length + m := by rw [show ((l.length + 1 : Nat) : Int) = (l.length : Int) + 1 from by omega, Int.mul_add, Int.mul_one]
    omega
/-- Games whose goals are bounded. -/
def SmallG (gs : List Gm) : Prop := gs.length ≤ 56 ∧ ∀ g ∈ gs, (0 ≤ g.2.1 ∧ g.2.1 ≤ 20) ∧ (0 ≤ g.2.2 ∧ g.2.2 ≤ 20)
theorem SmallG.of {t wn : Int} {l : List Rs} (h : goodL t wn l = true) (team : Int) : SmallG (gamesL l team) := by
  obtain ⟨-, -, -, -, h5⟩ := goodL_bd h
  exact ⟨Nat.le_trans (gamesL_len l team) h5, fun g hg => (gamesL_good h team g hg).2⟩
theorem SmallG.bd {gs : List Gm} (h : SmallG gs) (k : Nat) : (0 ≤ forL (gs.take k) ∧ forL (gs.take k) ≤ 1120) ∧ (0 ≤ agL (gs.take k) ∧ agL (gs.take k) ≤ 1120) := by
  have hl : (gs.take k).length ≤ 56 := by rw [List.length_take]; have := h.1; omega
  have h1 := sum_bd (fun g : Gm => g.2.1) 20 (by omega) (gs.take k) (fun g hg => (h.2 g (List.mem_of_mem_take hg)).1)
  have h2 := sum_bd (fun g : Gm => g.2.2) 20 (by omega) (gs.take k) (fun g hg => (h.2 g (List.mem_of_mem_take hg)).2)
  unfold forL agL
  omega

theorem Reads.set {w : World} {a : Option Addr} {cs : List Value} (h : Reads w a cs) {g : Nat} (hne : ∀ b, blockOf a = some b → b ≠ g) (o : Nat) (v : Value) : Reads (w.setCell ⟨g, o, none⟩ v) a cs := by
  rcases h with h | ⟨b, off, rfl, hlt, hc⟩
  · exact .inl h
  · exact .inr ⟨b, off, rfl, by simpa using hlt, fun j hj => by rw [World.cell?_setCell_other _ _ _ _ (by intro e; injection e with e1; exact hne b rfl e1.symm)]; exact hc j hj⟩
end Go.Proofs.Ythlkndloggmehaa
