/-
  Leagues: a result less (the program's).
-/
import Derived.Test.YthlkndloggmehaaLgConc
import Derived.Deep.RegionHeld3
namespace Go.Proofs.Ythlkndloggmehaa
open Go.RowKit
set_option linter.unusedVariables false
set_option linter.unusedSimpArgs false

theorem ress_take (l : List Rs) (k : Nat) (hk : k ≤ l.length) : ress (l.take k) = (ress l).take (4 * k) := by
  have h : ress l = ress (l.take k) ++ ress (l.drop k) := by rw [← ress_append, List.take_append_drop]
  have hn : (ress (l.take k)).length = 4 * k := by rw [ress_len, List.length_take]; omega
  rw [h]; exact (List.take_left' hn).symm
theorem ress_drop (l : List Rs) (k : Nat) (hk : k ≤ l.length) : ress (l.drop k) = (ress l).drop (4 * k) := by
  have h : ress l = ress (l.take k) ++ ress (l.drop k) := by rw [← ress_append, List.take_append_drop]
  have hn : (ress (l.take k)).length = 4 * k := by rw [ress_len, List.length_take]; omega
  rw [h]; exact (List.drop_left' hn).symm
theorem reads_take {w : World} {b off : Nat} {l : List Rs} (h : Reads w (some ⟨b, off, none⟩) (ress l)) (k : Nat) (hk : k ≤ l.length) : Reads w (some ⟨b, off, none⟩) (ress (l.take k)) := by
  rcases h with h | ⟨b', off', he, hlt, hc⟩
  · left; rw [ress_take l k hk, h]; simp
  · cases he
    refine .inr ⟨b, off, rfl, hlt, fun j hj => ?_⟩
    rw [ress_take l k hk] at hj ⊢
    rw [List.length_take] at hj
    rw [hc j (by omega), List.getElem?_take_of_lt (by omega)]
theorem reads_drop {w : World} {b off : Nat} {l : List Rs} (h : Reads w (some ⟨b, off, none⟩) (ress l)) (k : Nat) (hk : k ≤ l.length) : Reads w (some ⟨b, off + k * 4, none⟩) (ress (l.drop k)) := by
  rcases h with h | ⟨b', off', he, hlt, hc⟩
  · left; rw [ress_drop l k hk, h]; simp
  · cases he
    refine .inr ⟨b, off + k * 4, rfl, hlt, fun j hj => ?_⟩
    rw [ress_drop l k hk] at hj ⊢
    rw [List.length_drop] at hj
    rw [List.getElem?_drop, ← hc (4 * k + j) (by omega)]
    congr 2
    omega

theorem owns_mono {w : World} {B B' n size : Nat} {T : TypeId} {v : Value} {xs : List Value} (h : w.ownsRow B' T size v n xs) (hb : B ≤ B') : w.ownsRow B T size v n xs := by
  obtain ⟨h1, h2 | ⟨g, cap, cur, hv, hg, r⟩⟩ := h
  · exact ⟨h1, .inl h2⟩
  · exact ⟨h1, .inr ⟨g, cap, cur, hv, by omega, r⟩⟩

def okD (t wn : Int) (l : List Rs) (k : Int) : Bool := goodL t wn l && decide (0 ≤ k ∧ k < l.length)

end Go.Proofs.Ythlkndloggmehaa
