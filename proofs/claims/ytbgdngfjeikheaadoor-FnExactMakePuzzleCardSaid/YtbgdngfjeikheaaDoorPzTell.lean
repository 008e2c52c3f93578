/-
  What points tell for a clue; which points fit all clues. Plain facts.
-/
import Derived.Test.YtbgdngfjeikheaaDoorPzBin
import Derived.Test.YtbgdngfjeikheaaDoorPzMath
import Derived.Test.YtbgdngfjeikheaaDoorRaRunI
import Derived.Test.YtbgdngfjeikheaaDoorRaPosI
namespace Go.Proofs.YtbgdngfjeikheaaDoor
open Go.RowKit

/-- Points in a race to so many: 0 open, 1 and 2 won, 3 no play. -/
def raceC (a : Int) (s : ByteArray) : Int := if isP a 1 s then (wonN a 1 (cntA s.data.toList) (cntB s.data.toList) : Nat) else 3
def tellK (k a : Int) (s : ByteArray) : Int :=
  if k = 0 then cntA s.data.toList else if k = 1 then upA (s.data.toList.getD a.toNat 0) else if k = 2 then raceC a s else if k = 3 then runV s else if k = 4 then (posP s a).1 else (chgs s.data.toList : Nat)
def fitC (c : Cl) (s : ByteArray) : Bool := decide (tellK c.1 c.2.1 s = c.2.2)
def solvC (l : List Cl) (s : ByteArray) : Bool := l.all fun c => fitC c s
/-- Hidden points, so many. -/
def hidB (s : ByteArray) : Bool := inP s.size 1 8 && abL s.data.toList
theorem hidB_iff {s : ByteArray} : hidB s = true ↔ (1 ≤ s.size ∧ s.size ≤ 8) ∧ abL s.data.toList = true := by
  rw [hidB, Bool.and_eq_true, inP_iff]
  exact ⟨fun ⟨h1, h2⟩ => ⟨by omega, h2⟩, fun ⟨h1, h2⟩ => ⟨by omega, h2⟩⟩
theorem hidB_bin {p : Nat} (h : 1 ≤ p ∧ p ≤ 8) (n : Nat) : hidB (binB p n) = true := hidB_iff.2 ⟨by rw [binB_size]; exact h, by rw [binB_list]; exact binL_ab p n⟩
theorem hidB_pts {s : ByteArray} (h : hidB s = true) : ptsB s = true := ptsB_true.2 ⟨by have := (hidB_iff.1 h).1; omega, (hidB_iff.1 h).2⟩

theorem solvC_nil (s : ByteArray) : solvC [] s = true := rfl
theorem solvC_snoc (l : List Cl) (k : Nat) (h : k < l.length) (s : ByteArray) : solvC (l.take (k + 1)) s = (solvC (l.take k) s && fitC (l.getD k zC) s) := by
  rw [ptake_snoc zC l k h]; simp [solvC]
theorem solvC_not {l : List Cl} {k : Nat} (h : k < l.length) {s : ByteArray} (e : fitC (l.getD k zC) s = false) : solvC l s = false := by
  cases hh : solvC l s with
  | false => rfl
  | true =>
    simp only [solvC, List.all_eq_true] at hh
    have := hh l[k] (List.getElem_mem h)
    simp [h] at e
    rw [e] at this; cases this

/-- All solutions, in order. -/
def allB (p : Nat) : List ByteArray := (List.range (2 ^ p)).map (binB p)
def solsL (p : Nat) (l : List Cl) : List ByteArray := (allB p).filter fun s => solvC l s
theorem allB_len (p : Nat) : (allB p).length = 2 ^ p := by simp [allB]
theorem solsL_len (p : Nat) (l : List Cl) : (solsL p l).length ≤ 2 ^ p := by
  have := List.length_filter_le (fun s => solvC l s) (allB p); rw [allB_len] at this; exact this
theorem allB_take (p k : Nat) (h : k < 2 ^ p) : (allB p).take (k + 1) = (allB p).take k ++ [binB p k] := by
  rw [ptake_snoc ⟨#[]⟩ _ k (by rw [allB_len]; exact h)]; simp [allB, h]
theorem sols_take (p k : Nat) (h : k < 2 ^ p) (l : List Cl) : ((allB p).take (k + 1)).filter (fun s => solvC l s) = ((allB p).take k).filter (fun s => solvC l s) ++ (if solvC l (binB p k) then [binB p k] else []) := by
  rw [allB_take p k h, List.filter_append]
  congr 1
  cases hh : solvC l (binB p k) <;> simp [hh]
theorem sols_mem {p : Nat} {l : List Cl} {s : ByteArray} (h : s ∈ solsL p l) : ∃ n, n < 2 ^ p ∧ s = binB p n := by
  simp only [solsL, allB, List.mem_filter, List.mem_map, List.mem_range] at h
  obtain ⟨⟨n, hn, e⟩, -⟩ := h
  exact ⟨n, hn, e.symm⟩
theorem pow_bd {p : Nat} (h : p ≤ 8) : 2 ^ p ≤ 256 := by
  have := Nat.pow_le_pow_right (n := 2) (by omega) h
  simpa using this
theorem chg_bd (s : ByteArray) : chgs s.data.toList ≤ s.size := by
  have := chgK_le s.data.toList s.data.toList.length
  unfold chgs; rw [show s.data.toList.length = s.size from by simp] at *; exact this
end Go.Proofs.YtbgdngfjeikheaaDoor
