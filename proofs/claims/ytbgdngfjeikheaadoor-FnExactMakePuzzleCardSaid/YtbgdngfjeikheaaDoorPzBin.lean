/-
  Hidden points by their number: all of them, in order; changes. Plain facts.
-/
import Derived.Test.YtbgdngfjeikheaaDoorRaMath
import Derived.Lib.CountLaws
namespace Go.Proofs.YtbgdngfjeikheaaDoor
open Go.RowKit

/-- So many points with a number, its binary digits being who won them. -/
def binL : Nat → Nat → List UInt8
  | 0, _ => []
  | p + 1, n => binL p (n / 2) ++ [if n % 2 = 0 then 97 else 98]
def binB (p n : Nat) : ByteArray := ⟨(binL p n).toArray⟩
theorem binL_len : ∀ p n, (binL p n).length = p
  | 0, _ => rfl
  | p + 1, n => by simp [binL, binL_len p]
theorem abL_append (l m : List UInt8) : abL (l ++ m) = (abL l && abL m) := by simp [abL]
theorem binL_ab : ∀ p n, abL (binL p n) = true
  | 0, _ => rfl
  | p + 1, n => by
    rw [binL, abL_append, binL_ab p]
    split <;> rfl
theorem binB_size (p n : Nat) : (binB p n).size = p := by
  show (binL p n).toArray.size = p
  simp [binL_len]
theorem binB_list (p n : Nat) : (binB p n).data.toList = binL p n := rfl
theorem bin_of : ∀ (p : Nat) (l : List UInt8), l.length = p → abL l = true → ∃ n, n < 2 ^ p ∧ l = binL p n
  | 0, l, h, _ => ⟨0, by simp, by rw [List.length_eq_zero_iff.1 h]; rfl⟩
  | p + 1, l, h, ha => by
    have hne : l ≠ [] := by intro e; rw [e] at h; cases h
    have hs := List.dropLast_concat_getLast hne
    rw [← hs, abL_append, Bool.and_eq_true] at ha
    obtain ⟨n, hn, e⟩ := bin_of p l.dropLast (by rw [List.length_dropLast]; omega) ha.1
    have hl : l.getLast hne = 97 ∨ l.getLast hne = 98 := by have := ha.2; simpa [abL] using this
    rcases hl with hl | hl
    · refine ⟨2 * n, by rw [Nat.pow_succ]; omega, ?_⟩
      rw [binL, show 2 * n / 2 = n from by omega, if_pos (by omega), ← e, ← hl, hs]
    · refine ⟨2 * n + 1, by rw [Nat.pow_succ]; omega, ?_⟩
      rw [binL, show (2 * n + 1) / 2 = n from by omega, if_neg (by omega), ← e, ← hl, hs]
theorem bin_of_bytes {s : ByteArray} (h : abL s.data.toList = true) : ∃ n, n < 2 ^ s.size ∧ s = binB s.size n := by
  obtain ⟨n, hn, e⟩ := bin_of s.size s.data.toList (by simp) h
  exact ⟨n, hn, by unfold binB; rw [← e]⟩

/-- How many of the first k points were won by another side than the one before. -/
def chgK (l : List UInt8) : Nat → Nat
  | 0 => 0
  | k + 1 => chgK l k + (if k = 0 then 0 else if l.getD (k - 1) 0 = l.getD k 0 then 0 else 1)
theorem chgK_le (l : List UInt8) : ∀ k, chgK l k ≤ k
  | 0 => Nat.le_refl _
  | k + 1 => by
    have := chgK_le l k
    unfold chgK
    repeat' split
    all_goals omega
def chgs (l : List UInt8) : Nat := chgK l l.length

set_option maxRecDepth 100000 in
theorem counts_bin : ∀ p, p ≤ 8 → ∀ n, n < 2 ^ p → Lib.count (binL p n) [97, 98] + Lib.count (binL p n) [98, 97] = chgs (binL p n) := by
  have h : ∀ p ∈ List.range 9, ∀ n ∈ List.range (2 ^ p), Lib.count (binL p n) [97, 98] + Lib.count (binL p n) [98, 97] = chgs (binL p n) := by decide +kernel
  intro p hp n hn
  exact h p (List.mem_range.2 (by omega)) n (List.mem_range.2 hn)
theorem counts_any {s : ByteArray} (h : abL s.data.toList = true) (h8 : s.size ≤ 8) : Lib.countB s ⟨#[97, 98]⟩ + Lib.countB s ⟨#[98, 97]⟩ = chgs s.data.toList := by
  obtain ⟨n, hn, e⟩ := bin_of_bytes h
  have e2 : s.data.toList = binL s.size n := congrArg (fun x => x.data.toList) e
  have := counts_bin s.size h8 n hn
  rw [← e2] at this
  exact this

/-- All points, so many, as the program makes them: each one longer by a, by b. -/
def growB (s : List UInt8) : List (List UInt8) := [s ++ [97], s ++ [98]]
def allL : Nat → List (List UInt8)
  | 0 => [[]]
  | p + 1 => (allL p).flatMap growB
theorem range_two : ∀ m : Nat, List.range (2 * m) = (List.range m).flatMap fun i => [2 * i, 2 * i + 1]
  | 0 => rfl
  | m + 1 => by
    rw [show 2 * (m + 1) = 2 * m + 1 + 1 from by omega, List.range_succ, List.range_succ, range_two m, List.range_succ, List.flatMap_append]
    simp
theorem allL_eq : ∀ p, allL p = (List.range (2 ^ p)).map (binL p)
  | 0 => rfl
  | p + 1 => by
    rw [allL, allL_eq p, Nat.pow_succ, Nat.mul_comm, range_two, List.map_flatMap, List.flatMap_map]
    congr 1
    funext n
    simp only [growB, List.map_cons, List.map_nil, binL]
    rw [show 2 * n / 2 = n from by omega, show (2 * n + 1) / 2 = n from by omega, if_pos (by omega), if_neg (by omega)]
theorem allL_len (p : Nat) : (allL p).length = 2 ^ p := by rw [allL_eq]; simp
end Go.Proofs.YtbgdngfjeikheaaDoor
