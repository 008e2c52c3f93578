/-
  Frames: points of balls: the model's sum, the program's.
-/
import Derived.Test.YtooaeafnneikkabDoorFrAfter
namespace Go.Proofs.YtooaeafnneikkabDoor
open Go.RowKit
set_option linter.unusedVariables false

theorem pdrop_cons (s : ByteArray) (k : Nat) (h : k < s.size) : s.data.toList.drop k = s[k] :: s.data.toList.drop (k + 1) := by
  rw [List.drop_eq_getElem_cons (by simpa using h)]; rfl
theorem ptake_snoc (s : ByteArray) (k : Nat) (h : k < s.size) : s.data.toList.take (k + 1) = s.data.toList.take k ++ [s[k]] := by
  rw [List.take_succ_eq_append_getElem (by simpa using h)]; rfl
theorem ptake_all (s : ByteArray) : s.data.toList.take s.size = s.data.toList := List.take_of_length_le (by simp)
theorem psplit (s : ByteArray) (pos : Nat) (h : pos < s.size) : s.data.toList = s.data.toList.take pos ++ s[pos] :: s.data.toList.drop (pos + 1) := by
  rw [← pdrop_cons s pos h, List.take_append_drop]
theorem digB_iff (c : UInt8) : digB c = true ↔ 49 ≤ c.toNat ∧ c.toNat ≤ 55 := by simp [digB]
theorem digL_at {s : ByteArray} (hd : digL s.data.toList = true) (k : Nat) (h : k < s.size) : 49 ≤ s[k].toNat ∧ s[k].toNat ≤ 55 := by
  rw [psplit s k h] at hd
  unfold digL at hd
  rw [List.all_append, List.all_cons] at hd
  simp only [Bool.and_eq_true] at hd
  exact (digB_iff _).1 hd.2.1
theorem digL_snoc (l : List UInt8) (c : UInt8) : digL (l ++ [c]) = (digL l && digB c) := by unfold digL; simp
theorem digL_bad {s : ByteArray} (k : Nat) (h : k < s.size) (hb : digB s[k] = false) : digL s.data.toList = false := by
  rw [psplit s k h]
  unfold digL
  rw [List.all_append, List.all_cons, hb]; simp
theorem pts_take_bd (s : ByteArray) (k : Nat) (h : k ≤ s.size) (hz : (s.size : Int) ≤ 1000000) : -100000000 ≤ pts (s.data.toList.take k) ∧ pts (s.data.toList.take k) ≤ 1000000000 := by
  have := pts_bd (s.data.toList.take k)
  have hl : (s.data.toList.take k).length ≤ k := List.length_take_le _ _
  omega

def ptO (s : ByteArray) : Bool := decide (s.size ≤ 36) && digL s.data.toList
def ptR (s : ByteArray) : Int := if ptO s then pts s.data.toList else 0

def digS : ByteArray := ⟨#[49, 50, 51, 52, 53, 54, 55]⟩
theorem digS_ascii : asciiL digS.data.toList := by unfold asciiL; decide
theorem hasR_dig (c : UInt8) (h : c.toNat < 128) : hasR digS.data.toList (c.toNat : Int) = digB c := by
  have key : ∀ n : Nat, n < 128 → hasR digS.data.toList (n : Int) = (decide (49 ≤ n) && decide (n ≤ 55)) := by decide +kernel
  exact key c.toNat h

/-- What holds at the head of each round. -/
def PtsAt (s : ByteArray) (w : World) (p : Value) (wr : World) : Prop :=
  ∃ pos : Nat, pos ≤ s.size ∧ digL (s.data.toList.take pos) = true ∧ p = .int .i64 (pts (s.data.toList.take pos)) ∧ wr.heap[w.heap.size]? = some (.stringIter s pos) ∧ Below w.heap.size w wr

end Go.Proofs.YtooaeafnneikkabDoor
