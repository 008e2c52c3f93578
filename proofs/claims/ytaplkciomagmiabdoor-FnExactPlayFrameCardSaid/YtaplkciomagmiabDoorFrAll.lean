/-
  Frames: all balls potted: the model's way.
-/
import Derived.Test.YtaplkciomagmiabDoorFrPts
import Derived.Test.YtaplkciomagmiabDoorFrAfterS
namespace Go.Proofs.YtaplkciomagmiabDoor
open Go.RowKit
set_option linter.unusedVariables false

/-- All balls potted, with one colour each time one may choose. -/
def allL (c : UInt8) : Nat → List UInt8
  | 0 => []
  | n + 1 => (if frC (n + 1) then c else (nextL (n + 1)).head?.getD 0) :: allL c n
theorem allL_len (c : UInt8) : ∀ n, (allL c n).length = n
  | 0 => rfl
  | n + 1 => by simp [allL, allL_len c n]
theorem allL_dig {c : UInt8} (hc : c = 55 ∨ c = 50) {n : Nat} (h : n ≤ 36) : digL (allL c n) = true := by
  have h1 : ∀ m, m ≤ 36 → digL (allL 55 m) = true := by decide +kernel
  have h2 : ∀ m, m ≤ 36 → digL (allL 50 m) = true := by decide +kernel
  rcases hc with rfl | rfl
  · exact h1 n h
  · exact h2 n h
theorem allL_next {c : UInt8} (hc : c = 55 ∨ c = 50) {n : Nat} (h : n + 1 ≤ 36) : (if frC (n + 1) then c else (nextL (n + 1)).head?.getD 0) ∈ nextL (n + 1) := by
  have h1 : ∀ m, m ≤ 35 → (if frC (m + 1) then (55 : UInt8) else (nextL (m + 1)).head?.getD 0) ∈ nextL (m + 1) := by decide +kernel
  have h2 : ∀ m, m ≤ 35 → (if frC (m + 1) then (50 : UInt8) else (nextL (m + 1)).head?.getD 0) ∈ nextL (m + 1) := by decide +kernel
  rcases hc with rfl | rfl
  · exact h1 n (by omega)
  · exact h2 n (by omega)
theorem next_head (n : Nat) : 0 < (nextS (n + 1)).size := by
  have : (nextS (n + 1)).size = (nextL (n + 1)).length := by simp [nextS, ByteArray.size]
  rw [this]; have := next_len_pos (n := n + 1) (by omega); omega
theorem next_head_val (n : Nat) : (nextS (n + 1))[0]'(next_head n) = (nextL (n + 1)).head?.getD 0 := by
  have h := pdrop_cons (nextS (n + 1)) 0 (next_head n)
  rw [List.drop_zero, next_list] at h
  rw [h]; rfl
theorem index_head (n : Nat) (w : World) : (Instr.index 9 (.string (nextS (n + 1))) (.int .i64 0)).run Tryd.prog w = .ok (.int .u8 (((nextL (n + 1)).head?.getD 0).toNat : Int)) w := by
  rw [run_index_string w _ _ _ _ Tryd.underlying9, dif_pos ⟨by omega, by have := next_head n; omega⟩]
  rw [← next_head_val n]; rfl
theorem next_empty (n : Nat) : (nextS n).toList.isEmpty = decide (n = 0) := by
  rw [ByteArray.toList_eq, next_list]
  cases n with
  | zero => rfl
  | succ n => have := next_len_pos (n := n + 1) (by omega)
              cases h : nextL (n + 1) with
              | nil => rw [h] at this; simp at this
              | cons a l => rfl
theorem encode_one (c : UInt8) (h : c.toNat < 128) : Utf8.encode (c.toNat : Int) = ⟨#[c]⟩ := by
  have key : ∀ n : Nat, n < 128 → (Utf8.encode (n : Int)).data.toList = [UInt8.ofNat n] := by decide +kernel
  have h2 := key c.toNat h
  rw [UInt8.ofNat_toNat] at h2
  have : (Utf8.encode (c.toNat : Int)).data = #[c] := by rw [← Array.toList_inj]; exact h2
  cases hE : Utf8.encode (c.toNat : Int) with
  | mk d => rw [hE] at this; simp at this; rw [this]
theorem digB_lt {c : UInt8} (h : digB c = true) : c.toNat < 128 := by have := (digB_iff c).1 h; omega

def strSize : Value → Nat
  | .string b => b.size
  | _ => 0

/-- What holds at the head of each round. -/
def AllAt (c : UInt8) (n : Nat) (w : World) (o nx : Value) (wr : World) : Prop :=
  ∃ (m : Nat) (acc : List UInt8), acc.length + m = n ∧ o = .string ⟨acc.toArray⟩ ∧ nx = .string (nextS m) ∧ acc ++ allL c m = allL c n ∧ FrAt wr w.heap.size (frR m) (frC m) (frL m) ∧ Below w.heap.size w wr

end Go.Proofs.YtaplkciomagmiabDoor
