/-
  The model reads numbers.
-/
import Derived.Test.YtgkkjlpfkoplhaaDoorLgTxI
namespace Go.Proofs.YtgkkjlpfkoplhaaDoor
open Go.RowKit
set_option linter.unusedVariables false

def digs : Int → List UInt8 → Int
  | n, [] => n
  | n, c :: cs => if 48 ≤ c.toNat ∧ c.toNat ≤ 57 then digs (10 * n + ((c.toNat : Int) - 48)) cs else -1
def readL (l : List UInt8) : Int :=
  if l.length = 0 ∨ 6 < l.length then -1 else if l.head? = some 48 ∧ 1 < l.length then -1 else digs 0 l

theorem rdrop_cons (s : ByteArray) (k : Nat) (h : k < s.size) : s.data.toList.drop k = s[k] :: s.data.toList.drop (k + 1) := by
  rw [List.drop_eq_getElem_cons (by simpa using h)]; rfl
theorem rdrop_all (s : ByteArray) : s.data.toList.drop s.size = [] := List.drop_of_length_le (by simp)
theorem rhead (s : ByteArray) (h : 0 < s.size) : s.data.toList.head? = some s[0] := by
  have := rdrop_cons s 0 h
  rw [List.drop_zero] at this; rw [this]; rfl
theorem rlen (s : ByteArray) : s.data.toList.length = s.size := by simp
theorem beq48 (c : UInt8) : ((c.toNat : Int) == 48) = decide (c = 48) := by
  rw [Bool.eq_iff_iff]; simp only [beq_iff_eq, decide_eq_true_eq]
  constructor
  · intro h
    have h2 : c.toNat = (48 : UInt8).toNat := by simp; omega
    exact UInt8.toNat_inj.1 h2
  · intro h; rw [h]; rfl
theorem rindex (s : ByteArray) (k : Nat) (h : k < s.size) (w : World) : (Instr.index 9 (.string s) (.int .i64 (k : Int))).run Tryd.prog w = .ok (.int .u8 ((s[k]'h).toNat : Int)) w := by
  rw [run_index_string w _ _ _ _ Tryd.underlying9]
  simp [h]

theorem pow6 {k : Nat} (h : k ≤ 6) : (10 : Int) ^ k ≤ 1000000 := by
  have : ∀ m, m ≤ 6 → (10 : Int) ^ m ≤ 1000000 := by decide
  exact this k h

end Go.Proofs.YtgkkjlpfkoplhaaDoor
