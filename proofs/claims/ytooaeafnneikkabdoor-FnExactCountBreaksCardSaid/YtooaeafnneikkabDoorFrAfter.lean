/-
  Frames: the program goes along a break.
-/
import Derived.Test.YtooaeafnneikkabDoorFrRune
namespace Go.Proofs.YtooaeafnneikkabDoor
open Go.RowKit
set_option linter.unusedVariables false

theorem FrAt.iterAt {w : World} {g k : Nat} {r : Int} {c : Bool} {l : Int} (h : FrAt w g r c l) (hne : g ≠ k) (s : ByteArray) (pos : Nat) : FrAt (w.iterAt k s pos) g r c l := by
  unfold FrAt at *; rw [Lib.iterAt_other _ _ _ _ _ hne]; exact h
theorem next_ascii (n : Nat) : asciiL (nextS n).data.toList := by
  rw [next_list]; unfold nextL asciiL
  intro b hb
  split at hb
  · cases hb
  · split at hb
    · rename_i h1 h6
      simp only [List.mem_singleton] at hb
      subst hb
      simp; omega
    · split at hb
      · simp at hb; rcases hb with rfl | rfl | rfl | rfl | rfl | rfl <;> decide
      · simp at hb; subst hb; decide

/-- What FrameAfter hands back. -/
def afterV : Option Nat → Value
  | some m => .tuple #[frV m, .bool true]
  | none => .tuple #[frW 0 false 0, .bool false]

theorem hasR_ascii (n : Nat) (c : UInt8) (h : c.toNat < 128) : hasR (nextS n).data.toList (c.toNat : Int) = decide (c ∈ nextL n) := by
  rw [next_list]; unfold hasR
  have : ((c.toNat : Int)).toNat = c.toNat := by omega
  rw [this, Bool.eq_iff_iff]; simp; intro _; omega
theorem hasR_high (l : List UInt8) (r : Int) (h : 128 ≤ r) : hasR l r = false := by unfold hasR; simp; omega
theorem high_not (n : Nat) (c : UInt8) (h : 128 ≤ c.toNat) : c ∉ nextL n := fun hc => by
  have := next_ascii n c (by rw [next_list]; exact hc); omega

/-- What holds at the head of each round. -/
def AfterAt (s : ByteArray) (n : Nat) (w : World) (K : Nat) (wr : World) : Prop :=
  ∃ (pos m : Nat), pos ≤ s.size ∧ after n (s.data.toList.take pos) = some m ∧ FrAt wr w.heap.size (frR m) (frC m) (frL m) ∧ FrAt wr (w.heap.size + 1) 0 false 0 ∧
    wr.heap[K]? = some (.stringIter s pos) ∧ Below w.heap.size w wr

theorem list_split (s : ByteArray) (pos : Nat) (h : pos < s.size) : s.data.toList = s.data.toList.take pos ++ s[pos] :: s.data.toList.drop (pos + 1) := by
  rw [← drop_cons s pos h, List.take_append_drop]
theorem after_fail {s : ByteArray} {n m pos : Nat} (h : pos < s.size) (ha : after n (s.data.toList.take pos) = some m) (hc : s[pos] ∉ nextL m) : after n s.data.toList = none := by
  rw [list_split s pos h]
  cases m with
  | zero => exact after_over _ _ _ _ ha
  | succ m =>
    have h1 := after_snoc _ _ _ s[pos] ha
    rw [if_neg hc] at h1
    have := after_dead _ _ (s.data.toList.drop (pos + 1)) h1
    simpa using this
theorem after_go {s : ByteArray} {n m pos : Nat} (h : pos < s.size) (ha : after n (s.data.toList.take pos) = some (m + 1)) (hc : s[pos] ∈ nextL (m + 1)) : after n (s.data.toList.take (pos + 1)) = some m := by
  rw [take_snoc s pos h, after_snoc _ _ _ _ ha, if_pos hc]

end Go.Proofs.YtooaeafnneikkabDoor
