/-
  The program's own word, word by word, as signs: read off the literal, no string is taken apart.
-/
import Derived.Test.YthbkclgdoopbpaaRows
import Derived.JoinedOf
import Derived.KernelRfl
namespace Go.Proofs.Ythbkclgdoopbpaa
open Go

def initWs : List (List Nat) :=
  [[104, 97, 114, 110, 101, 115, 115],
   [52, 48, 57, 52, 49, 51, 99, 101, 49, 49, 54, 53, 50, 51, 98, 98, 101, 102, 57, 49, 57, 53, 52, 52, 99, 56, 48, 51, 48, 99, 48, 54, 48, 50, 54, 102, 51, 97, 102, 54, 98, 99, 52, 57, 100, 50, 101, 51, 51, 55, 48, 98, 52, 48, 48, 99, 49, 99, 54, 50, 98, 100, 97, 53],
   [99, 117, 116],
   [97, 116],
   [108, 111, 111, 112, 46, 101, 120, 97, 109, 112, 108, 101, 47, 103, 48, 49, 51, 54, 56, 47, 108, 97, 119, 115, 46, 70, 110, 69, 120, 97, 99, 116, 67, 111, 117, 110, 116, 71, 97, 109, 101, 115, 79, 102],
   [108, 111, 111, 112, 46, 101, 120, 97, 109, 112, 108, 101, 47, 103, 48, 49, 51, 54, 56, 47, 108, 97, 119, 115, 46, 70, 110, 69, 120, 97, 99, 116, 70, 105, 114, 115, 116, 71, 97, 109, 101, 79, 102],
   [108, 111, 111, 112, 46, 101, 120, 97, 109, 112, 108, 101, 47, 103, 48, 49, 51, 54, 56, 47, 108, 97, 119, 115, 46, 70, 110, 69, 120, 97, 99, 116, 77, 111, 115, 116, 71, 97, 109, 101, 115],
   [108, 111, 111, 112, 46, 101, 120, 97, 109, 112, 108, 101, 47, 103, 48, 49, 51, 54, 56, 47, 108, 97, 119, 115, 46, 70, 110, 69, 120, 97, 99, 116, 76, 101, 97, 103, 117, 101, 84, 97, 98, 108, 101],
   [108, 111, 111, 112, 46, 101, 120, 97, 109, 112, 108, 101, 47, 103, 48, 49, 51, 54, 56, 47, 108, 97, 119, 115, 46, 70, 110, 69, 120, 97, 99, 116, 82, 97, 110, 107, 79, 102, 84, 101, 97, 109],
   [108, 111, 111, 112, 46, 101, 120, 97, 109, 112, 108, 101, 47, 103, 48, 49, 51, 54, 56, 47, 108, 97, 119, 115, 46, 70, 110, 69, 120, 97, 99, 116, 82, 111, 117, 110, 100, 115, 70, 111, 114]]
def signsOf (w : List Nat) : List Char := w.map Char.ofNat
def joinW : List (List Char) → List Char
  | [] => []
  | [w] => w
  | w :: u :: r => w ++ Char.ofNat 32 :: joinW (u :: r)
theorem words_of (w r : List Char) (h : ∀ c ∈ w, c ≠ Char.ofNat 32) : wordsSigns (w ++ Char.ofNat 32 :: r) = w :: wordsSigns r := by
  induction w with
  | nil => rfl
  | cons c w ih =>
    have h1 := h c (List.mem_cons_self ..)
    have ih := ih (fun d hd => h d (List.mem_cons_of_mem _ hd))
    rw [List.cons_append, wordsSigns]
    · rw [ih]
    · exact h1
theorem words_last (w : List Char) (h : ∀ c ∈ w, c ≠ Char.ofNat 32) : wordsSigns w = [w] := by
  induction w with
  | nil => rfl
  | cons c w ih =>
    have h1 := h c (List.mem_cons_self ..)
    have ih := ih (fun d hd => h d (List.mem_cons_of_mem _ hd))
    rw [wordsSigns]
    · rw [ih]
    · exact h1
theorem words_join : ∀ ws : List (List Char), ws ≠ [] → (∀ w ∈ ws, ∀ c ∈ w, c ≠ Char.ofNat 32) → wordsSigns (joinW ws) = ws
  | [], h, _ => absurd rfl h
  | [w], _, h => words_last w (h w (List.mem_cons_self ..))
  | w :: u :: r, _, h => by
    rw [joinW, words_of w _ (h w (List.mem_cons_self ..)), words_join (u :: r) (by simp) (fun v hv => h v (List.mem_cons_of_mem _ hv))]
theorem small_space : ∀ n, n < 128 → Char.ofNat n = Char.ofNat 32 → n = 32 := by decide
theorem no_space (ws : List (List Nat)) (h : (ws.all fun w => w.all fun n => Nat.blt n 128 && !(Nat.beq n 32)) = true) : ∀ w ∈ ws.map signsOf, ∀ c ∈ w, c ≠ Char.ofNat 32 := by
  intro w hw c hc
  obtain ⟨v, hv, rfl⟩ := List.mem_map.1 hw
  obtain ⟨n, hn, rfl⟩ := List.mem_map.1 hc
  have h1 := List.all_eq_true.1 (List.all_eq_true.1 h v hv) n hn
  rw [Bool.and_eq_true, Nat.blt_eq] at h1
  intro e
  have e2 := small_space n h1.1 e
  rw [e2] at h1
  exact absurd h1.2 (by decide)

set_option maxRecDepth 100000 in
theorem init_is : Try.prog.initOrder = String.ofList (joinW (initWs.map signsOf)) := by kernel_rfl
theorem init_words : wordsSigns Try.prog.initOrder.toList = initWs.map signsOf := by
  rw [init_is, String.toList_ofList, words_join _ (by unfold initWs; simp) (no_space _ (by kernel_rfl))]
end Go.Proofs.Ythbkclgdoopbpaa
