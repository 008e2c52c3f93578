/-
  Plain lemmas that every text of this seat uses: worlds that only grow, boxed structs, names hidden from the walk.
-/
import Derived.Test.YtgkkjlpfkoplhaaGreatDoorRows
import Derived.WalkKit
import Derived.ProofKit
import Derived.OpenShut
import Derived.ShutString
import Derived.ChangeOld
import Derived.Below
import Derived.Lib.SmallJoins
import Derived.Lib.Hide
import Derived.Deep.QuietTactic
import Derived.BigQuiet
import Derived.Outline
import Derived.ChangeKeysEq
import Derived.Laws.IdiomCopy
namespace Go.Proofs.YtgkkjlpfkoplhaaGreatDoor
open Go.RowKit

theorem bcell {W w1 : World} (hb : Below W.heap.size W w1) : (∀ b o, b < W.heap.size → w1.cell? ⟨b, o, none⟩ = W.cell? ⟨b, o, none⟩) ∧ (∀ b o, b < W.heap.size → w1.frozen? ⟨b, o, none⟩ = W.frozen? ⟨b, o, none⟩) :=
  ⟨fun b o h => hb.cell (p := ⟨b, o, none⟩) h, fun b o h => hb.frozen (p := ⟨b, o, none⟩) h⟩

theorem ret_int {k : IntKind} {a b : Int} (h : a = b) : Ending.returned (.int k a) = .returned (.int k b) := by rw [h]
theorem ret_bool {a b : Bool} (h : a = b) : Ending.returned (.bool a) = .returned (.bool b) := by rw [h]

/-- 'a[k]' of an array that is a value: element k, of one cell. -/
theorem run_index_agg {P : Program} {t e : TypeId} {n k : Nat} {cs : Array Value} {v : Value} {i : TypeInfo} (K : IntKind) (ht : P.underlying t = some (.array n e)) (hk : k < n)
    (hi : P.info? e = some i) (hone : P.cellsOf e = 1) (hp : P.plainKey e = true) (hv : cs[k]? = some v) (w : World) : (Instr.index t (.agg cs) (.int K k)).run P w = .ok v w := by
  have hk' : (0 : Int) ≤ (k : Int) ∧ (k : Int) < (n : Int) := by omega
  have h1 := run_sizeOf (P := P) (w := w) hi
  have h2 := run_part_plain (P := P) (w := w) hp (xs := cs) (off := k) hv
  rw [hone] at h1
  simp [Instr.index, asIntOf, run_underlying ht, hk', h1, h2]
  intro h; omega

/-- A composite literal, its cells under one name. -/
theorem wpList_build_to {P : Program} {ops : Array Oper} {rest : List Oper} {o : Oper} {a : Act} {w : World} {Q : Exit → Act → World → Prop} (hg : o.guard = none) (t : TypeId) (parts : Array (Nat × Operand)) (ho : o.op = .build t parts)
    (d : Option Tmp) (hd : o.dst = d) (cells : Array Value) (hf : P.built t (parts.map fun (i, x) => (i, a.eval x)).toList = some cells)
    (h : wpList P ops Q rest (a.put d (.agg cells)) w) : wpList P ops Q (o :: rest) a w := by
  subst hd
  refine wpList_build hg t parts ho (by rw [hf]; rfl) ?_
  rw [hf]
  exact h

/-- The cells 'cs' stand behind a slice's address, from its head on. -/
def Reads (w : World) (a : Option Addr) (cs : List Value) : Prop :=
  cs = [] ∨ ∃ b off, a = some ⟨b, off, none⟩ ∧ b < w.heap.size ∧ ∀ j, j < cs.length → w.cell? ⟨b, off + j, none⟩ = cs[j]?

/-- The block of a slice's address, if there are cells. -/
def blockOf : Option Addr → Option Nat
  | some a => some a.block
  | none => none

theorem Reads.nil (w : World) (a : Option Addr) : Reads w a [] := .inl rfl

theorem Reads.below {B : Nat} {w w' : World} {a : Option Addr} {cs : List Value} (h : Reads w a cs) (hb : Below B w w') (ha : ∀ b, blockOf a = some b → b < B) : Reads w' a cs := by
  rcases h with h | ⟨b, off, rfl, hlt, hc⟩
  · exact .inl h
  · exact .inr ⟨b, off, rfl, Nat.lt_of_lt_of_le hlt hb.size, fun j hj => by rw [hb.cell (p := ⟨b, off + j, none⟩) (ha b rfl)]; exact hc j hj⟩

theorem Reads.old {w w' : World} {a : Option Addr} {cs : List Value} (h : Reads w a cs) (hb : Below w.heap.size w w') : Reads w' a cs := by
  rcases h with h | ⟨b, off, rfl, hlt, hc⟩
  · exact .inl h
  · exact .inr ⟨b, off, rfl, Nat.lt_of_lt_of_le hlt hb.size, fun j hj => by rw [hb.cell (p := ⟨b, off + j, none⟩) hlt]; exact hc j hj⟩

/-- What a call owns can be read. -/
theorem Reads.own {w : World} {base : Nat} {e : TypeId} {size : Nat} {v : Value} {n : Nat} {xs : List Value} (h : w.ownsRow base e size v n xs) :
    ∃ a c, v = .slice a n c ∧ Reads w a xs ∧ xs.length = n * size ∧ n ≤ maxLen ∧ (∀ b, blockOf a = some b → base ≤ b) := by
  obtain ⟨hl, h | ⟨g, cap, cur, rfl, hg, hh, hn, hcap, hcs, htk⟩⟩ := h
  · obtain ⟨rfl, rfl⟩ := h
    have : xs = [] := List.length_eq_zero_iff.1 (by simpa using hl)
    exact ⟨none, 0, rfl, .inl this, hl, Nat.zero_le _, fun b hb => by cases hb⟩
  · refine ⟨some ⟨g, 0, none⟩, cap, rfl, .inr ⟨g, 0, rfl, (Array.getElem?_eq_some_iff.1 hh).1, fun j hj => ?_⟩, hl, by omega, fun b hb => by cases hb; exact hg⟩
    rw [cell_of_row w g _ cur e _ hh, ← htk, List.getElem?_take_of_lt (by omega), Nat.zero_add]
    simp

/-- Values written behind a slice's address, one behind the other. -/
def writeAt (w : World) (a : Option Addr) (vs : List Value) : World := match a with | some ⟨b, off, _⟩ => w.setCells b off vs | none => w

/-- 'n' cells that may be written stand behind a slice's address. -/
def Writable (w : World) (a : Option Addr) (n : Nat) : Prop :=
  n = 0 ∨ ∃ b off, a = some ⟨b, off, none⟩ ∧ b < w.heap.size ∧ ∀ j, j < n → (w.cell? ⟨b, off + j, none⟩).isSome = true ∧ w.frozen? ⟨b, off + j, none⟩ = false

def marks (k : Int) (n : Nat) : List Int := (List.range n).map fun (i : Nat) => k + (i : Int)
theorem marks_len (k : Int) (n : Nat) : (marks k n).length = n := by simp [marks]
theorem marks_succ (k : Int) (n : Nat) : marks k (n + 1) = marks k n ++ [k + (n : Int)] := by simp [marks, List.range_succ]
theorem marks_get (k : Int) (n j : Nat) (h : j < n) : (marks k n).getD j 0 = k + (j : Int) := by simp [marks, h]

theorem setCells_snoc (b : Nat) (v : Value) : ∀ (vs : List Value) (o : Nat) (w : World), (w.setCells b o vs).setCell ⟨b, o + vs.length, none⟩ v = w.setCells b o (vs ++ [v])
  | [], o, w => by simp [World.setCells]
  | u :: vs, o, w => by
    have := setCells_snoc b v vs (o + 1) (w.setCell ⟨b, o, none⟩ u)
    simp only [World.setCells, List.length_cons, List.cons_append]
    rw [← this, show o + (vs.length + 1) = o + 1 + vs.length from by omega]

theorem setCells_heap (b : Nat) : ∀ (vs : List Value) (o : Nat) (w : World) (k : Nat), k ≠ b → (w.setCells b o vs).heap[k]? = w.heap[k]?
  | [], _, _, _, _ => rfl
  | v :: vs, o, w, k, h => by
    simp only [World.setCells]
    rw [setCells_heap b vs (o + 1) _ k h, Below.heap_setCell _ _ _ _ h]
theorem setCells_size (b : Nat) : ∀ (vs : List Value) (o : Nat) (w : World), (w.setCells b o vs).heap.size = w.heap.size
  | [], _, _ => rfl
  | v :: vs, o, w => by simp only [World.setCells]; rw [setCells_size b vs (o + 1)]; simp [World.setCell]
theorem setCells_rest (b : Nat) : ∀ (vs : List Value) (o : Nat) (w : World), (w.setCells b o vs).os = w.os ∧ (w.setCells b o vs).tape = w.tape ∧ (w.setCells b o vs).output = w.output
  | [], _, _ => ⟨rfl, rfl, rfl⟩
  | v :: vs, o, w => by simp only [World.setCells]; exact setCells_rest b vs (o + 1) _

/-- A write into a block from B on leaves what lies below. -/
theorem Below.writeAt {B : Nat} {w0 w : World} {a : Option Addr} (h : Below B w0 w) (ha : ∀ b, blockOf a = some b → B ≤ b) (vs : List Value) : Below B w0 (writeAt w a vs) := by
  match a with
  | none => exact h
  | some ⟨b, off, sp⟩ =>
    have hb : B ≤ b := ha b rfl
    obtain ⟨r1, r2, r3⟩ := setCells_rest b vs off w
    exact h.trans ⟨r1, r2, r3, by rw [show Go.Proofs.YtgkkjlpfkoplhaaGreatDoor.writeAt w (some ⟨b, off, sp⟩) vs = w.setCells b off vs from rfl, setCells_size]; exact Nat.le_refl _, fun k hk => setCells_heap b vs off w k (by omega)⟩

/-- What is read of another block stays. -/
theorem Reads.write_other {w : World} {a a' : Option Addr} {cs : List Value} (h : Reads w a cs) (hne : ∀ b, blockOf a = some b → blockOf a' ≠ some b) (vs : List Value) : Reads (writeAt w a' vs) a cs := by
  rcases h with h | ⟨b, off, rfl, hlt, hc⟩
  · exact .inl h
  · match a', hne with
    | none, _ => exact .inr ⟨b, off, rfl, hlt, hc⟩
    | some ⟨b', off', sp⟩, hne =>
      have hn : b' ≠ b := fun e => hne b rfl (by simp [blockOf, e])
      refine .inr ⟨b, off, rfl, by rw [show writeAt w (some ⟨b', off', sp⟩) vs = w.setCells b' off' vs from rfl, setCells_size]; exact hlt, fun j hj => ?_⟩
      rw [← hc j hj]
      exact World.cell?_of_block (w := w) (setCells_heap b' vs off' w b (Ne.symm hn))

/-- What has been written is read. -/
theorem Reads.written {w : World} {a : Option Addr} {vs : List Value} (h : Writable w a vs.length) : Reads (writeAt w a vs) a vs := by
  rcases h with h | ⟨b, off, rfl, hlt, hc⟩
  · exact .inl (List.length_eq_zero_iff.1 h)
  · refine .inr ⟨b, off, rfl, by rw [show writeAt w (some ⟨b, off, none⟩) vs = w.setCells b off vs from rfl, setCells_size]; exact hlt, fun j hj => ?_⟩
    rw [show writeAt w (some ⟨b, off, none⟩) vs = w.setCells b off vs from rfl, World.cell?_setCells_in b vs off w (fun i hi => (hc i hi).1) j hj]
    simp [hj]

/-- What a call owns can be written. -/
theorem Writable.own {w : World} {base : Nat} {e : TypeId} {size : Nat} {a : Option Addr} {n c : Nat} {xs : List Value} (h : w.ownsRow base e size (.slice a n c) n xs) : Writable w a (n * size) := by
  obtain ⟨hl, h | ⟨g, cap, cur, hv, hg, hh, hn, hcap, hcs, htk⟩⟩ := h
  · obtain ⟨_, rfl⟩ := h
    exact .inl (by simp)
  · cases hv
    refine .inr ⟨g, 0, rfl, (Array.getElem?_eq_some_iff.1 hh).1, fun j hj => ⟨?_, frozen_of_row w g _ cur e hh⟩⟩
    have : n * size ≤ cur.size := by rw [hcs]; exact Nat.mul_le_mul_right _ hn
    rw [cell_of_row w g _ cur e _ hh, Nat.zero_add, Array.getElem?_eq_getElem (by omega)]; rfl

end Go.Proofs.YtgkkjlpfkoplhaaGreatDoor
