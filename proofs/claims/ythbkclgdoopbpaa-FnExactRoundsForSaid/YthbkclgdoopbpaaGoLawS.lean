/-
  Laws whose results are rows.
-/
import Derived.Test.YthbkclgdoopbpaaGoLaw
namespace Go.Proofs.Ythbkclgdoopbpaa
open Go.RowKit
set_option linter.unusedVariables false
set_option linter.unusedSimpArgs false

theorem Filled.writable {w : World} {g n : Nat} {cs : List Value} (h : Filled w g (n * 1) cs) : Writable w (some ⟨g, 0, none⟩) n :=
  .inr ⟨g, 0, rfl, h.1, fun j hj => by rw [Nat.zero_add]; exact h.2.1 j (by omega)⟩
theorem Writable.keep {w w' : World} {a : Option Addr} {n : Nat} (h : Writable w a n) (hb : Below w.heap.size w w') : Writable w' a n := by
  rcases h with h | ⟨b, off, rfl, hlt, hc⟩
  · exact .inl h
  · refine .inr ⟨b, off, rfl, Nat.lt_of_lt_of_le hlt hb.size, fun j hj => ?_⟩
    have hk := hb.block b hlt
    rw [World.cell?_of_block (w := w) (a := ⟨b, off + j, none⟩) hk, World.frozen?_of_block (w := w) (a := ⟨b, off + j, none⟩) hk]
    exact hc j hj
theorem write_heap (w : World) (a : Option Addr) (vs : List Value) (k : Nat) (h : blockOf a ≠ some k) : (writeAt w a vs).heap[k]? = w.heap[k]? := by
  match a with
  | none => rfl
  | some ⟨b, off, sp⟩ => exact setCells_heap b vs off w k (fun e => h (by simp [blockOf, e]))
theorem write_size (w : World) (a : Option Addr) (vs : List Value) : (writeAt w a vs).heap.size = w.heap.size := by
  match a with
  | none => rfl
  | some ⟨b, off, sp⟩ => exact setCells_size b vs off w
theorem own_block {a : Option Addr} {n c : Nat} : (Value.slice a n c).ownBlock = blockOf a := by
  match a with
  | none => rfl
  | some ⟨_, _, _⟩ => rfl
theorem own_cap {w : World} {B T n size : Nat} {v : Value} {xs : List Value} (h : w.ownsRow B T size v n xs) : ∃ a c, v = .slice a n c ∧ n ≤ c ∧ Reads w a xs ∧ (∀ x, a = some x → x.spot = none) := by
  obtain ⟨a, c, rfl, hr, -⟩ := Reads.own h
  obtain ⟨hl, ⟨hv, h2⟩ | ⟨g', cap, cur, hv, hb, hh, hn, r⟩⟩ := h
  · injection hv with h3 h4 h5
    subst h3 h5
    exact ⟨none, 0, rfl, by omega, hr, fun x e => by cases e⟩
  · injection hv with h3 h4 h5
    subst h3 h5
    exact ⟨_, _, rfl, hn, hr, fun x e => by cases e; rfl⟩
theorem owns_base {w : World} {B B' T n size : Nat} {v : Value} {xs : List Value} (h : w.ownsRow B' T size v n xs) (hb : B ≤ B') : w.ownsRow B T size v n xs := by
  obtain ⟨hl, ⟨rfl, h2⟩ | ⟨g', cap, cur, rfl, hbb, r⟩⟩ := h
  · exact ⟨hl, .inl ⟨rfl, h2⟩⟩
  · exact ⟨hl, .inr ⟨g', cap, cur, rfl, Nat.le_trans hb hbb, r⟩⟩
theorem owns_heap {w w' : World} {T base n size : Nat} {v : Value} {xs : List Value} (ho : w.ownsRow base T size v n xs) (hs : ∀ k, v.ownBlock = some k → w'.heap[k]? = w.heap[k]?) : w'.ownsRow base T size v n xs := by
  obtain ⟨hl, ⟨rfl, h2⟩ | ⟨g', cap, cur, rfl, hb, hh, r⟩⟩ := ho
  · exact ⟨hl, .inl ⟨rfl, h2⟩⟩
  · refine ⟨hl, .inr ⟨g', cap, cur, rfl, hb, ?_, r⟩⟩
    rw [hs g' (by simp [Value.ownBlock])]; exact hh
theorem owns_ge {w : World} {T base n size : Nat} {v : Value} {xs : List Value} (ho : w.ownsRow base T size v n xs) {g : Nat} (e : v.ownBlock = some g) : base ≤ g ∧ g < w.heap.size := by
  obtain ⟨hl, ⟨rfl, h2⟩ | ⟨g', cap, cur, rfl, hb, hh, r⟩⟩ := ho
  · simp [Value.ownBlock] at e
  · simp [Value.ownBlock] at e
    subst e
    exact ⟨hb, (Array.getElem?_eq_some_iff.1 hh).1⟩
theorem owns_apart {w : World} {g T T' base n size : Nat} {v : Value} {xs : List Value} {cs : Array Value} {fr : Nat × Nat} (h : w.heap[g]? = some (.cells cs T fr)) (hT : T ≠ T') (ho : w.ownsRow base T' size v n xs) : v.ownBlock ≠ some g := by
  obtain ⟨_, ⟨rfl, _⟩ | ⟨g', cap, cur, rfl, _, hh, _⟩⟩ := ho
  · simp [Value.ownBlock]
  · intro e
    simp [Value.ownBlock] at e
    subst e
    rw [hh] at h
    injection h with h
    injection h with h1 h2 h3
    exact hT h2.symm
/-- What a function hands back whose results are a row of its own and a bool. -/
def RowR (L : List Int) (o : Bool) (w : World) (e : Ending) (w' : World) : Prop :=
  ∃ v, e = .returned (.tuple #[v, .bool o]) ∧ w'.ownsRow w.heap.size 3 1 v L.length (ints L) ∧ Below w.heap.size w w'
theorem owns_nil (w : World) (B : Nat) (T : TypeId) : w.ownsRow B T 1 (.slice none 0 0) 0 (ints []) := ⟨rfl, .inl ⟨rfl, rfl⟩⟩

end Go.Proofs.Ythbkclgdoopbpaa
