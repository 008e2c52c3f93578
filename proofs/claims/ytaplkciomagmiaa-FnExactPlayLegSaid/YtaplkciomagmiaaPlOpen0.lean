/-
  A slice of darts that comes in: what the walks are told of it.
-/
import Derived.Test.YtaplkciomagmiaaDaSlice
import Derived.Deep.SlicePairs
namespace Go.Proofs.Ytaplkciomagmiaa
open Go.RowKit Go.ChangeShapes Go.WideShapes Go.Deep

theorem open_darts {H : Type} {enc : TypeId × Value → H} {w : World} {a : Option Addr} {n c : Nat} {d : DataW H} {p : List MemPlace}
    (h : DataW.Trod enc Try.prog w 0 (fun _ => true) true 65 (.slice a n c) d p) :
    ∃ l : List (Int × Int), l.length = n ∧ (n : Int) ≤ 9223372036854775807 ∧ Reads w a (darts l) := by
  obtain ⟨fuel, hf⟩ := h
  rcases open_slice_pairs Try.underlying65 Try.underlying73 (by kernel_rfl) rfl rfl (by kernel_rfl) (by kernel_rfl) hf with ⟨hcs, _⟩ | ⟨x, len, cap, m, k, V0, V1, D0, D1, P0, P1, hcs, _, hl, hm, hmm, _, hi⟩
  · simp [Value.cells] at hcs
    obtain ⟨rfl, rfl, rfl⟩ := hcs
    exact ⟨[], rfl, by omega, .inl rfl⟩
  · simp [Value.cells] at hcs
    obtain ⟨rfl, rfl, rfl⟩ := hcs
    simp only [if_true] at hmm
    subst hmm
    unfold maxLen at hm
    have hcell : ∀ i, i < n → w.cell? (x.add (i * 2)) = some (.int .i64 (intOf (V0 i))) ∧ w.cell? (x.add (i * 2 + 1)) = some (.int .i64 (intOf (V1 i))) := by
      intro i hin
      obtain ⟨h0, h1, t0, t1⟩ := hi i (by omega)
      obtain ⟨x0, e0, _, _⟩ := DataW.trod_int Try.underlying3 t0
      obtain ⟨x1, e1, _, _⟩ := DataW.trod_int Try.underlying3 t1
      simp at e0 e1
      rw [h0, h1, e0, e1]
      exact ⟨rfl, rfl⟩
    refine ⟨(List.range n).map fun i => (intOf (V0 i), intOf (V1 i)), by simp, by omega, ?_⟩
    by_cases hn : n = 0
    · subst hn; exact .inl rfl
    obtain ⟨b, off, spot⟩ := x
    have hspot : spot = none := by simpa [Addr.add] using World.cell?_spot (hcell 0 (by omega)).1
    subst hspot
    refine .inr ⟨b, off, rfl, World.block_lt_of_cell? w _ (hcell 0 (by omega)).1, fun j hj => ?_⟩
    rw [darts_len] at hj
    simp at hj
    obtain ⟨q, hq, hj⟩ : ∃ q, q < n ∧ (j = q * 2 ∨ j = q * 2 + 1) := ⟨j / 2, by omega, by omega⟩
    obtain ⟨g0, g1⟩ := darts_get ((List.range n).map fun i => (intOf (V0 i), intOf (V1 i))) q (by simpa using hq)
    obtain ⟨k0, k1⟩ := hcell q hq
    rw [add_plain] at k0 k1
    have hd : ((List.range n).map fun i => (intOf (V0 i), intOf (V1 i))).getD q (0, 0) = (intOf (V0 q), intOf (V1 q)) := by simp [hq]
    rw [hd] at g0 g1
    rcases hj with rfl | rfl
    · rw [k0, g0]
    · rw [k1, g1]

end Go.Proofs.Ytaplkciomagmiaa
