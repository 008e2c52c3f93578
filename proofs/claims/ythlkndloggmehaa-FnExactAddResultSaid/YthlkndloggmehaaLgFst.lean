/-
  Leagues: who can be first: points that may have room behind them.
-/
import Derived.Test.YthlkndloggmehaaLgMost
import Derived.Maps.AppendAt
namespace Go.Proofs.Ythlkndloggmehaa
open Go.RowKit
set_option linter.unusedVariables false
set_option linter.unusedSimpArgs false

theorem ints_one {l : List Int} : ∀ u ∈ ints l, u.oneCell' = true := by
  intro u hu
  obtain ⟨x, _, rfl⟩ := List.mem_map.1 hu
  rfl

theorem wpList_append_none {P : Program} {w : World} {ops : Array Oper} {rest : List Oper} {o : Oper} {a : Act} {Q : Exit → Act → World → Prop} (hgd : o.guard = none) (s x : Operand) (t : TypeId)
    (ho : o.op = .call { callee := .builtin .append, args := #[s, x], argTypes := #[t, t] }) (e : TypeId) (i : TypeInfo) (ht : P.underlying t = some (.slice e)) (hi : P.info? e = some i)
    (b off n cap : Nat) (hcap : n ≤ cap) (hs : a.eval s = .slice (some ⟨b, off, none⟩) n cap) (ad : Option Addr) (c : Nat) (hx : a.eval x = .slice ad 0 c)
    (h : wpList P ops Q rest (a.put o.dst (.slice (some ⟨b, off, none⟩) n cap)) w) : wpList P ops Q (o :: rest) a w := by
  refine wpList_plain hgd fun K hK => ?_
  have hsrc : Src P i.size t (.slice ad 0 c) 0 [] w := by
    cases ad with
    | none => exact Src.ofNil w ht c
    | some ad => exact Src.ofSlice w ht ad 0 c [] (by simp) (fun j u hu => by simp at hu) (fun u hu => by cases hu)
  have hrun := run_append_room_src (P := P) w t t o.type e i ht hi b off n cap (.slice ad 0 c) 0 [] hsrc (by omega) (fun j hj => by simp at hj) (fun j hj => by simp at hj)
  unfold Oper.wp execOp
  simp only [ho, resolve, invoke, builtin, Sem.run_bind, Sem.run_pure, Result.andThen_ok, List.map_toArray, List.map_cons, List.map_nil, hs, hx, hrun, Nat.add_zero, World.setCells]
  exact hK _ _ h

theorem owns_fresh (w : World) (e : TypeId) (size : Nat) : (w.alloc (.cells #[] e)).ownsRow w.heap.size e size (.slice (some ⟨w.heap.size, 0, none⟩) 0 0) 0 [] :=
  ⟨by simp, .inr ⟨w.heap.size, 0, #[], rfl, Nat.le_refl _, heap_alloc_last w _, Nat.le_refl _, by decide, by simp, by simp⟩⟩

/-- A row that may be written, with room behind it perhaps. -/
def PtR (w : World) (g : Nat) (cs : List Int) : Prop := g < w.heap.size ∧ ∀ j, j < cs.length → w.cell? ⟨g, j, none⟩ = some (.int .i64 (cs.getD j 0)) ∧ w.frozen? ⟨g, j, none⟩ = false
theorem PtR.cell {w : World} {g : Nat} {cs : List Int} (h : PtR w g cs) {j : Nat} (hj : j < cs.length) : w.cell? ⟨g, j, none⟩ = some (.int .i64 (cs.getD j 0)) := (h.2 j hj).1
theorem PtR.keep {w w' : World} {g : Nat} {cs : List Int} (h : PtR w g cs) (hb : Below w.heap.size w w') : PtR w' g cs :=
  ⟨Nat.lt_of_lt_of_le h.1 hb.size, fun j hj => by rw [hb.cell (p := ⟨g, j, none⟩) h.1, hb.frozen (p := ⟨g, j, none⟩) h.1]; exact h.2 j hj⟩
theorem PtR.put {w : World} {g : Nat} {cs : List Int} (h : PtR w g cs) {j : Nat} (hj : j < cs.length) (x : Int) : PtR (w.setCell ⟨g, j, none⟩ (.int .i64 x)) g (cs.set j x) := by
  refine ⟨by simpa using h.1, fun i hi => ?_⟩
  rw [List.length_set] at hi
  refine ⟨?_, by rw [World.frozen?_setCell]; exact (h.2 i hi).2⟩
  by_cases e : i = j
  · subst e
    rw [World.cell?_setCell_same _ _ _ (h.2 i hi).1]; simp [hi]
  · rw [World.cell?_setCell_other _ _ _ _ (by intro q; injection q with q1 q2; exact e q2.symm), (h.2 i hi).1]
    congr 2
    rw [List.getD_eq_getElem?_getD, List.getD_eq_getElem?_getD, List.getElem?_set_ne (fun q => e q.symm)]
theorem PtR.reads {w : World} {g : Nat} {cs : List Int} (h : PtR w g cs) : Reads w (some ⟨g, 0, none⟩) (ints cs) :=
  .inr ⟨g, 0, rfl, h.1, fun j hj => by rw [ints_len] at hj; rw [Nat.zero_add, h.cell hj, ints_get cs j hj]⟩
theorem PtR.ofRow {w : World} {g : Nat} {cs : List Int} (h : RowAt w g 3 cs) : PtR w g cs := ⟨h.lt, fun j hj => ⟨h.cell hj, h.free j⟩⟩
theorem PtR.ofOwn {w : World} {B : Nat} {v : Value} {cs : List Int} (hpos : 0 < cs.length) (h : w.ownsRow B 3 1 v cs.length (ints cs)) : ∃ g cp, v = .slice (some ⟨g, 0, none⟩) cs.length cp ∧ cs.length ≤ cp ∧ B ≤ g ∧ PtR w g cs := by
  obtain ⟨hl, ⟨rfl, h2⟩ | ⟨g, cap, cur, rfl, hb, hh, hn, hcap, hcs, htk⟩⟩ := h
  · omega
  · refine ⟨g, cap, rfl, hn, hb, (Array.getElem?_eq_some_iff.1 hh).1, fun j hj => ⟨?_, frozen_of_row w g _ cur _ hh⟩⟩
    rw [cell_of_row w g _ cur _ _ hh]
    have e : cur[j]? = (cur.toList.take (cs.length * 1))[j]? := by rw [List.getElem?_take_of_lt (by omega)]; simp
    rw [e, htk, ints_get cs j hj]

/-- The games that are left, as they are read. -/
def LfR (w : World) (a : Option Addr) (L : List (Int × Int)) : Prop :=
  L = [] ∨ ∃ go off, a = some ⟨go, off, none⟩ ∧ ∀ j, j < L.length → ∃ g c, w.cell? ⟨go, off + j, none⟩ = some (.slice (some ⟨g, 0, none⟩) 2 c) ∧ w.cell? ⟨g, 0, none⟩ = some (.int .i64 (L.getD j (0, 0)).1) ∧ w.cell? ⟨g, 1, none⟩ = some (.int .i64 (L.getD j (0, 0)).2)
theorem LfR.keep {w w' : World} {a : Option Addr} {L : List (Int × Int)} (h : LfR w a L) (hb : Below w.heap.size w w') : LfR w' a L := by
  rcases h with h | ⟨go, off, rfl, hc⟩
  · exact .inl h
  · refine .inr ⟨go, off, rfl, fun j hj => ?_⟩
    obtain ⟨g, c, h0, h1, h2⟩ := hc j hj
    have l0 := World.block_lt_of_cell? w _ h0
    have l1 := World.block_lt_of_cell? w _ h1
    exact ⟨g, c, by rw [hb.cell (p := ⟨go, off + j, none⟩) l0]; exact h0, by rw [hb.cell (p := ⟨g, 0, none⟩) l1]; exact h1, by rw [hb.cell (p := ⟨g, 1, none⟩) l1]; exact h2⟩
theorem LfR.ofPair {B : Nat} {L : List (Int × Int)} {v : Value} {w : World} (h : PairD B L v w) : ∃ a c, v = .slice a L.length c ∧ L.length ≤ c ∧ LfR w a L := by
  by_cases hL : L = []
  · subst hL
    obtain ⟨vs, h1, -⟩ := h
    obtain ⟨a, c, e, hc, -⟩ := own_cap h1
    exact ⟨a, c, e, hc, .inl rfl⟩
  · have hpos : 0 < L.length := by cases L with | nil => exact absurd rfl hL | cons _ _ => simp
    obtain ⟨go, cap, g, c, hv, -, -, -⟩ := h.row hpos
    have h0 := h
    obtain ⟨vs, h1, -⟩ := h0
    obtain ⟨a, c', e, hc, -⟩ := own_cap h1
    rw [hv] at e; injection e with e1 e2 e3
    subst e1 e3
    refine ⟨_, _, hv, hc, .inr ⟨go, 0, rfl, fun j hj => ?_⟩⟩
    obtain ⟨go', cap', g', c'', hv', h0', h1', h2'⟩ := h.row hj
    rw [hv] at hv'; injection hv' with q1 q2 q3
    injection q1 with q1; injection q1 with q1
    subst q1
    exact ⟨g', c'', by rw [Nat.zero_add]; exact h0', h1', h2'⟩
/-- The first game, and the others. -/
theorem LfR.head {w : World} {a : Option Addr} {p : Int × Int} {L : List (Int × Int)} (h : LfR w a (p :: L)) : ∃ go off g c, a = some ⟨go, off, none⟩ ∧ w.cell? ⟨go, off, none⟩ = some (.slice (some ⟨g, 0, none⟩) 2 c) ∧ w.cell? ⟨g, 0, none⟩ = some (.int .i64 p.1) ∧ w.cell? ⟨g, 1, none⟩ = some (.int .i64 p.2) ∧ LfR w (some ⟨go, off + 1, none⟩) L := by
  rcases h with h | ⟨go, off, rfl, hc⟩
  · cases h
  · obtain ⟨g, c, h0, h1, h2⟩ := hc 0 (by simp)
    refine ⟨go, off, g, c, rfl, by simpa using h0, by simpa using h1, by simpa using h2, .inr ⟨go, off + 1, rfl, fun j hj => ?_⟩⟩
    obtain ⟨g', c', k0, k1, k2⟩ := hc (j + 1) (by simpa using hj)
    exact ⟨g', c', by rw [show off + 1 + j = off + (j + 1) from by omega]; exact k0, by simpa using k1, by simpa using k2⟩

end Go.Proofs.Ythlkndloggmehaa
