/-
  Leagues: rows of two numbers, each one the call's own; what a law asks of them.
-/
import Derived.Test.YthbkclgdoopbpaaLgSs
namespace Go.Proofs.Ythbkclgdoopbpaa
open Go.RowKit
set_option linter.unusedVariables false
set_option linter.unusedSimpArgs false

def rows2 (l : List (Int × Int)) : List (List Int) := l.map fun s => [s.1, s.2]
theorem rows2_len (l : List (Int × Int)) : (rows2 l).length = l.length := by simp [rows2]
theorem rows2_get (l : List (Int × Int)) {j : Nat} (h : j < l.length) : (rows2 l).getD j [] = [(l.getD j (0, 0)).1, (l.getD j (0, 0)).2] := by simp [rows2, h]
theorem rows2_snoc (l : List (Int × Int)) (s : Int × Int) : rows2 (l ++ [s]) = rows2 l ++ [[s.1, s.2]] := by simp [rows2]

/-- Rows of pairs that the call made. -/
def PairD (B : Nat) (l : List (Int × Int)) (v : Value) (wr : World) : Prop :=
  ∃ vs, wr.ownsRow B 25 1 v l.length vs ∧ Heads vs (rows2 l) ∧ (∀ j, j < l.length → RowAt wr (blk vs j) 3 ((rows2 l).getD j []) ∧ B ≤ blk vs j) ∧ Apart vs (rows2 l)
theorem PairD.keep {B : Nat} {l : List (Int × Int)} {v : Value} {wr w' : World} (h : PairD B l v wr) (hb : Below wr.heap.size wr w') : PairD B l v w' := by
  obtain ⟨vs, h1, h2, h3, h4⟩ := h
  exact ⟨vs, owns_below h1 hb, h2, fun j hj => ⟨(h3 j hj).1.keep hb, (h3 j hj).2⟩, h4⟩
theorem PairD.base {B B' : Nat} {l : List (Int × Int)} {v : Value} {wr : World} (h : PairD B' l v wr) (hb : B ≤ B') : PairD B l v wr := by
  obtain ⟨vs, h1, h2, h3, h4⟩ := h
  exact ⟨vs, owns_base h1 hb, h2, fun j hj => ⟨(h3 j hj).1, Nat.le_trans hb (h3 j hj).2⟩, h4⟩
theorem PairD.nil (B : Nat) (wr : World) : PairD B [] (.slice none 0 0) wr :=
  ⟨[], ⟨rfl, .inl ⟨rfl, rfl⟩⟩, ⟨rfl, fun j hj => absurd hj (Nat.not_lt_zero _)⟩, fun j hj => absurd hj (Nat.not_lt_zero _), fun i j _ hj => absurd hj (Nat.not_lt_zero _)⟩
/-- The cells of the j-th row. -/
theorem PairD.row {B : Nat} {l : List (Int × Int)} {v : Value} {wr : World} (h : PairD B l v wr) {j : Nat} (hj : j < l.length) :
    ∃ go cap g c, v = .slice (some ⟨go, 0, none⟩) l.length cap ∧ wr.cell? ⟨go, j, none⟩ = some (.slice (some ⟨g, 0, none⟩) 2 c) ∧ wr.cell? ⟨g, 0, none⟩ = some (.int .i64 (l.getD j (0, 0)).1) ∧ wr.cell? ⟨g, 1, none⟩ = some (.int .i64 (l.getD j (0, 0)).2) := by
  obtain ⟨vs, h1, h2, h3, h4⟩ := h
  obtain ⟨hl, ⟨hv, hx⟩ | ⟨go, cap, cur, rfl, hb, hh, hn, hcap, hcs, htk⟩⟩ := h1
  · omega
  · obtain ⟨c, hc⟩ := h2.2 j (by rw [rows2_len]; exact hj)
    rw [rows2_get _ hj] at hc
    have hr := (h3 j hj).1
    rw [rows2_get _ hj] at hr
    refine ⟨go, cap, blk vs j, c, rfl, ?_, by simpa using hr.cell (j := 0) (by simp), by simpa using hr.cell (j := 1) (by simp)⟩
    rw [cell_of_row wr go _ cur _ _ hh]
    have e : cur[j]? = (cur.toList.take (l.length * 1))[j]? := by rw [List.getElem?_take_of_lt (by omega)]; simp
    rw [e, htk, hc]; rfl

/-- One row more: what the walk has behind the append. -/
theorem PairD.snoc' {B : Nat} {l : List (Int × Int)} {v v' : Value} {wr w5 : World} {a b : Int} (h : PairD B l v wr) (hB : B ≤ wr.heap.size)
    (hown : ∃ vs, wr.ownsRow B 25 1 v l.length vs ∧ (Heads vs (rows2 l) ∧ (∀ j, j < l.length → RowAt wr (blk vs j) 3 ((rows2 l).getD j []) ∧ B ≤ blk vs j) ∧ Apart vs (rows2 l)) ∧ w5.ownsRow B 25 1 v' (l.length + 1) (vs ++ [.slice (some ⟨wr.heap.size, 0, none⟩) 2 2]))
    (hg : ((wr.alloc (.cells #[.int .i64 a, .int .i64 b] 3)).alloc (.cells #[.slice (some ⟨wr.heap.size, 0, none⟩) 2 2] 25)).grownBy w5 v.ownBlock) : PairD B (l ++ [(a, b)]) v' w5 := by
  obtain ⟨vs, h1, ⟨h2, h3, h4⟩, ho⟩ := hown
  have hvl : vs.length = l.length := by have := h2.1; rwa [rows2_len] at this
  have hblk : ∀ j, j < l.length → blk (vs ++ [.slice (some ⟨wr.heap.size, 0, none⟩) 2 2]) j = blk vs j := fun j hj => by
    unfold blk; rw [List.getD_eq_getElem?_getD, List.getD_eq_getElem?_getD, List.getElem?_append_left (by omega)]
  have hblkN : blk (vs ++ [.slice (some ⟨wr.heap.size, 0, none⟩) 2 2]) l.length = wr.heap.size := by
    unfold blk; rw [List.getD_eq_getElem?_getD, List.getElem?_append_right (by omega), hvl]; simp [Value.ownBlock]
  have hlt : ∀ j, j < l.length → blk vs j < wr.heap.size := fun j hj => (h3 j hj).1.lt
  have hkeep : ∀ k, k < wr.heap.size → v.ownBlock ≠ some k → w5.heap[k]? = wr.heap[k]? := fun k hk hne => by
    rw [hg.block k (by simp; omega) (fun e => hne e.symm), Below.heap_alloc _ _ _ (by simp; omega), Below.heap_alloc _ _ _ (by omega)]
  have hnew : w5.heap[wr.heap.size]? = some (.cells (ints [a, b]).toArray 3 (0, 0)) := by
    have h0 : (wr.alloc (.cells #[.int .i64 a, .int .i64 b] 3)).heap[wr.heap.size]? = some (.cells (ints [a, b]).toArray 3 (0, 0)) := heap_alloc_last wr _
    rw [hg.block _ (by simp; omega) (fun e => by have := owns_ge h1 e.symm; omega), Below.heap_alloc _ _ _ (by simp)]
    exact h0
  refine ⟨_, by rw [List.length_append]; exact ho, ⟨by rw [rows2_len]; simp [hvl], fun j hj => ?_⟩, fun j hj => ?_, fun i j hij hj => ?_⟩
  · rw [rows2_len, List.length_append, List.length_singleton] at hj
    by_cases e : j < l.length
    · obtain ⟨c, hc⟩ := h2.2 j (by rw [rows2_len]; exact e)
      refine ⟨c, ?_⟩
      rw [hblk j e, List.getElem?_append_left (by omega), hc, rows2_snoc, List.getD_eq_getElem?_getD, List.getD_eq_getElem?_getD, List.getElem?_append_left (by rw [rows2_len]; exact e)]
    · obtain rfl : j = l.length := by omega
      refine ⟨2, ?_⟩
      rw [hblkN, List.getElem?_append_right (by omega), hvl, rows2_snoc, List.getD_eq_getElem?_getD, List.getElem?_append_right (by rw [rows2_len]; omega), rows2_len]
      simp
  · rw [List.length_append, List.length_singleton] at hj
    by_cases e : j < l.length
    · have hr := (h3 j e).1
      rw [hblk j e, rows2_snoc, List.getD_eq_getElem?_getD, List.getElem?_append_left (by rw [rows2_len]; exact e), ← List.getD_eq_getElem?_getD]
      refine ⟨?_, (h3 j e).2⟩
      unfold RowAt at hr ⊢
      rw [hkeep _ (hlt j e) (fun e2 => owns_apart hr (by decide) h1 e2)]
      exact hr
    · obtain rfl : j = l.length := by omega
      rw [hblkN, rows2_snoc, List.getD_eq_getElem?_getD, List.getElem?_append_right (by rw [rows2_len]; omega), rows2_len]
      have e2 : ([[(a, b).1, (a, b).2]] : List (List Int))[l.length - l.length]?.getD [] = [a, b] := by simp
      rw [e2]
      exact ⟨hnew, hB⟩
  · rw [rows2_len, List.length_append, List.length_singleton] at hj
    rw [hblk i (by omega)]
    by_cases e : j < l.length
    · rw [hblk j e]; exact h4 i j hij (by rw [rows2_len]; exact e)
    · obtain rfl : j = l.length := by omega
      rw [hblkN]
      have := hlt i hij
      omega
theorem RowAt.reads2 {w : World} {g : Nat} {e : TypeId} {cs : List Int} (h : RowAt w g e cs) : Reads w (some ⟨g, 0, none⟩) (ints cs) :=
  .inr ⟨g, 0, rfl, h.lt, fun j hj => by rw [ints_len] at hj; rw [Nat.zero_add, h.cell hj, ints_get cs j hj]⟩
/-- What the model's FramesOfRolls hands back: rows that are read. -/
def RdD (B : Nat) (D : List (List Int)) (v : Value) (wr : World) : Prop :=
  ∃ vs, wr.ownsRow B 25 1 v D.length vs ∧ Heads vs D ∧ ∀ j, j < D.length → Reads wr (some ⟨blk vs j, 0, none⟩) (ints (D.getD j [])) ∧ blk vs j < wr.heap.size
def FrC (B : Nat) (D : List (List Int)) (v : Value) (wr : World) : Prop :=
  ∃ vs, wr.ownsRow B 25 1 v D.length vs ∧ Heads vs D ∧ (∀ j, j < D.length → RowAt wr (blk vs j) 3 (D.getD j []) ∧ B ≤ blk vs j) ∧ Apart vs D
theorem FrC.heap {B : Nat} {wr w' : World} {D : List (List Int)} {v : Value} (h : FrC B D v wr) (hb : ∀ b, B ≤ b → b < wr.heap.size → w'.heap[b]? = wr.heap[b]?) : FrC B D v w' := by
  obtain ⟨vs, h1, h2, h3, h4⟩ := h
  refine ⟨vs, owns_heap h1 (fun k e => hb k (owns_ge h1 e).1 (owns_ge h1 e).2), h2, fun j hj => ⟨?_, (h3 j hj).2⟩, h4⟩
  have := (h3 j hj).1.lt
  have h5 := (h3 j hj).1
  unfold RowAt at *
  rw [hb _ (h3 j hj).2 this]; exact h5
theorem FrC.keep {B : Nat} {wr w' : World} {D : List (List Int)} {v : Value} (h : FrC B D v wr) (hb : Below wr.heap.size wr w') : FrC B D v w' :=
  h.heap (fun b _ hl => hb.block b hl)
theorem FrC.rd {B : Nat} {wr : World} {D : List (List Int)} {v : Value} (h : FrC B D v wr) (hs : ∀ j, j < D.length → (D.getD j []).length ≤ 3) : RdD B D v wr := by
  obtain ⟨vs, h1, h2, h3, h4⟩ := h
  exact ⟨vs, h1, h2, fun j hj => ⟨(h3 j hj).1.reads2, (h3 j hj).1.lt⟩⟩
theorem RdD.keep {B : Nat} {wr w' : World} {D : List (List Int)} {v : Value} (h : RdD B D v wr) (hb : Below wr.heap.size wr w') : RdD B D v w' := by
  obtain ⟨vs, h1, h2, h3⟩ := h
  have := hb.size
  exact ⟨vs, owns_below h1 hb, h2, fun j hj => ⟨(h3 j hj).1.old hb, by have := (h3 j hj).2; omega⟩⟩
theorem RdD.slice {B : Nat} {wr : World} {D : List (List Int)} {v : Value} (h : RdD B D v wr) : ∃ a c, v = .slice a D.length c := by
  obtain ⟨vs, h1, -⟩ := h
  obtain ⟨a, c, e, -⟩ := own_cap h1
  exact ⟨a, c, e⟩
theorem eqSS (D : List (List Int)) (hD : SmallD D) {B B' : Nat} (a a' : Option Addr) (c c' : Nat) (w : World) (h1 : RdD B D (.slice a D.length c) w) (h2 : RdD B' D (.slice a' D.length c') w) :
    Calls Try.prog 60 #[.slice a D.length c, .slice a' D.length c'] w fun e w' => e = .returned (.bool true) ∧ Below w.heap.size w w' := by
  obtain ⟨vs, o1, k1, q1⟩ := h1
  obtain ⟨us, o2, k2, q2⟩ := h2
  obtain ⟨x, y, e1, r1, -⟩ := Reads.own o1
  obtain ⟨x', y', e2, r2, -⟩ := Reads.own o2
  cases e1; cases e2
  exact eqIntSS_same D hD vs us _ _ _ _ w k1 k2 r1 r2 (fun j hj => (q1 j hj).1) (fun j hj => (q2 j hj).1)
theorem RowAt.writable {w : World} {g : Nat} {e : TypeId} {cs : List Int} (h : RowAt w g e cs) : Writable w (some ⟨g, 0, none⟩) cs.length :=
  .inr ⟨g, 0, rfl, h.lt, fun j hj => ⟨by rw [Nat.zero_add, h.cell hj]; rfl, frozen_of_row w g _ _ _ h⟩⟩

/-- The marked rows of the program's result. -/
def MkD (D : List (List Int)) (k0 : Int) (v : Value) (w : World) : Prop :=
  ∃ vs a c, v = .slice a D.length c ∧ Heads vs D ∧ Reads w a vs ∧ Marked w vs D k0 D.length
theorem MkD.keep {D : List (List Int)} {k0 : Int} {v : Value} {w w' : World} (h : MkD D k0 v w) (hb : Below w.heap.size w w') : MkD D k0 v w' := by
  obtain ⟨vs, a, c, h1, h2, h3, h4⟩ := h
  exact ⟨vs, a, c, h1, h2, h3.old hb, fun j hj => (h4 j hj).old hb⟩
theorem markSS (D : List (List Int)) (hD : SmallD D) (hs : ∀ j, j < D.length → (D.getD j []).length ≤ 3) {B B0 : Nat} (hB : B0 ≤ B) (a : Option Addr) (c : Nat) (w : World) (h : FrC B D (.slice a D.length c) w) :
    Calls Try.prog 61 #[.slice a D.length c, .int .i64 1] w fun e w' => e = .returned (.int .i64 (1 + (offs D D.length : Nat))) ∧ MkD D 1 (.slice a D.length c) w' ∧ Below B0 w w' := by
  obtain ⟨vs, o1, k1, q1, ap⟩ := h
  obtain ⟨x, y, e1, r1, -⟩ := Reads.own o1
  cases e1
  have hne : ∀ b, blockOf a = some b → ∀ j, j < D.length → b ≠ blk vs j := fun b e j hj e2 =>
    owns_apart (q1 j hj).1 (by decide) o1 (by rw [own_block, e, e2])
  refine (markIntSS_any D hD vs a c B0 1 (by omega) (by omega) w k1 r1 hne ap (fun j hj => ⟨(q1 j hj).1.writable, by have := (q1 j hj).2; omega, (q1 j hj).1.lt⟩)).mono ?_
  rintro e w' ⟨rfl, h1, h2, h3⟩
  refine ⟨rfl, ⟨vs, a, c, rfl, k1, ?_, h1⟩, h3⟩
  rcases r1 with r1 | ⟨b, off, rfl, hlt, hc⟩
  · exact .inl r1
  · exact .inr ⟨b, off, rfl, Nat.lt_of_lt_of_le hlt h3.size, fun j hj => by rw [← hc j hj]; exact World.cell?_of_block (w := w) (h2 b (fun i hi => hne b rfl i hi))⟩
theorem heldSS (D : List (List Int)) (hD : SmallD D) (a : Option Addr) (c : Nat) (w : World) (h : MkD D 1 (.slice a D.length c) w) :
    Calls Try.prog 62 #[.slice a D.length c, .int .i64 1] w fun e w' => e = .returned (.int .i64 (1 + (offs D D.length : Nat))) ∧ w' = w := by
  obtain ⟨vs, x, y, e1, h2, h3, h4⟩ := h
  cases e1
  exact heldIntSS_any D hD vs a c 1 (by omega) (by omega) w h2 h3 h4

theorem FrC.slice {B : Nat} {wr : World} {D : List (List Int)} {v : Value} (h : FrC B D v wr) : ∃ a c, v = .slice a D.length c := by
  obtain ⟨vs, h1, -⟩ := h
  obtain ⟨a, c, e, -⟩ := own_cap h1
  exact ⟨a, c, e⟩
theorem PairD.c {B : Nat} {l : List (Int × Int)} {v : Value} {wr : World} (h : PairD B l v wr) : FrC B (rows2 l) v wr := by
  obtain ⟨vs, h1, h2, h3, h4⟩ := h
  exact ⟨vs, by rw [rows2_len]; exact h1, h2, fun j hj => h3 j (by rwa [rows2_len] at hj), h4⟩
/-- What ScoresOn hands back. -/
def PrR (D : List (List Int)) (o : Bool) (w : World) (e : Ending) (w' : World) : Prop :=
  ∃ v, e = .returned (.tuple #[v, .bool o]) ∧ FrC w.heap.size D v w' ∧ Below w.heap.size w w'
theorem FrC.nil (B : Nat) (wr : World) : FrC B [] (.slice none 0 0) wr := (PairD.nil B wr).c
end Go.Proofs.Ythbkclgdoopbpaa
