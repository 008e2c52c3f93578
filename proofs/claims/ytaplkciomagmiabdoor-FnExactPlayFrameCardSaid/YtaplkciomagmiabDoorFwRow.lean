/-
  Frames: rows of numbers that the call itself made; arrays by value.
-/
import Derived.Test.YtaplkciomagmiabDoorFwMath
import Derived.Laws.OwnMore
import Derived.OwnWalk
import Derived.Deep.CutRange
import Derived.Maps.AppendAt
import Derived.LoopTactic
import Derived.StillTailTactics
import Derived.Lib.Strings
namespace Go.Proofs.YtaplkciomagmiabDoor
open Go.RowKit
set_option linter.unusedVariables false
set_option linter.unusedSimpArgs false

theorem infoInt : (Tryd.prog.info? 3).map (fun i => (i.zero, i.size, i.bytes)) = some (some (.int .i64 0), 1, 8) := by kernel_rfl
theorem below_new (w : World) (o : Obj) : Below w.heap.size w (w.alloc o) := (Below.refl _ _).alloc (Nat.le_refl _) _
/-- The block g holds these ints, and may be written. -/
def RowAt (w : World) (g : Nat) (e : TypeId) (cs : List Int) : Prop := w.heap[g]? = some (.cells (ints cs).toArray e (0, 0))

theorem RowAt.lt {w : World} {g : Nat} {e : TypeId} {cs : List Int} (h : RowAt w g e cs) : g < w.heap.size := (Array.getElem?_eq_some_iff.1 h).1
theorem RowAt.cell {w : World} {g : Nat} {e : TypeId} {cs : List Int} (h : RowAt w g e cs) {j : Nat} (hj : j < cs.length) : w.cell? ⟨g, j, none⟩ = some (.int .i64 (cs.getD j 0)) := by
  rw [cell_of_row w g j _ e _ h, List.getElem?_toArray, ints_get cs j hj]
theorem RowAt.free {w : World} {g : Nat} {e : TypeId} {cs : List Int} (h : RowAt w g e cs) (j : Nat) : w.frozen? ⟨g, j, none⟩ = false := frozen_of_row w g j _ e h
theorem RowAt.put {w : World} {g : Nat} {e : TypeId} {cs : List Int} (h : RowAt w g e cs) {j : Nat} (hj : j < cs.length) (x : Int) : RowAt (w.setCell ⟨g, j, none⟩ (.int .i64 x)) g e (cs.set j x) := by
  unfold RowAt at h ⊢
  have hs : g < w.heap.size := (Array.getElem?_eq_some_iff.1 h).1
  have hv : w.heap[g] = .cells (ints cs).toArray e (0, 0) := (Array.getElem?_eq_some_iff.1 h).2
  simp only [World.setCell]
  rw [Array.getElem?_eq_getElem (by simpa using hs), Array.getElem_modify_self, hv]
  simp [ints]
theorem RowAt.keep {w w' : World} {g : Nat} {e : TypeId} {cs : List Int} (h : RowAt w g e cs) (hb : Below w.heap.size w w') : RowAt w' g e cs := by
  unfold RowAt at h ⊢
  rw [hb.block g (RowAt.lt h)]; exact h
theorem RowAt.drewN {w : World} {g : Nat} {e : TypeId} {cs : List Int} (h : RowAt w g e cs) (n : Nat) : RowAt (w.drewN n) g e cs := h
theorem RowAt.own {w : World} {g base : Nat} {e : TypeId} {cs : List Int} (h : RowAt w g e cs) (hb : base ≤ g) (hl : cs.length ≤ maxLen) : w.ownsRow base e 1 (.slice (some ⟨g, 0, none⟩) cs.length cs.length) cs.length (ints cs) :=
  ⟨by rw [ints_len, Nat.mul_one], .inr ⟨g, cs.length, (ints cs).toArray, rfl, hb, h, Nat.le_refl _, hl, by simp [ints_len], by
    rw [List.take_of_length_le]
    simp [ints_len]⟩⟩
theorem RowAt.made {w : World} {g base n : Nat} {e : TypeId} (h : w.ownsRow base e 1 (.slice (some ⟨g, 0, none⟩) n n) n (madeCells #[.int .i64 0] n).toList) : RowAt w g e (List.replicate n 0) ∧ base ≤ g := by
  obtain ⟨hl, h | ⟨g', cap, cur, hv, hg, hh, hn, hcap, hcs, htk⟩⟩ := h
  · exact absurd h.1 (by simp)
  · cases hv
    refine ⟨?_, hg⟩
    unfold RowAt
    rw [hh]
    rw [toList_madeCells_one, List.take_of_length_le (by simp [hcs])] at htk
    have : cur = (ints (List.replicate n 0)).toArray := by
      apply Array.toList_inj.1
      rw [htk]; simp [ints]
    rw [this]

theorem ints_flat (l : List Int) : (ints l).toArray.all (·.oneCell') = true := by
  rw [Array.all_eq_true_iff_forall_mem]
  intro v hv
  simp [ints] at hv
  obtain ⟨x, _, rfl⟩ := hv
  rfl
theorem RowAt.other {w : World} {g : Nat} {e : TypeId} {cs : List Int} (h : RowAt w g e cs) (p : Addr) (v : Value) (hp : g ≠ p.block) : RowAt (w.setCell p v) g e cs := by
  unfold RowAt at h ⊢
  rw [heap_setCell_other w p g v hp]; exact h
theorem RowAt.otherRow {w : World} {g : Nat} {e : TypeId} {cs : List Int} (h : RowAt w g e cs) (g2 : Nat) (vs : Array Value) (hp : g ≠ g2) : RowAt (w.setRow g2 vs) g e cs := by
  unfold RowAt at h ⊢
  rw [setRow_other w g2 g vs hp]; exact h
theorem below_setRow {B : Nat} {a w : World} (h : Below B a w) {g : Nat} (hg : B ≤ g) (cs : Array Value) : Below B a (w.setRow g cs) :=
  ⟨h.os, h.tape, h.output, by have := h.size; simpa using this, fun k hk => by rw [setRow_other w g k cs (by omega)]; exact h.block k hk⟩
/-- A cell of an array by value. -/
theorem run_index_cell {P : Program} {T E : TypeId} {n : Nat} {d : TypeDesc} {i0 : TypeInfo} (hu : P.underlying T = some (.array n E)) (hE : P.underlying E = some d) (hd : (match d with | .struct _ => false | .array _ _ => false | _ => true) = true)
    (hi0 : P.info? E = some i0) (hs : i0.size = 1) (cs : Array Value) (i : Int) (v : Value) (h0 : 0 ≤ i) (h1 : i < n) (hc : cs[i.toNat]? = some v) (w : World) :
    (Instr.index T (.agg cs) (.int .i64 i)).run P w = .ok v w := by
  have hsz : (Go.sizeOf E).run P w = .ok 1 w := by simp [Go.sizeOf, typeInfo, hi0, hs]
  have hagg : (isAgg E).run P w = .ok false w := by
    unfold isAgg
    rw [Sem.run_bind, run_underlying hE w]
    cases d <;> simp_all
  simp [Instr.index, asIntOf, Sem.run_bind, Sem.run_pure, run_underlying hu w, h0, h1, part, hagg, hsz, hc]


theorem underInt : Tryd.prog.underlying 3 = some (.int .i64) := by kernel_rfl
theorem RowAt.iter {w : World} {g k : Nat} {e : TypeId} {cs : List Int} (h : RowAt w g e cs) (hne : g ≠ k) (s : ByteArray) (pos : Nat) : RowAt (w.iterAt k s pos) g e cs := by
  unfold RowAt at *; rw [Lib.iterAt_other _ _ _ _ _ hne]; exact h
end Go.Proofs.YtaplkciomagmiabDoor
