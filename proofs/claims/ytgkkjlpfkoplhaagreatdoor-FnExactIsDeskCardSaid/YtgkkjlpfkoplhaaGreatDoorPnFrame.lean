/-
  Pins: the program's frames, ball by ball.
-/
import Derived.Test.YtgkkjlpfkoplhaaGreatDoorSliceInt
import Derived.Test.YtgkkjlpfkoplhaaGreatDoorPnFill
import Derived.Deep.WholeRow
import Derived.Deep.Slices
namespace Go.Proofs.YtgkkjlpfkoplhaaGreatDoor.Pn
open Go.RowKit
set_option linter.unusedVariables false
set_option linter.unusedSimpArgs false

/-- A frame's three cells. -/
abbrev cellsF (bs : List Int) : Array Value := #[.int .i64 (bs.getD 0 (-1)), .int .i64 (bs.getD 1 (-1)), .int .i64 (bs.getD 2 (-1))]
abbrev frV (bs : List Int) : Value := .agg (cellsF bs)
def PnAt (w : World) (g : Nat) (bs : List Int) : Prop := w.heap[g]? = some (.cells (cellsF bs) 85 (0, 0))
theorem PnAt.lt {w : World} {g : Nat} {bs : List Int} (h : PnAt w g bs) : g < w.heap.size := (Array.getElem?_eq_some_iff.1 h).1
theorem PnAt.keep {w w' : World} {g : Nat} {bs : List Int} (h : PnAt w g bs) (hb : Below w.heap.size w w') : PnAt w' g bs := by
  unfold PnAt at *; rw [hb.block _ (Array.getElem?_eq_some_iff.1 h).1]; exact h
theorem PnAt.old {w : World} {g : Nat} {bs : List Int} (h : PnAt w g bs) (o : Obj) : PnAt (w.alloc o) g bs := by
  unfold PnAt at *; rw [Below.heap_alloc _ _ _ (Array.getElem?_eq_some_iff.1 h).1]; exact h
theorem PnAt.new (w : World) (bs : List Int) : PnAt (w.alloc (.cells (cellsF bs) 85)) w.heap.size bs := heap_alloc_last w _
theorem PnAt.cells {w : World} {g : Nat} {bs : List Int} (h : PnAt w g bs) :
    w.cell? ⟨g, 0, none⟩ = some (.int .i64 (bs.getD 0 (-1))) ∧ w.cell? ⟨g, 1, none⟩ = some (.int .i64 (bs.getD 1 (-1))) ∧ w.cell? ⟨g, 2, none⟩ = some (.int .i64 (bs.getD 2 (-1))) :=
  ⟨cell_of_row _ _ 0 _ _ _ h, cell_of_row _ _ 1 _ _ _ h, cell_of_row _ _ 2 _ _ _ h⟩
theorem PnAt.cell {w : World} {g : Nat} {bs : List Int} (h : PnAt w g bs) (k : Nat) (hk : k < 3) : w.cell? ⟨g, k, none⟩ = some (.int .i64 (bs.getD k (-1))) := by
  obtain ⟨h0, h1, h2⟩ := h.cells
  match k, hk with
  | 0, _ => exact h0
  | 1, _ => exact h1
  | 2, _ => exact h2
theorem PnAt.reads {w : World} {g : Nat} {bs : List Int} (h : PnAt w g bs) (hs : bs.length ≤ 3) : Reads w (some ⟨g, 0, none⟩) (ints bs) := by
  refine .inr ⟨g, 0, rfl, h.lt, fun j hj => ?_⟩
  rw [ints_len] at hj
  rw [Nat.zero_add, h.cell j (by omega), ints_get _ _ hj]
  simp [hj]

set_option maxHeartbeats 400000 in
theorem emptyFrame_any (w : World) : Calls Tryz.prog 45 #[] w fun e w' => e = .returned (frV []) ∧ Below w.heap.size w w' := by
  go_enter Tryz.func45, Tryz.ntmps45
  go_wp2
  refine bodyPost_ret (v := frV []) (by simp [results, Tryz.results45, go_sem]) rfl ⟨rfl, ?_⟩
  (repeat (first | exact Below.refl _ _ | exact ‹Below _ _ _› | refine Below.drew ?_ | refine Below.alloc ?_ (by first | omega | (simp; done) | (simp; omega)) _ | refine Below.setCell ?_ (by first | omega | (simp; done) | (simp; omega)) _ | refine Below.trans ?_ (Below.mono ‹Below _ _ _› (by first | omega | (simp; done) | (simp; omega)))))

theorem getD_ne {bs : List Int} (h : smallB bs) {k : Nat} (hk : k < bs.length) : ((bs.getD k (-1)) != -1) = true := by
  have := h.2 bs[k] (List.getElem_mem hk)
  simp [hk]; omega
theorem getD_eq {bs : List Int} {k : Nat} (hk : bs.length ≤ k) : ((bs.getD k (-1)) != -1) = false := by
  simp [List.getElem?_eq_none hk]

set_option maxHeartbeats 800000 in
theorem balls_any (bs : List Int) (h : smallB bs) (w : World) :
    Calls Tryz.prog 73 #[frV bs] w fun e w' => e = .returned (.slice (some ⟨w.heap.size, 0, none⟩) bs.length bs.length) ∧ PnAt w' w.heap.size bs ∧ Below w.heap.size w w' := by
  have h3 := h.1
  have hlen : bs.length = 0 ∨ bs.length = 1 ∨ bs.length = 2 ∨ bs.length = 3 := by omega
  have e0 := fun hk => getD_ne h (k := 0) hk
  have e1 := fun hk => getD_ne h (k := 1) hk
  have e2 := fun hk => getD_ne h (k := 2) hk
  have f0 := fun hk => getD_eq (bs := bs) (k := 0) hk
  have f1 := fun hk => getD_eq (bs := bs) (k := 1) hk
  have f2 := fun hk => getD_eq (bs := bs) (k := 2) hk
  clear h h3
  have hP := PnAt.new w bs
  obtain ⟨c0, c1, c2⟩ := hP.cells
  have HP := Lib.hid hP; clear hP
  have bel : Below w.heap.size w (w.alloc (.cells (cellsF bs) 85)) := by (repeat (first | exact Below.refl _ _ | exact ‹Below _ _ _› | refine Below.drew ?_ | refine Below.alloc ?_ (by first | omega | (simp; done) | (simp; omega)) _ | refine Below.setCell ?_ (by first | omega | (simp; done) | (simp; omega)) _ | refine Below.trans ?_ (Below.mono ‹Below _ _ _› (by first | omega | (simp; done) | (simp; omega)))))
  have HB := Lib.hid bel; clear bel
  unfold frV cellsF at *
  generalize bs.getD 0 (-1) = x at *
  generalize bs.getD 1 (-1) = y at *
  generalize bs.getD 2 (-1) = z at *
  rcases hlen with hl | hl | hl | hl
  · have q0 := f0 (by omega)
    rw [hl]
    clear e0 e1 e2 f0 f1 f2 hl
    go_enter Tryz.func73, Tryz.ntmps73
    go_wp2_with fail
    refine wp_loop_rounds 1 ?_
    rw [rounds_succ]
    go_wp2
    go_ret
    exact ⟨rfl, HP.out, HB.out⟩
  · have q0 := e0 (by omega)
    have q1 := f1 (by omega)
    rw [hl]
    clear e0 e1 e2 f0 f1 f2 hl
    go_enter Tryz.func73, Tryz.ntmps73
    go_wp2_with fail
    refine wp_loop_rounds 2 ?_
    rw [rounds_succ]
    go_wp2
    rw [rounds_succ]
    go_wp2
    go_ret
    exact ⟨rfl, HP.out, HB.out⟩
  · have q0 := e0 (by omega)
    have q1 := e1 (by omega)
    have q2 := f2 (by omega)
    rw [hl]
    clear e0 e1 e2 f0 f1 f2 hl
    go_enter Tryz.func73, Tryz.ntmps73
    go_wp2_with fail
    refine wp_loop_rounds 3 ?_
    rw [rounds_succ]
    go_wp2
    rw [rounds_succ]
    go_wp2
    rw [rounds_succ]
    go_wp2
    go_ret
    exact ⟨rfl, HP.out, HB.out⟩
  · have q0 := e0 (by omega)
    have q1 := e1 (by omega)
    have q2 := e2 (by omega)
    rw [hl]
    clear e0 e1 e2 f0 f1 f2 hl
    go_enter Tryz.func73, Tryz.ntmps73
    go_wp2_with fail
    refine wp_loop_rounds 4 ?_
    rw [rounds_succ]
    go_wp2
    rw [rounds_succ]
    go_wp2
    rw [rounds_succ]
    go_wp2
    rw [rounds_succ]
    go_wp2
    go_ret
    exact ⟨rfl, HP.out, HB.out⟩

theorem strike_eq (bs : List Int) : (bs.getD 0 (-1) == 10) = strikeB bs := rfl

set_option maxHeartbeats 800000 in
theorem isStrike_any (bs : List Int) (w : World) :
    Calls Tryz.prog 100 #[frV bs] w fun e w' => e = .returned (.bool (strikeB bs)) ∧ Below w.heap.size w w' := by
  rw [← strike_eq]
  unfold frV cellsF
  generalize bs.getD 0 (-1) = x at *
  generalize bs.getD 1 (-1) = y at *
  generalize bs.getD 2 (-1) = z at *
  go_enter Tryz.func100, Tryz.ntmps100
  go_wp2
  go_ret
  refine ⟨rfl, ?_⟩
  (repeat (first | exact Below.refl _ _ | exact ‹Below _ _ _› | refine Below.drew ?_ | refine Below.alloc ?_ (by first | omega | (simp; done) | (simp; omega)) _ | refine Below.setCell ?_ (by first | omega | (simp; done) | (simp; omega)) _ | refine Below.trans ?_ (Below.mono ‹Below _ _ _› (by first | omega | (simp; done) | (simp; omega)))))

theorem spare_eq (bs : List Int) : spareB bs = (!strikeB bs && (bs.getD 0 (-1) + bs.getD 1 (-1) == 10)) := rfl
theorem getD_bd {bs : List Int} (h : smallB bs) (k : Nat) : -1 ≤ bs.getD k (-1) ∧ bs.getD k (-1) ≤ 10 := by
  by_cases hk : k < bs.length
  · have := h.2 bs[k] (List.getElem_mem hk)
    simp [hk]; omega
  · simp [List.getElem?_eq_none (by omega : bs.length ≤ k)]

set_option maxHeartbeats 800000 in
theorem isSpare_any (bs : List Int) (h : smallB bs) (w : World) :
    Calls Tryz.prog 105 #[frV bs] w fun e w' => e = .returned (.bool (spareB bs)) ∧ Below w.heap.size w w' := by
  obtain ⟨x0, x1⟩ := getD_bd h 0
  obtain ⟨y0, y1⟩ := getD_bd h 1
  have hP := PnAt.new w bs
  have HP := Lib.hid hP; clear hP h
  have hi := fun w => isStrike_any bs w
  rw [spare_eq]
  cases hs : strikeB bs
  · rw [hs] at hi
    have HI := Lib.hid hi; clear hi hs
    rw [show frV bs = .agg #[.int .i64 (bs.getD 0 (-1)), .int .i64 (bs.getD 1 (-1)), .int .i64 (bs.getD 2 (-1))] from rfl] at HI ⊢
    unfold PnAt cellsF at HP
    generalize bs.getD 0 (-1) = x at *
    generalize bs.getD 1 (-1) = y at *
    generalize bs.getD 2 (-1) = z at *
    go_enter Tryz.func105, Tryz.ntmps105
    go_wp2_with fail
    refine (HI.out _).mono ?_; rintro e w1 ⟨rfl, b1⟩
    obtain ⟨c1, f1⟩ := bcell b1; have z1 : w.heap.size < w1.heap.size := (by have := b1.size; (try simp at this); omega)
    go_wp2_with fail
    go_ret
    refine ⟨ret_bool (by simp), ?_⟩
    (repeat (first | exact Below.refl _ _ | exact ‹Below _ _ _› | refine Below.drew ?_ | refine Below.alloc ?_ (by first | omega | (simp; done) | (simp; omega)) _ | refine Below.setCell ?_ (by first | omega | (simp; done) | (simp; omega)) _ | refine Below.trans ?_ (Below.mono ‹Below _ _ _› (by first | omega | (simp; done) | (simp; omega)))))
  · rw [hs] at hi
    have HI := Lib.hid hi; clear hi hs
    rw [show frV bs = .agg #[.int .i64 (bs.getD 0 (-1)), .int .i64 (bs.getD 1 (-1)), .int .i64 (bs.getD 2 (-1))] from rfl] at HI ⊢
    unfold PnAt cellsF at HP
    generalize bs.getD 0 (-1) = x at *
    generalize bs.getD 1 (-1) = y at *
    generalize bs.getD 2 (-1) = z at *
    go_enter Tryz.func105, Tryz.ntmps105
    go_wp2_with fail
    refine (HI.out _).mono ?_; rintro e w1 ⟨rfl, b1⟩
    obtain ⟨c1, f1⟩ := bcell b1; have z1 : w.heap.size < w1.heap.size := (by have := b1.size; (try simp at this); omega)
    go_wp2_with fail
    go_ret
    refine ⟨ret_bool (by simp), ?_⟩
    (repeat (first | exact Below.refl _ _ | exact ‹Below _ _ _› | refine Below.drew ?_ | refine Below.alloc ?_ (by first | omega | (simp; done) | (simp; omega)) _ | refine Below.setCell ?_ (by first | omega | (simp; done) | (simp; omega)) _ | refine Below.trans ?_ (Below.mono ‹Below _ _ _› (by first | omega | (simp; done) | (simp; omega)))))

end Go.Proofs.YtgkkjlpfkoplhaaGreatDoor.Pn
