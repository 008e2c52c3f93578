/-
  Pins: where the next ball belongs; a frame with one ball more.
-/
import Derived.Test.YthbkclgdoopbpaaPnRepeat
namespace Go.Proofs.Ythbkclgdoopbpaa
open Go.RowKit
set_option linter.unusedVariables false
set_option linter.unusedSimpArgs false

theorem three_cells {w : World} {g : Nat} {x y z : Value} (h : w.heap[g]? = some (.cells #[x, y, z] 69 (0, 0))) :
    w.cell? ⟨g, 0, none⟩ = some x ∧ w.cell? ⟨g, 1, none⟩ = some y ∧ w.cell? ⟨g, 2, none⟩ = some z ∧ w.frozen? ⟨g, 0, none⟩ = false ∧ w.frozen? ⟨g, 1, none⟩ = false ∧ w.frozen? ⟨g, 2, none⟩ = false :=
  ⟨cell_of_row _ _ 0 _ _ _ h, cell_of_row _ _ 1 _ _ _ h, cell_of_row _ _ 2 _ _ _ h, frozen_of_row _ _ 0 _ _ h, frozen_of_row _ _ 1 _ _ h, frozen_of_row _ _ 2 _ _ h⟩
theorem put3 {w : World} {g : Nat} {x y z : Value} (h : w.heap[g]? = some (.cells #[x, y, z] 69 (0, 0))) (a b d : Value) :
    (((w.setCell ⟨g, 0, none⟩ a).setCell ⟨g, 1, none⟩ b).setCell ⟨g, 2, none⟩ d).cell? ⟨g, 0, none⟩ = some a ∧ (((w.setCell ⟨g, 0, none⟩ a).setCell ⟨g, 1, none⟩ b).setCell ⟨g, 2, none⟩ d).cell? ⟨g, 1, none⟩ = some b ∧
    (((w.setCell ⟨g, 0, none⟩ a).setCell ⟨g, 1, none⟩ b).setCell ⟨g, 2, none⟩ d).cell? ⟨g, 2, none⟩ = some d := by
  obtain ⟨c0, c1, c2, -, -, -⟩ := three_cells h
  have ne : ∀ (o o' : Nat) (v : Value) (u : World), o ≠ o' → (u.setCell ⟨g, o', none⟩ v).cell? ⟨g, o, none⟩ = u.cell? ⟨g, o, none⟩ := fun o o' v u hne => World.cell?_setCell_other _ _ _ _ (by intro e; injection e with _ e2; exact hne e2.symm)
  refine ⟨?_, ?_, ?_⟩
  · rw [ne 0 2 _ _ (by decide), ne 0 1 _ _ (by decide)]; exact World.cell?_setCell_same _ _ _ c0
  · rw [ne 1 2 _ _ (by decide)]; exact World.cell?_setCell_same _ _ _ (by rw [ne 1 0 _ _ (by decide)]; exact c1)
  · exact World.cell?_setCell_same _ _ _ (by rw [ne 2 1 _ _ (by decide), ne 2 0 _ _ (by decide)]; exact c2)
theorem two_blocks {w w1 : World} {x y z x' y' z' : Value} (hb : Below ((w.alloc (.cells #[x, y, z] 69)).alloc (.cells #[x', y', z'] 69)).heap.size ((w.alloc (.cells #[x, y, z] 69)).alloc (.cells #[x', y', z'] 69)) w1) :
    w1.heap[w.heap.size]? = some (.cells #[x, y, z] 69 (0, 0)) ∧ w1.heap[w.heap.size + 1]? = some (.cells #[x', y', z'] 69 (0, 0)) := by
  constructor
  · rw [hb.block _ (by simp; omega), Below.heap_alloc _ _ _ (by simp)]; exact heap_alloc_last w _
  · rw [hb.block _ (by simp)]
    have := heap_alloc_last (w.alloc (.cells #[x, y, z] 69)) (.cells #[x', y', z'] 69)
    rw [World.size_alloc] at this; exact this

set_option maxHeartbeats 1600000 in
theorem with_0 (p : Int) (h : smallB []) (w : World) :
    Calls Try.prog 94 #[.agg #[.int .i64 (-1), .int .i64 (-1), .int .i64 (-1)], .int .i64 p] w fun e w' => e = .returned (frV [p]) ∧ Below w.heap.size w w' := by
  have hi : ∀ w : World, Calls Try.prog 42 #[.agg #[.int .i64 (-1), .int .i64 (-1), .int .i64 (-1)]] w fun e w' => e = .returned (.slice (some ⟨w.heap.size, 0, none⟩) 0 0) ∧ PnAt w' w.heap.size [] ∧ Below w.heap.size w w' := fun w => balls_any [] h w
  have HI := Lib.hid hi; clear hi h
  go_enter Try.func94, Try.ntmps94
  go_wp2_with fail
  refine (HI.out _).mono ?_; rintro e w1 ⟨rfl, p1, b1⟩
  clear p1
  obtain ⟨q0, q1⟩ := two_blocks b1
  obtain ⟨c0, c1, c2, f0, f1, f2⟩ := three_cells q0
  obtain ⟨d0, d1, d2, e0, e1, e2⟩ := three_cells q1
  have hput : (w1.setCell ⟨w.heap.size, 0, none⟩ (.int .i64 p)).heap[w.heap.size + 1]? = some (.cells #[.int .i64 0, .int .i64 0, .int .i64 0] 69 (0, 0)) := by rw [Below.heap_setCell _ _ _ _ (Nat.succ_ne_self _)]; exact q1
  obtain ⟨r0, r1, r2⟩ := put3 hput (.int .i64 (p)) (.int .i64 (-1)) (.int .i64 (-1))
  have R := Lib.hid (And.intro r0 (And.intro r1 r2)); clear r0 r1 r2 hput
  clear q0 q1
  have z1 := b1.size
  have B1 := Lib.hid b1; clear b1
  simp at z1
  go_wp2_with fail
  have b1 := B1.out
  obtain ⟨r0, r1, r2⟩ := R.out
  clear c0 c1 c2 f0 f1 f2 d0 d1 d2 e0 e1 e2
  refine bodyPost_ret (v := frV [p]) (by simp [results, Try.results94, go_sem, r0, r1, r2]) rfl ⟨rfl, ?_⟩
  (repeat (first | exact Below.refl _ _ | exact ‹Below _ _ _› | refine Below.drew ?_ | refine Below.alloc ?_ (by first | omega | (simp; done) | (simp; omega)) _ | refine Below.setCell ?_ (by first | omega | (simp; done) | (simp; omega)) _ | refine Below.trans ?_ (Below.mono ‹Below _ _ _› (by first | omega | (simp; done) | (simp; omega)))))

set_option maxHeartbeats 1600000 in
theorem with_1 (a : Int) (p : Int) (h : smallB [a]) (w : World) :
    Calls Try.prog 94 #[.agg #[.int .i64 (a), .int .i64 (-1), .int .i64 (-1)], .int .i64 p] w fun e w' => e = .returned (frV [a, p]) ∧ Below w.heap.size w w' := by
  have hi : ∀ w : World, Calls Try.prog 42 #[.agg #[.int .i64 (a), .int .i64 (-1), .int .i64 (-1)]] w fun e w' => e = .returned (.slice (some ⟨w.heap.size, 0, none⟩) 1 1) ∧ PnAt w' w.heap.size [a] ∧ Below w.heap.size w w' := fun w => balls_any [a] h w
  have HI := Lib.hid hi; clear hi h
  go_enter Try.func94, Try.ntmps94
  go_wp2_with fail
  refine (HI.out _).mono ?_; rintro e w1 ⟨rfl, p1, b1⟩
  clear p1
  obtain ⟨q0, q1⟩ := two_blocks b1
  obtain ⟨c0, c1, c2, f0, f1, f2⟩ := three_cells q0
  obtain ⟨d0, d1, d2, e0, e1, e2⟩ := three_cells q1
  have hput : (w1.setCell ⟨w.heap.size, 1, none⟩ (.int .i64 p)).heap[w.heap.size + 1]? = some (.cells #[.int .i64 0, .int .i64 0, .int .i64 0] 69 (0, 0)) := by rw [Below.heap_setCell _ _ _ _ (Nat.succ_ne_self _)]; exact q1
  obtain ⟨r0, r1, r2⟩ := put3 hput (.int .i64 (a)) (.int .i64 (p)) (.int .i64 (-1))
  have R := Lib.hid (And.intro r0 (And.intro r1 r2)); clear r0 r1 r2 hput
  clear q0 q1
  have z1 := b1.size
  have B1 := Lib.hid b1; clear b1
  simp at z1
  go_wp2_with fail
  have b1 := B1.out
  obtain ⟨r0, r1, r2⟩ := R.out
  clear c0 c1 c2 f0 f1 f2 d0 d1 d2 e0 e1 e2
  refine bodyPost_ret (v := frV [a, p]) (by simp [results, Try.results94, go_sem, r0, r1, r2]) rfl ⟨rfl, ?_⟩
  (repeat (first | exact Below.refl _ _ | exact ‹Below _ _ _› | refine Below.drew ?_ | refine Below.alloc ?_ (by first | omega | (simp; done) | (simp; omega)) _ | refine Below.setCell ?_ (by first | omega | (simp; done) | (simp; omega)) _ | refine Below.trans ?_ (Below.mono ‹Below _ _ _› (by first | omega | (simp; done) | (simp; omega)))))

set_option maxHeartbeats 1600000 in
theorem with_2 (a b : Int) (p : Int) (h : smallB [a, b]) (w : World) :
    Calls Try.prog 94 #[.agg #[.int .i64 (a), .int .i64 (b), .int .i64 (-1)], .int .i64 p] w fun e w' => e = .returned (frV [a, b, p]) ∧ Below w.heap.size w w' := by
  have hi : ∀ w : World, Calls Try.prog 42 #[.agg #[.int .i64 (a), .int .i64 (b), .int .i64 (-1)]] w fun e w' => e = .returned (.slice (some ⟨w.heap.size, 0, none⟩) 2 2) ∧ PnAt w' w.heap.size [a, b] ∧ Below w.heap.size w w' := fun w => balls_any [a, b] h w
  have HI := Lib.hid hi; clear hi h
  go_enter Try.func94, Try.ntmps94
  go_wp2_with fail
  refine (HI.out _).mono ?_; rintro e w1 ⟨rfl, p1, b1⟩
  clear p1
  obtain ⟨q0, q1⟩ := two_blocks b1
  obtain ⟨c0, c1, c2, f0, f1, f2⟩ := three_cells q0
  obtain ⟨d0, d1, d2, e0, e1, e2⟩ := three_cells q1
  have hput : (w1.setCell ⟨w.heap.size, 2, none⟩ (.int .i64 p)).heap[w.heap.size + 1]? = some (.cells #[.int .i64 0, .int .i64 0, .int .i64 0] 69 (0, 0)) := by rw [Below.heap_setCell _ _ _ _ (Nat.succ_ne_self _)]; exact q1
  obtain ⟨r0, r1, r2⟩ := put3 hput (.int .i64 (a)) (.int .i64 (b)) (.int .i64 (p))
  have R := Lib.hid (And.intro r0 (And.intro r1 r2)); clear r0 r1 r2 hput
  clear q0 q1
  have z1 := b1.size
  have B1 := Lib.hid b1; clear b1
  simp at z1
  go_wp2_with fail
  have b1 := B1.out
  obtain ⟨r0, r1, r2⟩ := R.out
  clear c0 c1 c2 f0 f1 f2 d0 d1 d2 e0 e1 e2
  refine bodyPost_ret (v := frV [a, b, p]) (by simp [results, Try.results94, go_sem, r0, r1, r2]) rfl ⟨rfl, ?_⟩
  (repeat (first | exact Below.refl _ _ | exact ‹Below _ _ _› | refine Below.drew ?_ | refine Below.alloc ?_ (by first | omega | (simp; done) | (simp; omega)) _ | refine Below.setCell ?_ (by first | omega | (simp; done) | (simp; omega)) _ | refine Below.trans ?_ (Below.mono ‹Below _ _ _› (by first | omega | (simp; done) | (simp; omega)))))

theorem with_any (bs : List Int) (p : Int) (h : smallB bs) (hl : bs.length ≤ 2) (w : World) :
    Calls Try.prog 94 #[frV bs, .int .i64 p] w fun e w' => e = .returned (frV (bs ++ [p])) ∧ Below w.heap.size w w' := by
  match bs, h, hl with
  | [], h, _ => exact with_0 p h w
  | [a], h, _ => exact with_1 a p h w
  | [a, b], h, _ => exact with_2 a b p h w

end Go.Proofs.Ythbkclgdoopbpaa
