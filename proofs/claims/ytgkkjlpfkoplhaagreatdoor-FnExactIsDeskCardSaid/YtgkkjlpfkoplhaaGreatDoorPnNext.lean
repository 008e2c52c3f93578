/-
  Pins: where the next ball belongs; a frame with one ball more.
-/
import Derived.Test.YtgkkjlpfkoplhaaGreatDoorPnRepeat
namespace Go.Proofs.YtgkkjlpfkoplhaaGreatDoor.Pn
open Go.RowKit
set_option linter.unusedVariables false
set_option linter.unusedSimpArgs false

theorem three_cells {w : World} {g : Nat} {x y z : Value} (h : w.heap[g]? = some (.cells #[x, y, z] 85 (0, 0))) :
    w.cell? ⟨g, 0, none⟩ = some x ∧ w.cell? ⟨g, 1, none⟩ = some y ∧ w.cell? ⟨g, 2, none⟩ = some z ∧ w.frozen? ⟨g, 0, none⟩ = false ∧ w.frozen? ⟨g, 1, none⟩ = false ∧ w.frozen? ⟨g, 2, none⟩ = false :=
  ⟨cell_of_row _ _ 0 _ _ _ h, cell_of_row _ _ 1 _ _ _ h, cell_of_row _ _ 2 _ _ _ h, frozen_of_row _ _ 0 _ _ h, frozen_of_row _ _ 1 _ _ h, frozen_of_row _ _ 2 _ _ h⟩
theorem put3 {w : World} {g : Nat} {x y z : Value} (h : w.heap[g]? = some (.cells #[x, y, z] 85 (0, 0))) (a b d : Value) :
    (((w.setCell ⟨g, 0, none⟩ a).setCell ⟨g, 1, none⟩ b).setCell ⟨g, 2, none⟩ d).cell? ⟨g, 0, none⟩ = some a ∧ (((w.setCell ⟨g, 0, none⟩ a).setCell ⟨g, 1, none⟩ b).setCell ⟨g, 2, none⟩ d).cell? ⟨g, 1, none⟩ = some b ∧
    (((w.setCell ⟨g, 0, none⟩ a).setCell ⟨g, 1, none⟩ b).setCell ⟨g, 2, none⟩ d).cell? ⟨g, 2, none⟩ = some d := by
  obtain ⟨c0, c1, c2, -, -, -⟩ := three_cells h
  have ne : ∀ (o o' : Nat) (v : Value) (u : World), o ≠ o' → (u.setCell ⟨g, o', none⟩ v).cell? ⟨g, o, none⟩ = u.cell? ⟨g, o, none⟩ := fun o o' v u hne => World.cell?_setCell_other _ _ _ _ (by intro e; injection e with _ e2; exact hne e2.symm)
  refine ⟨?_, ?_, ?_⟩
  · rw [ne 0 2 _ _ (by decide), ne 0 1 _ _ (by decide)]; exact World.cell?_setCell_same _ _ _ c0
  · rw [ne 1 2 _ _ (by decide)]; exact World.cell?_setCell_same _ _ _ (by rw [ne 1 0 _ _ (by decide)]; exact c1)
  · exact World.cell?_setCell_same _ _ _ (by rw [ne 2 1 _ _ (by decide), ne 2 0 _ _ (by decide)]; exact c2)
theorem two_blocks {w w1 : World} {x y z x' y' z' : Value} (hb : Below ((w.alloc (.cells #[x, y, z] 85)).alloc (.cells #[x', y', z'] 85)).heap.size ((w.alloc (.cells #[x, y, z] 85)).alloc (.cells #[x', y', z'] 85)) w1) :
    w1.heap[w.heap.size]? = some (.cells #[x, y, z] 85 (0, 0)) ∧ w1.heap[w.heap.size + 1]? = some (.cells #[x', y', z'] 85 (0, 0)) := by
  constructor
  · rw [hb.block _ (by simp; omega), Below.heap_alloc _ _ _ (by simp)]; exact heap_alloc_last w _
  · rw [hb.block _ (by simp)]
    have := heap_alloc_last (w.alloc (.cells #[x, y, z] 85)) (.cells #[x', y', z'] 85)
    rw [World.size_alloc] at this; exact this

set_option maxHeartbeats 1600000 in
theorem with_0 (p : Int) (h : smallB []) (w : World) :
    Calls Tryz.prog 47 #[.agg #[.int .i64 (-1), .int .i64 (-1), .int .i64 (-1)], .int .i64 p] w fun e w' => e = .returned (frV [p]) ∧ Below w.heap.size w w' := by
  have hi : ∀ w : World, Calls Tryz.prog 73 #[.agg #[.int .i64 (-1), .int .i64 (-1), .int .i64 (-1)]] w fun e w' => e = .returned (.slice (some ⟨w.heap.size, 0, none⟩) 0 0) ∧ PnAt w' w.heap.size [] ∧ Below w.heap.size w w' := fun w => balls_any [] h w
  have HI := Lib.hid hi; clear hi h
  go_enter Tryz.func47, Tryz.ntmps47
  go_wp2_with fail
  refine (HI.out _).mono ?_; rintro e w1 ⟨rfl, p1, b1⟩
  clear p1
  obtain ⟨q0, q1⟩ := two_blocks b1
  obtain ⟨c0, c1, c2, f0, f1, f2⟩ := three_cells q0
  obtain ⟨d0, d1, d2, e0, e1, e2⟩ := three_cells q1
  have hput : (w1.setCell ⟨w.heap.size, 0, none⟩ (.int .i64 p)).heap[w.heap.size + 1]? = some (.cells #[.int .i64 0, .int .i64 0, .int .i64 0] 85 (0, 0)) := by rw [Below.heap_setCell _ _ _ _ (Nat.succ_ne_self _)]; exact q1
  obtain ⟨r0, r1, r2⟩ := put3 hput (.int .i64 (p)) (.int .i64 (-1)) (.int .i64 (-1))
  have R := Lib.hid (And.intro r0 (And.intro r1 r2)); clear r0 r1 r2 hput
  clear q0 q1
  have z1 := b1.size
  have B1 := Lib.hid b1; clear b1
  simp at z1
  go_wp2_with fail
  have b1 := B1.out
  obtain ⟨r0, r1, r2⟩ := R.out
  clear c0 c1 c2 f0 f1 f2 d0 d1 d2 e0 e1 e2
  refine bodyPost_ret (v := frV [p]) (by simp [results, Tryz.results47, go_sem, r0, r1, r2]) rfl ⟨rfl, ?_⟩
  (repeat (first | exact Below.refl _ _ | exact ‹Below _ _ _› | refine Below.drew ?_ | refine Below.alloc ?_ (by first | omega | (simp; done) | (simp; omega)) _ | refine Below.setCell ?_ (by first | omega | (simp; done) | (simp; omega)) _ | refine Below.trans ?_ (Below.mono ‹Below _ _ _› (by first | omega | (simp; done) | (simp; omega)))))

set_option maxHeartbeats 1600000 in
theorem with_1 (a : Int) (p : Int) (h : smallB [a]) (w : World) :
    Calls Tryz.prog 47 #[.agg #[.int .i64 (a), .int .i64 (-1), .int .i64 (-1)], .int .i64 p] w fun e w' => e = .returned (frV [a, p]) ∧ Below w.heap.size w w' := by
  have hi : ∀ w : World, Calls Tryz.prog 73 #[.agg #[.int .i64 (a), .int .i64 (-1), .int .i64 (-1)]] w fun e w' => e = .returned (.slice (some ⟨w.heap.size, 0, none⟩) 1 1) ∧ PnAt w' w.heap.size [a] ∧ Below w.heap.size w w' := fun w => balls_any [a] h w
  have HI := Lib.hid hi; clear hi h
  go_enter Tryz.func47, Tryz.ntmps47
  go_wp2_with fail
  refine (HI.out _).mono ?_; rintro e w1 ⟨rfl, p1, b1⟩
  clear p1
  obtain ⟨q0, q1⟩ := two_blocks b1
  obtain ⟨c0, c1, c2, f0, f1, f2⟩ := three_cells q0
  obtain ⟨d0, d1, d2, e0, e1, e2⟩ := three_cells q1
  have hput : (w1.setCell ⟨w.heap.size, 1, none⟩ (.int .i64 p)).heap[w.heap.size + 1]? = some (.cells #[.int .i64 0, .int .i64 0, .int .i64 0] 85 (0, 0)) := by rw [Below.heap_setCell _ _ _ _ (Nat.succ_ne_self _)]; exact q1
  obtain ⟨r0, r1, r2⟩ := put3 hput (.int .i64 (a)) (.int .i64 (p)) (.int .i64 (-1))
  have R := Lib.hid (And.intro r0 (And.intro r1 r2)); clear r0 r1 r2 hput
  clear q0 q1
  have z1 := b1.size
  have B1 := Lib.hid b1; clear b1
  simp at z1
  go_wp2_with fail
  have b1 := B1.out
  obtain ⟨r0, r1, r2⟩ := R.out
  clear c0 c1 c2 f0 f1 f2 d0 d1 d2 e0 e1 e2
  refine bodyPost_ret (v := frV [a, p]) (by simp [results, Tryz.results47, go_sem, r0, r1, r2]) rfl ⟨rfl, ?_⟩
  (repeat (first | exact Below.refl _ _ | exact ‹Below _ _ _› | refine Below.drew ?_ | refine Below.alloc ?_ (by first | omega | (simp; done) | (simp; omega)) _ | refine Below.setCell ?_ (by first | omega | (simp; done) | (simp; omega)) _ | refine Below.trans ?_ (Below.mono ‹Below _ _ _› (by first | omega | (simp; done) | (simp; omega)))))

set_option maxHeartbeats 1600000 in
theorem with_2 (a b : Int) (p : Int) (h : smallB [a, b]) (w : World) :
    Calls Tryz.prog 47 #[.agg #[.int .i64 (a), .int .i64 (b), .int .i64 (-1)], .int .i64 p] w fun e w' => e = .returned (frV [a, b, p]) ∧ Below w.heap.size w w' := by
  have hi : ∀ w : World, Calls Tryz.prog 73 #[.agg #[.int .i64 (a), .int .i64 (b), .int .i64 (-1)]] w fun e w' => e = .returned (.slice (some ⟨w.heap.size, 0, none⟩) 2 2) ∧ PnAt w' w.heap.size [a, b] ∧ Below w.heap.size w w' := fun w => balls_any [a, b] h w
  have HI := Lib.hid hi; clear hi h
  go_enter Tryz.func47, Tryz.ntmps47
  go_wp2_with fail
  refine (HI.out _).mono ?_; rintro e w1 ⟨rfl, p1, b1⟩
  clear p1
  obtain ⟨q0, q1⟩ := two_blocks b1
  obtain ⟨c0, c1, c2, f0, f1, f2⟩ := three_cells q0
  obtain ⟨d0, d1, d2, e0, e1, e2⟩ := three_cells q1
  have hput : (w1.setCell ⟨w.heap.size, 2, none⟩ (.int .i64 p)).heap[w.heap.size + 1]? = some (.cells #[.int .i64 0, .int .i64 0, .int .i64 0] 85 (0, 0)) := by rw [Below.heap_setCell _ _ _ _ (Nat.succ_ne_self _)]; exact q1
  obtain ⟨r0, r1, r2⟩ := put3 hput (.int .i64 (a)) (.int .i64 (b)) (.int .i64 (p))
  have R := Lib.hid (And.intro r0 (And.intro r1 r2)); clear r0 r1 r2 hput
  clear q0 q1
  have z1 := b1.size
  have B1 := Lib.hid b1; clear b1
  simp at z1
  go_wp2_with fail
  have b1 := B1.out
  obtain ⟨r0, r1, r2⟩ := R.out
  clear c0 c1 c2 f0 f1 f2 d0 d1 d2 e0 e1 e2
  refine bodyPost_ret (v := frV [a, b, p]) (by simp [results, Tryz.results47, go_sem, r0, r1, r2]) rfl ⟨rfl, ?_⟩
  (repeat (first | exact Below.refl _ _ | exact ‹Below _ _ _› | refine Below.drew ?_ | refine Below.alloc ?_ (by first | omega | (simp; done) | (simp; omega)) _ | refine Below.setCell ?_ (by first | omega | (simp; done) | (simp; omega)) _ | refine Below.trans ?_ (Below.mono ‹Below _ _ _› (by first | omega | (simp; done) | (simp; omega)))))

theorem with_any (bs : List Int) (p : Int) (h : smallB bs) (hl : bs.length ≤ 2) (w : World) :
    Calls Tryz.prog 47 #[frV bs, .int .i64 p] w fun e w' => e = .returned (frV (bs ++ [p])) ∧ Below w.heap.size w w' := by
  match bs, h, hl with
  | [], h, _ => exact with_0 p h w
  | [a], h, _ => exact with_1 a p h w
  | [a, b], h, _ => exact with_2 a b p h w

set_option maxHeartbeats 1600000 in
theorem next_nil (w : World) :
    Calls Tryz.prog 46 #[.slice none 0 0] w fun e w' => e = .returned (.tuple #[.int .i64 0, .int .i64 0]) ∧ w = w' := by
  go_enter Tryz.func46, Tryz.ntmps46
  go_wp2_with fail
  refine wp_loop_rounds 1 ?_
  rw [rounds_succ]
  go_wp2
  go_ret2
  exact ⟨rfl, rfl⟩

set_option maxHeartbeats 1600000 in
theorem next_at (S : List (List Int)) (F P : Nat) (st : Int) (hF : S.length = F) (hF2 : F ≤ 10) (hs : ∀ i, smallB (S.getD i [])) (hP : P < F) (h0 : ∀ i, i < P → stF (decide (i + 1 = F)) (S.getD i []) = 0) (h1 : stF (decide (P + 1 = F)) (S.getD P []) = st) (h2 : 0 < st) (g c : Nat) (w : World) (hx : ShAt w g S) :
    Calls Tryz.prog 46 #[.slice (some ⟨g, 0, none⟩) F c] w fun e w' => e = .returned (.tuple #[.int .i64 P, .int .i64 st]) ∧ Below w.heap.size w w' := by
  have HX := Lib.hid hx; clear hx
  have HF := Lib.hid hF; clear hF
  have HS := Lib.hid hs; clear hs
  have H0 := Lib.hid h0; clear h0
  have H1 := Lib.hid h1; clear h1
  go_enter Tryz.func46, Tryz.ntmps46
  go_wp2_with fail
  go_loopw [9] (fun i wr => ∃ k : Nat, i = .int .i64 k ∧ k ≤ P ∧ Below w.heap.size w wr) (fun i _ => F - (intOf i).toNat)
  case atStart => exact ⟨0, rfl, Nat.zero_le _, Below.refl _ _⟩
  case round =>
    obtain ⟨k, rfl, hk, hb⟩ := hrel
    have HB := Lib.hid hb; clear hb
    have hlt : k < F := by omega
    have hkF : (k : Int) < (F : Int) := by omega
    have hx1 : ShAt wr g S := by have := HB.out; have h2 := HX.out.lt; unfold ShAt; rw [this.block _ h2]; exact HX.out
    obtain ⟨c0, c1, c2⟩ := hx1.cells (j := k) (by rw [HF.out]; exact hlt)
    have hst := fun w => standing_any (decide (k + 1 = F)) (S.getD k []) (HS.out k) w
    rw [show frV (S.getD k []) = .agg #[.int .i64 ((S.getD k []).getD 0 (-1)), .int .i64 ((S.getD k []).getD 1 (-1)), .int .i64 ((S.getD k []).getD 2 (-1))] from rfl] at hst
    have hlast : ((k : Int) == (F : Int) - 1) = decide (k + 1 = F) := by rw [Bool.eq_iff_iff]; simp; omega
    clear hx1
    by_cases hkP : k < P
    · rw [H0.out k hkP] at hst
      have HST := Lib.hid hst; clear hst
      have hsz := HB.out.size
      generalize hlb : decide (k + 1 = F) = lb at *
      clear hlb
      generalize (S.getD k []).getD 0 (-1) = x at *
      generalize (S.getD k []).getD 1 (-1) = y at *
      generalize (S.getD k []).getD 2 (-1) = z at *
      go_wp2_with fail
      refine (HST.out _).mono ?_; rintro e w1 ⟨rfl, b1⟩
      have HB1 := Lib.hid ((HB.out.alloc hsz _).trans (b1.mono (by simp; omega)))
      clear b1 hlast c0 c1 c2
      go_wp2_with fail
      go_roundw
      case rel => exact ⟨k + 1, by go_num, by omega, HB1.out⟩
      case measure => simp [intOf]; omega
    · obtain rfl : k = P := by omega
      rw [H1.out] at hst
      have HST := Lib.hid hst; clear hst
      have hsz := HB.out.size
      generalize hlb : decide (k + 1 = F) = lb at *
      clear hlb
      generalize (S.getD k []).getD 0 (-1) = x at *
      generalize (S.getD k []).getD 1 (-1) = y at *
      generalize (S.getD k []).getD 2 (-1) = z at *
      go_wp2_with fail
      refine (HST.out _).mono ?_; rintro e w1 ⟨rfl, b1⟩
      have HB1 := Lib.hid ((HB.out.alloc hsz _).trans (b1.mono (by simp; omega)))
      clear b1 hlast c0 c1 c2
      go_wp2_with fail
      go_ret2
      exact ⟨rfl, HB1.out⟩

set_option maxHeartbeats 1600000 in
theorem next_none (S : List (List Int)) (F : Nat) (hF : S.length = F) (hF2 : F ≤ 10) (hs : ∀ i, smallB (S.getD i [])) (h0 : ∀ i, i < F → stF (decide (i + 1 = F)) (S.getD i []) = 0) (g c : Nat) (w : World) (hx : ShAt w g S) :
    Calls Tryz.prog 46 #[.slice (some ⟨g, 0, none⟩) F c] w fun e w' => e = .returned (.tuple #[.int .i64 0, .int .i64 0]) ∧ Below w.heap.size w w' := by
  have HX := Lib.hid hx; clear hx
  have HF := Lib.hid hF; clear hF
  have HS := Lib.hid hs; clear hs
  have H0 := Lib.hid h0; clear h0
  go_enter Tryz.func46, Tryz.ntmps46
  go_wp2_with fail
  go_loopw [9] (fun i wr => ∃ k : Nat, i = .int .i64 k ∧ k ≤ F ∧ Below w.heap.size w wr) (fun i _ => F - (intOf i).toNat)
  case atStart => exact ⟨0, rfl, Nat.zero_le _, Below.refl _ _⟩
  case round =>
    obtain ⟨k, rfl, hk, hb⟩ := hrel
    have HB := Lib.hid hb; clear hb
    by_cases hlt : k < F
    · have hkF : (k : Int) < (F : Int) := by omega
      have hx1 : ShAt wr g S := by have := HB.out; have h2 := HX.out.lt; unfold ShAt; rw [this.block _ h2]; exact HX.out
      obtain ⟨c0, c1, c2⟩ := hx1.cells (j := k) (by rw [HF.out]; exact hlt)
      have hst := fun w => standing_any (decide (k + 1 = F)) (S.getD k []) (HS.out k) w
      rw [show frV (S.getD k []) = .agg #[.int .i64 ((S.getD k []).getD 0 (-1)), .int .i64 ((S.getD k []).getD 1 (-1)), .int .i64 ((S.getD k []).getD 2 (-1))] from rfl] at hst
      have hlast : ((k : Int) == (F : Int) - 1) = decide (k + 1 = F) := by rw [Bool.eq_iff_iff]; simp; omega
      clear hx1
      rw [H0.out k hlt] at hst
      have HST := Lib.hid hst; clear hst
      have hsz := HB.out.size
      generalize hlb : decide (k + 1 = F) = lb at *
      clear hlb
      generalize (S.getD k []).getD 0 (-1) = x at *
      generalize (S.getD k []).getD 1 (-1) = y at *
      generalize (S.getD k []).getD 2 (-1) = z at *
      go_wp2_with fail
      refine (HST.out _).mono ?_; rintro e w1 ⟨rfl, b1⟩
      have HB1 := Lib.hid ((HB.out.alloc hsz _).trans (b1.mono (by simp; omega)))
      clear b1 hlast c0 c1 c2
      go_wp2_with fail
      go_roundw
      case rel => exact ⟨k + 1, by go_num, by omega, HB1.out⟩
      case measure => simp [intOf]; omega
    · obtain rfl : k = F := by omega
      go_wp2_with fail
      go_ret2
      exact ⟨rfl, HB.out⟩

end Go.Proofs.YtgkkjlpfkoplhaaGreatDoor.Pn
