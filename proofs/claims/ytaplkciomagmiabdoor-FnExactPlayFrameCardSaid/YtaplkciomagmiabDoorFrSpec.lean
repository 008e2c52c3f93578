/-
  Frames: the model's and the laws' small functions.
-/
import Derived.Test.YtaplkciomagmiabDoorFrMath
import Derived.Deep.WholeRow
namespace Go.Proofs.YtaplkciomagmiabDoor
open Go.RowKit

abbrev frW (r : Int) (c : Bool) (l : Int) : Value := .agg #[.int .i64 r, .bool c, .int .i64 l]
abbrev frV (n : Nat) : Value := frW (frR n) (frC n) (frL n)

set_option maxHeartbeats 400000 in
theorem l1In_any (n a b : Int) (w : World) :
    Calls Tryd.prog 28 #[.int .i64 n, .int .i64 a, .int .i64 b] w fun e w' => e = .returned (.bool (inR n a b)) ∧ w = w' := by
  by_cases h1 : a ≤ n <;> by_cases h2 : n ≤ b
  all_goals
    go_enter Tryd.func28, Tryd.ntmps28
    go_wp2
    go_ret
    exact ⟨ret_bool (by simp [inR, *]), rfl⟩

/-- A block that holds a frame. -/
def FrAt (w : World) (g : Nat) (r : Int) (c : Bool) (l : Int) : Prop :=
  w.heap[g]? = some (.cells #[.int .i64 r, .bool c, .int .i64 l] 29 (0, 0))
theorem FrAt.lt {w : World} {g : Nat} {r : Int} {c : Bool} {l : Int} (h : FrAt w g r c l) : g < w.heap.size := (Array.getElem?_eq_some_iff.1 h).1
theorem FrAt.keep {w w' : World} {g : Nat} {r : Int} {c : Bool} {l : Int} (h : FrAt w g r c l) (hb : Below w.heap.size w w') : FrAt w' g r c l := by
  unfold FrAt at *; rw [hb.block _ (Array.getElem?_eq_some_iff.1 h).1]; exact h
theorem FrAt.keepB {w w' : World} {g B : Nat} {r : Int} {c : Bool} {l : Int} (h : FrAt w g r c l) (hb : Below B w w') (hB : g < B) : FrAt w' g r c l := by
  unfold FrAt at *; rw [hb.block _ hB]; exact h
theorem FrAt.cells {w : World} {g : Nat} {r : Int} {c : Bool} {l : Int} (h : FrAt w g r c l) :
    w.cell? ⟨g, 0, none⟩ = some (.int .i64 r) ∧ w.cell? ⟨g, 1, none⟩ = some (.bool c) ∧ w.cell? ⟨g, 2, none⟩ = some (.int .i64 l) ∧ w.frozen? ⟨g, 0, none⟩ = false ∧ w.frozen? ⟨g, 1, none⟩ = false ∧ w.frozen? ⟨g, 2, none⟩ = false :=
  ⟨cell_of_row _ _ 0 _ _ _ h, cell_of_row _ _ 1 _ _ _ h, cell_of_row _ _ 2 _ _ _ h, frozen_of_row _ _ 0 _ _ h, frozen_of_row _ _ 1 _ _ h, frozen_of_row _ _ 2 _ _ h⟩
theorem FrAt.other {w : World} {g h o : Nat} {r : Int} {c : Bool} {l : Int} (ht : FrAt w g r c l) (hne : g ≠ h) (v : Value) : FrAt (w.setCell ⟨h, o, none⟩ v) g r c l := by
  unfold FrAt at *; rw [Below.heap_setCell _ _ _ _ hne]; exact ht
theorem FrAt.old {w : World} {g : Nat} {r : Int} {c : Bool} {l : Int} (h : FrAt w g r c l) (o : Obj) : FrAt (w.alloc o) g r c l := by
  unfold FrAt at *; rw [Below.heap_alloc _ _ _ (Array.getElem?_eq_some_iff.1 h).1]; exact h
theorem FrAt.drew {w : World} {g : Nat} {r : Int} {c : Bool} {l : Int} (h : FrAt w g r c l) : FrAt w.drew g r c l := h
theorem FrAt.new (w : World) (r : Int) (c : Bool) (l : Int) : FrAt (w.alloc (.cells #[.int .i64 r, .bool c, .int .i64 l] 29)) w.heap.size r c l := heap_alloc_last w _
theorem FrAt.put {w : World} {g : Nat} {r : Int} {c : Bool} {l : Int} (h : FrAt w g r c l) (a b d : Value) :
    (((w.setCell ⟨g, 0, none⟩ a).setCell ⟨g, 1, none⟩ b).setCell ⟨g, 2, none⟩ d).cell? ⟨g, 0, none⟩ = some a ∧ (((w.setCell ⟨g, 0, none⟩ a).setCell ⟨g, 1, none⟩ b).setCell ⟨g, 2, none⟩ d).cell? ⟨g, 1, none⟩ = some b ∧
    (((w.setCell ⟨g, 0, none⟩ a).setCell ⟨g, 1, none⟩ b).setCell ⟨g, 2, none⟩ d).cell? ⟨g, 2, none⟩ = some d := by
  obtain ⟨c0, c1, c2, -, -, -⟩ := h.cells
  have ne : ∀ (o o' : Nat) (v : Value) (u : World), o ≠ o' → (u.setCell ⟨g, o', none⟩ v).cell? ⟨g, o, none⟩ = u.cell? ⟨g, o, none⟩ := fun o o' v u hne => World.cell?_setCell_other _ _ _ _ (by intro e; injection e with _ e2; exact hne e2.symm)
  refine ⟨?_, ?_, ?_⟩
  · rw [ne 0 2 _ _ (by decide), ne 0 1 _ _ (by decide)]; exact World.cell?_setCell_same _ _ _ c0
  · rw [ne 1 2 _ _ (by decide)]; exact World.cell?_setCell_same _ _ _ (by rw [ne 1 0 _ _ (by decide)]; exact c1)
  · exact World.cell?_setCell_same _ _ _ (by rw [ne 2 1 _ _ (by decide), ne 2 0 _ _ (by decide)]; exact c2)
theorem FrAt.col {w : World} {g : Nat} {r : Int} {c : Bool} {l : Int} (h : FrAt w g r c l) (c' : Bool) : FrAt (w.setCell ⟨g, 1, none⟩ (.bool c')) g r c' l := by
  unfold FrAt at *
  have h0 := setRow_heap w g _ (#[.int .i64 r, .bool c, .int .i64 l].setIfInBounds 1 (.bool c')) _ _ h
  rw [← setCell_eq_setRow w g 1 _ _ _ _ h] at h0
  exact h0
theorem FrAt.reds {w : World} {g : Nat} {r : Int} {c : Bool} {l : Int} (h : FrAt w g r c l) (r' : Int) : FrAt (w.setCell ⟨g, 0, none⟩ (.int .i64 r')) g r' c l := by
  unfold FrAt at *
  have h0 := setRow_heap w g _ (#[.int .i64 r, .bool c, .int .i64 l].setIfInBounds 0 (.int .i64 r')) _ _ h
  rw [← setCell_eq_setRow w g 0 _ _ _ _ h] at h0
  exact h0
theorem FrAt.least {w : World} {g : Nat} {r : Int} {c : Bool} {l : Int} (h : FrAt w g r c l) (l' : Int) : FrAt (w.setCell ⟨g, 2, none⟩ (.int .i64 l')) g r c l' := by
  unfold FrAt at *
  have h0 := setRow_heap w g _ (#[.int .i64 r, .bool c, .int .i64 l].setIfInBounds 2 (.int .i64 l')) _ _ h
  rw [← setCell_eq_setRow w g 2 _ _ _ _ h] at h0
  exact h0
/-- A whole frame stored. -/
theorem FrAt.stored {w : World} {g : Nat} {r : Int} {c : Bool} {l : Int} (h : FrAt w g r c l) (r' : Int) (c' : Bool) (l' : Int) :
    FrAt (((w.setCell ⟨g, 0, none⟩ (.int .i64 r')).setCell ⟨g, 1, none⟩ (.bool c')).setCell ⟨g, 2, none⟩ (.int .i64 l')) g r' c' l' := by
  unfold FrAt at *
  have h0 := setRow_heap w g _ (#[.int .i64 r, .bool c, .int .i64 l].setIfInBounds 0 (.int .i64 r')) _ _ h
  rw [← setCell_eq_setRow w g 0 _ _ _ _ h] at h0
  have h1 := setRow_heap _ g _ ((#[.int .i64 r, .bool c, .int .i64 l].setIfInBounds 0 (.int .i64 r')).setIfInBounds 1 (.bool c')) _ _ h0
  rw [← setCell_eq_setRow _ g 1 _ _ _ _ h0] at h1
  have h2 := setRow_heap _ g _ (((#[.int .i64 r, .bool c, .int .i64 l].setIfInBounds 0 (.int .i64 r')).setIfInBounds 1 (.bool c')).setIfInBounds 2 (.int .i64 l')) _ _ h1
  rw [← setCell_eq_setRow _ g 2 _ _ _ _ h1] at h2
  exact h2
/-- Behind a call: the two blocks laid ahead of it. -/
theorem two_new {w w1 : World} {r r' : Int} {c c' : Bool} {l l' : Int} (hb : Below ((w.alloc (.cells #[.int .i64 r, .bool c, .int .i64 l] 29)).alloc (.cells #[.int .i64 r', .bool c', .int .i64 l'] 29)).heap.size ((w.alloc (.cells #[.int .i64 r, .bool c, .int .i64 l] 29)).alloc (.cells #[.int .i64 r', .bool c', .int .i64 l'] 29)) w1) :
    FrAt w1 w.heap.size r c l ∧ FrAt w1 (w.heap.size + 1) r' c' l' :=
  ⟨((FrAt.new w r c l).old _).keep hb, by have := FrAt.new (w.alloc (.cells #[.int .i64 r, .bool c, .int .i64 l] 29)) r' c' l'; rw [World.size_alloc] at this; exact this.keep hb⟩

set_option maxHeartbeats 400000 in
theorem toFrame_any (r : Int) (c : Bool) (l : Int) (w : World) :
    Calls Tryd.prog 8 #[frW r c l] w fun e w' => e = .returned (frW r c l) ∧ Below w.heap.size w w' := by
  go_enter Tryd.func8, Tryd.ntmps8
  go_wp2
  refine bodyPost_ret (v := frW r c l) (by simp [results, Tryd.results8, go_sem]) rfl ⟨rfl, ?_⟩
  (repeat (first | exact Below.refl _ _ | exact ‹Below _ _ _› | refine Below.drew ?_ | refine Below.alloc ?_ (by first | omega | (simp; done) | (simp; omega)) _ | refine Below.setCell ?_ (by first | omega | (simp; done) | (simp; omega)) _ | refine Below.trans ?_ (Below.mono ‹Below _ _ _› (by first | omega | (simp; done) | (simp; omega)))))

theorem dec_beq (a b : Int) : decide (a = b) = (a == b) := by rw [Bool.eq_iff_iff]; simp
theorem frG_col (r l : Int) : frG r true l = (inR r 0 14 && decide (l = 2)) := by simp [frG]
theorem frG_no (r l : Int) (h : r ≠ 0) : frG r false l = (inR r 1 15 && decide (l = 2)) := by simp [frG, h]
theorem frG_end (l : Int) : frG 0 false l = inR l 2 8 := by simp [frG]

set_option maxHeartbeats 800000 in
theorem frGood_any (r : Int) (c : Bool) (l : Int) (w : World) :
    Calls Tryd.prog 20 #[frW r c l] w fun e w' => e = .returned (.bool (frG r c l)) ∧ Below w.heap.size w w' := by
  cases hr : inR r 0 15
  · have hg : frG r c l = false := by
      cases hq : frG r c l
      · rfl
      · obtain ⟨n, hn, rfl, rfl, rfl⟩ := frG_n hq
        have : ∀ m, m ≤ 36 → inR (frR m) 0 15 = true := by decide +kernel
        rw [this n hn] at hr; cases hr
    rw [hg]; clear hg
    have HR := Lib.hid hr; clear hr
    go_enter Tryd.func20, Tryd.ntmps20
    go_wp2_with fail
    refine (l1In_any _ _ _ _).mono ?_; rintro e w' ⟨rfl, rfl⟩
    rw [HR.out]
    go_wp2_with fail
    go_ret
    refine ⟨rfl, ?_⟩
    (repeat (first | exact Below.refl _ _ | exact ‹Below _ _ _› | refine Below.drew ?_ | refine Below.alloc ?_ (by first | omega | (simp; done) | (simp; omega)) _ | refine Below.setCell ?_ (by first | omega | (simp; done) | (simp; omega)) _ | refine Below.trans ?_ (Below.mono ‹Below _ _ _› (by first | omega | (simp; done) | (simp; omega)))))
  · cases hl : inR l 2 8
    · have hg : frG r c l = false := by
        cases hq : frG r c l
        · rfl
        · obtain ⟨n, hn, rfl, rfl, rfl⟩ := frG_n hq
          have : ∀ m, m ≤ 36 → inR (frL m) 2 8 = true := by decide +kernel
          rw [this n hn] at hl; cases hl
      rw [hg]; clear hg
      have HR := Lib.hid hr; clear hr
      have HL := Lib.hid hl; clear hl
      go_enter Tryd.func20, Tryd.ntmps20
      go_wp2_with fail
      refine (l1In_any _ _ _ _).mono ?_; rintro e w' ⟨rfl, rfl⟩
      rw [HR.out]
      go_wp2_with fail
      refine (l1In_any _ _ _ _).mono ?_; rintro e w' ⟨rfl, rfl⟩
      rw [HL.out]
      go_wp2_with fail
      go_ret
      refine ⟨rfl, ?_⟩
      (repeat (first | exact Below.refl _ _ | exact ‹Below _ _ _› | refine Below.drew ?_ | refine Below.alloc ?_ (by first | omega | (simp; done) | (simp; omega)) _ | refine Below.setCell ?_ (by first | omega | (simp; done) | (simp; omega)) _ | refine Below.trans ?_ (Below.mono ‹Below _ _ _› (by first | omega | (simp; done) | (simp; omega)))))
    · cases c
      · cases e2 : ((l : Int) == 2)
        · cases e0 : ((r : Int) == 0)
          · have hg : frG r false l = false := by
              have h1 : r ≠ 0 := by simpa using e0
              have h2 : l ≠ 2 := by simpa using e2
              rw [frG_no _ _ h1]; simp [h2]
            rw [hg]; clear hg
            have HR := Lib.hid hr; clear hr
            have HL := Lib.hid hl; clear hl
            go_enter Tryd.func20, Tryd.ntmps20
            go_wp2_with fail
            refine (l1In_any _ _ _ _).mono ?_; rintro e w' ⟨rfl, rfl⟩
            rw [HR.out]
            go_wp2_with fail
            refine (l1In_any _ _ _ _).mono ?_; rintro e w' ⟨rfl, rfl⟩
            rw [HL.out]
            go_wp2_with fail
            go_ret
            refine ⟨rfl, ?_⟩
            (repeat (first | exact Below.refl _ _ | exact ‹Below _ _ _› | refine Below.drew ?_ | refine Below.alloc ?_ (by first | omega | (simp; done) | (simp; omega)) _ | refine Below.setCell ?_ (by first | omega | (simp; done) | (simp; omega)) _ | refine Below.trans ?_ (Below.mono ‹Below _ _ _› (by first | omega | (simp; done) | (simp; omega)))))
          · obtain rfl : r = 0 := by simpa using e0
            rw [frG_end, hl]
            clear e0
            have HR := Lib.hid hr; clear hr
            have HL := Lib.hid hl; clear hl
            go_enter Tryd.func20, Tryd.ntmps20
            go_wp2_with fail
            refine (l1In_any _ _ _ _).mono ?_; rintro e w' ⟨rfl, rfl⟩
            rw [HR.out]
            go_wp2_with fail
            refine (l1In_any _ _ _ _).mono ?_; rintro e w' ⟨rfl, rfl⟩
            rw [HL.out]
            go_wp2_with fail
            go_ret
            refine ⟨rfl, ?_⟩
            (repeat (first | exact Below.refl _ _ | exact ‹Below _ _ _› | refine Below.drew ?_ | refine Below.alloc ?_ (by first | omega | (simp; done) | (simp; omega)) _ | refine Below.setCell ?_ (by first | omega | (simp; done) | (simp; omega)) _ | refine Below.trans ?_ (Below.mono ‹Below _ _ _› (by first | omega | (simp; done) | (simp; omega)))))
        · obtain rfl : l = 2 := by simpa using e2
          have hg : frG r false 2 = true := by
            by_cases h : r = 0
            · subst h; rfl
            · rw [frG_no _ _ h]
              unfold inR at hr ⊢
              simp at hr ⊢; omega
          rw [hg]; clear hg e2
          have HR := Lib.hid hr; clear hr
          have HL := Lib.hid hl; clear hl
          go_enter Tryd.func20, Tryd.ntmps20
          go_wp2_with fail
          refine (l1In_any _ _ _ _).mono ?_; rintro e w' ⟨rfl, rfl⟩
          rw [HR.out]
          go_wp2_with fail
          refine (l1In_any _ _ _ _).mono ?_; rintro e w' ⟨rfl, rfl⟩
          rw [HL.out]
          go_wp2_with fail
          go_ret
          refine ⟨rfl, ?_⟩
          (repeat (first | exact Below.refl _ _ | exact ‹Below _ _ _› | refine Below.drew ?_ | refine Below.alloc ?_ (by first | omega | (simp; done) | (simp; omega)) _ | refine Below.setCell ?_ (by first | omega | (simp; done) | (simp; omega)) _ | refine Below.trans ?_ (Below.mono ‹Below _ _ _› (by first | omega | (simp; done) | (simp; omega)))))
      · cases e15 : ((r : Int) == 15)
        · have hg : frG r true l = ((l : Int) == 2) := by
            have h1 : r ≠ 15 := by simpa using e15
            have hr' := hr
            unfold inR at hr'
            simp at hr'
            rw [frG_col, show inR r 0 14 = true from by unfold inR; simp; omega]
            rw [Bool.true_and, dec_beq]
          rw [hg]; clear hg
          cases e2 : ((l : Int) == 2) <;> cases e0 : ((r : Int) == 0)
          all_goals
            have HR := Lib.hid hr; clear hr
            have HL := Lib.hid hl; clear hl
            go_enter Tryd.func20, Tryd.ntmps20
            go_wp2_with fail
            refine (l1In_any _ _ _ _).mono ?_; rintro e w' ⟨rfl, rfl⟩
            rw [HR.out]
            go_wp2_with fail
            refine (l1In_any _ _ _ _).mono ?_; rintro e w' ⟨rfl, rfl⟩
            rw [HL.out]
            go_wp2_with fail
            go_ret
            refine ⟨ret_bool (by simp), ?_⟩
            (repeat (first | exact Below.refl _ _ | exact ‹Below _ _ _› | refine Below.drew ?_ | refine Below.alloc ?_ (by first | omega | (simp; done) | (simp; omega)) _ | refine Below.setCell ?_ (by first | omega | (simp; done) | (simp; omega)) _ | refine Below.trans ?_ (Below.mono ‹Below _ _ _› (by first | omega | (simp; done) | (simp; omega)))))
        · obtain rfl : r = 15 := by simpa using e15
          have hg : frG 15 true l = false := by rw [frG_col]; rfl
          rw [hg]; clear hg e15
          have HR := Lib.hid hr; clear hr
          have HL := Lib.hid hl; clear hl
          go_enter Tryd.func20, Tryd.ntmps20
          go_wp2_with fail
          refine (l1In_any _ _ _ _).mono ?_; rintro e w' ⟨rfl, rfl⟩
          rw [HR.out]
          go_wp2_with fail
          refine (l1In_any _ _ _ _).mono ?_; rintro e w' ⟨rfl, rfl⟩
          rw [HL.out]
          go_wp2_with fail
          go_ret
          refine ⟨rfl, ?_⟩
          (repeat (first | exact Below.refl _ _ | exact ‹Below _ _ _› | refine Below.drew ?_ | refine Below.alloc ?_ (by first | omega | (simp; done) | (simp; omega)) _ | refine Below.setCell ?_ (by first | omega | (simp; done) | (simp; omega)) _ | refine Below.trans ?_ (Below.mono ‹Below _ _ _› (by first | omega | (simp; done) | (simp; omega)))))

set_option maxHeartbeats 800000 in
theorem isFrame_any (r : Int) (c : Bool) (l : Int) (w : World) :
    Calls Tryd.prog 23 #[frW r c l] w fun e w' => e = .returned (.bool (frG r c l)) ∧ Below w.heap.size w w' := by
  by_cases h1 : r < 0
  · have hg : frG r c l = false := by
      cases hq : frG r c l
      · rfl
      · obtain ⟨n, hn, rfl, rfl, rfl⟩ := frG_n hq
        unfold frR at h1; omega
    rw [hg]; clear hg
    go_enter Tryd.func23, Tryd.ntmps23
    go_wp2
    go_ret
    refine ⟨rfl, ?_⟩
    (repeat (first | exact Below.refl _ _ | exact ‹Below _ _ _› | refine Below.drew ?_ | refine Below.alloc ?_ (by first | omega | (simp; done) | (simp; omega)) _ | refine Below.setCell ?_ (by first | omega | (simp; done) | (simp; omega)) _ | refine Below.trans ?_ (Below.mono ‹Below _ _ _› (by first | omega | (simp; done) | (simp; omega)))))
  · by_cases h2 : 15 < r
    · have hg : frG r c l = false := by
        cases hq : frG r c l
        · rfl
        · obtain ⟨n, hn, rfl, rfl, rfl⟩ := frG_n hq
          unfold frR at h2; omega
      rw [hg]; clear hg
      go_enter Tryd.func23, Tryd.ntmps23
      go_wp2
      go_ret
      refine ⟨rfl, ?_⟩
      (repeat (first | exact Below.refl _ _ | exact ‹Below _ _ _› | refine Below.drew ?_ | refine Below.alloc ?_ (by first | omega | (simp; done) | (simp; omega)) _ | refine Below.setCell ?_ (by first | omega | (simp; done) | (simp; omega)) _ | refine Below.trans ?_ (Below.mono ‹Below _ _ _› (by first | omega | (simp; done) | (simp; omega)))))
    · cases c
      · by_cases h3 : 0 < r
        · have hg : frG r false l = ((l : Int) == 2) := by
            rw [frG_no _ _ (by omega), show inR r 1 15 = true from by unfold inR; simp; omega]
            rw [Bool.true_and, dec_beq]
          rw [hg]; clear hg
          go_enter Tryd.func23, Tryd.ntmps23
          go_wp2
          go_ret
          refine ⟨rfl, ?_⟩
          (repeat (first | exact Below.refl _ _ | exact ‹Below _ _ _› | refine Below.drew ?_ | refine Below.alloc ?_ (by first | omega | (simp; done) | (simp; omega)) _ | refine Below.setCell ?_ (by first | omega | (simp; done) | (simp; omega)) _ | refine Below.trans ?_ (Below.mono ‹Below _ _ _› (by first | omega | (simp; done) | (simp; omega)))))
        · obtain rfl : r = 0 := by omega
          rw [frG_end]
          clear h1 h2 h3
          by_cases q1 : 2 ≤ l <;> by_cases q2 : l ≤ 8
          all_goals try (exfalso; omega)
          all_goals
            go_enter Tryd.func23, Tryd.ntmps23
            go_wp2
            go_ret
            refine ⟨ret_bool (by simp [inR, *]), ?_⟩
            (repeat (first | exact Below.refl _ _ | exact ‹Below _ _ _› | refine Below.drew ?_ | refine Below.alloc ?_ (by first | omega | (simp; done) | (simp; omega)) _ | refine Below.setCell ?_ (by first | omega | (simp; done) | (simp; omega)) _ | refine Below.trans ?_ (Below.mono ‹Below _ _ _› (by first | omega | (simp; done) | (simp; omega)))))
      · by_cases h4 : r < 15
        · have hg : frG r true l = ((l : Int) == 2) := by
            rw [frG_col, show inR r 0 14 = true from by unfold inR; simp; omega]
            rw [Bool.true_and, dec_beq]
          rw [hg]; clear hg
          go_enter Tryd.func23, Tryd.ntmps23
          go_wp2
          go_ret
          refine ⟨rfl, ?_⟩
          (repeat (first | exact Below.refl _ _ | exact ‹Below _ _ _› | refine Below.drew ?_ | refine Below.alloc ?_ (by first | omega | (simp; done) | (simp; omega)) _ | refine Below.setCell ?_ (by first | omega | (simp; done) | (simp; omega)) _ | refine Below.trans ?_ (Below.mono ‹Below _ _ _› (by first | omega | (simp; done) | (simp; omega)))))
        · have hg : frG r true l = false := by
            rw [frG_col, show inR r 0 14 = false from by unfold inR; simp; omega]; rfl
          rw [hg]; clear hg
          go_enter Tryd.func23, Tryd.ntmps23
          go_wp2
          go_ret
          refine ⟨rfl, ?_⟩
          (repeat (first | exact Below.refl _ _ | exact ‹Below _ _ _› | refine Below.drew ?_ | refine Below.alloc ?_ (by first | omega | (simp; done) | (simp; omega)) _ | refine Below.setCell ?_ (by first | omega | (simp; done) | (simp; omega)) _ | refine Below.trans ?_ (Below.mono ‹Below _ _ _› (by first | omega | (simp; done) | (simp; omega)))))

/-- What a frame and 'ok' are handed back as. -/
abbrev frT (r : Int) (c : Bool) (l : Int) (ok : Bool) : Value := .tuple #[frW r c l, .bool ok]

end Go.Proofs.YtaplkciomagmiabDoor
