/-
  Frames: the model goes along a break.
-/
import Derived.Test.YtooaeafnneikkabDoorFrAfter
namespace Go.Proofs.YtooaeafnneikkabDoor
open Go.RowKit
set_option linter.unusedVariables false

/-- What the model's frAfter hands back: the frame at which it stands, and whether the break is one. -/
def AfterS (s : ByteArray) (n : Nat) (w : World) (k : Nat) (wr : World) : Prop :=
  ∃ (m : Nat), k ≤ s.size ∧ after n (s.data.toList.take k) = some m ∧ FrAt wr w.heap.size (frR m) (frC m) (frL m) ∧ FrAt wr (w.heap.size + 1) 0 false 0 ∧ Below w.heap.size w wr

/-- A frame laid in a block of its own, beside the two of the call. -/
def StepAt (w X : World) (b p q : Nat) : Prop :=
  FrAt X b (frR p) (frC p) (frL p) ∧ FrAt X w.heap.size (frR q) (frC q) (frL q) ∧ FrAt X (w.heap.size + 1) 0 false 0 ∧ Below w.heap.size w X
abbrev zeroC : Obj := .cells #[.int .i64 0, .bool false, .int .i64 0] 26
abbrev put3 (w : World) (b p : Nat) : World := ((w.setCell ⟨b, 0, none⟩ (.int .i64 (frR p))).setCell ⟨b, 1, none⟩ (.bool (frC p))).setCell ⟨b, 2, none⟩ (.int .i64 (frL p))

theorem FrAt.put3_other {w : World} {g b p : Nat} {r : Int} {c : Bool} {l : Int} (h : FrAt w g r c l) (hne : g ≠ b) : FrAt (put3 w b p) g r c l := ((h.other hne _).other hne _).other hne _
theorem below_put3 {B : Nat} {a w : World} (h : Below B a w) {b p : Nat} (hb : B ≤ b) : Below B a (put3 w b p) := ((h.setCell (p := ⟨b, 0, none⟩) hb _).setCell (p := ⟨b, 1, none⟩) hb _).setCell (p := ⟨b, 2, none⟩) hb _

theorem step1 {w wr w2 : World} {p q : Nat} (hA : FrAt wr w.heap.size (frR q) (frC q) (frL q)) (hB : FrAt wr (w.heap.size + 1) 0 false 0) (hbel : Below w.heap.size w wr)
    (b2 : Below (wr.alloc zeroC).drew.heap.size (wr.alloc zeroC).drew w2) : StepAt w (put3 w2 wr.heap.size p) wr.heap.size p q := by
  have zA := hA.lt
  have zB := hB.lt
  have k : ∀ {g : Nat} {r : Int} {c : Bool} {l : Int}, FrAt (wr.alloc zeroC) g r c l → FrAt w2 g r c l := fun h => h.drew.keep b2
  refine ⟨(k (FrAt.new wr 0 false 0)).stored _ _ _, (k (hA.old _)).put3_other (by omega), (k (hB.old _)).put3_other (by omega), below_put3 (((hbel.alloc (by omega) _).drew).trans (b2.mono (by simp; omega))) (by omega)⟩
theorem step2 {w wr w2 : World} {p q : Nat} (hA : FrAt wr w.heap.size (frR q) (frC q) (frL q)) (hB : FrAt wr (w.heap.size + 1) 0 false 0) (hbel : Below w.heap.size w wr)
    (b2 : Below wr.drew.heap.size wr.drew w2) : StepAt w (w2.alloc (.cells #[.int .i64 (frR p), .bool (frC p), .int .i64 (frL p)] 26)) w2.heap.size p q := by
  have zA := hA.lt
  have z2 := b2.size
  simp at z2
  have k : ∀ {g : Nat} {r : Int} {c : Bool} {l : Int}, FrAt wr g r c l → FrAt w2 g r c l := fun h => h.drew.keep b2
  exact ⟨FrAt.new w2 _ _ _, (k hA).old _, (k hB).old _, ((hbel.drew).trans (b2.mono (by simp; omega))).alloc (by omega) _⟩

end Go.Proofs.YtooaeafnneikkabDoor
