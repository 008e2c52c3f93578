/- What the exact law of FirstFrame does, step by step. -/
import Derived.Test.YtlehhkijigglgaaFrSpec
namespace Go.Proofs.Ytlehhkijigglgaa.ExFirstFrame
open Go.RowKit
set_option linter.unusedVariables false

def firstV (r : Int) : Value := if inR r 0 15 then frT r false 2 true else frT 0 false 0 false
def firstR (r : Int) : Int := if inR r 0 15 then r else 0
def firstL (r : Int) : Int := if inR r 0 15 then 2 else 0
theorem firstV_eq (r : Int) : firstV r = frT (firstR r) false (firstL r) (inR r 0 15) := by
  unfold firstV firstR firstL; cases inR r 0 15 <;> simp
theorem first_good (r : Int) : frG r false 2 = inR r 0 15 := by
  rw [Bool.eq_iff_iff]; unfold frG inR; simp; omega

set_option maxHeartbeats 400000 in
theorem spec_any (r : Int) (w : World) :
    Calls Try.prog 10 #[.int .i64 r] w fun e w' => e = .returned (firstV r) ∧ Below w.heap.size w w' := by
  cases h : inR r 0 15
  · rw [show firstV r = frT 0 false 0 false from by simp [firstV, h]]
    have H := Lib.hid h; clear h
    go_enter Try.func10, Try.ntmps10
    go_wp2_with fail
    refine (l1In_any _ _ _ _).mono ?_; rintro e w' ⟨rfl, rfl⟩
    rw [H.out]
    go_wp2_with fail
    refine bodyPost_ret (v := frT 0 false 0 false) (by simp [results, Try.results10, go_sem]) rfl ⟨rfl, ?_⟩
    (repeat (first | exact Below.refl _ _ | exact ‹Below _ _ _› | refine Below.drew ?_ | refine Below.alloc ?_ (by first | omega | (simp; done) | (simp; omega)) _ | refine Below.setCell ?_ (by first | omega | (simp; done) | (simp; omega)) _ | refine Below.trans ?_ (Below.mono ‹Below _ _ _› (by first | omega | (simp; done) | (simp; omega)))))
  · rw [show firstV r = frT r false 2 true from by simp [firstV, h]]
    have H := Lib.hid h; clear h
    go_enter Try.func10, Try.ntmps10
    go_wp2_with fail
    refine (l1In_any _ _ _ _).mono ?_; rintro e w' ⟨rfl, rfl⟩
    rw [H.out]
    go_wp2_with fail
    refine bodyPost_ret (v := frT r false 2 true) (by simp [results, Try.results10, go_sem]) rfl ⟨rfl, ?_⟩
    (repeat (first | exact Below.refl _ _ | exact ‹Below _ _ _› | refine Below.drew ?_ | refine Below.alloc ?_ (by first | omega | (simp; done) | (simp; omega)) _ | refine Below.setCell ?_ (by first | omega | (simp; done) | (simp; omega)) _ | refine Below.trans ?_ (Below.mono ‹Below _ _ _› (by first | omega | (simp; done) | (simp; omega)))))

set_option maxHeartbeats 400000 in
theorem impl_any (r : Int) (w : World) :
    Calls Try.prog 11 #[.int .i64 r] w fun e w' => e = .returned (firstV r) ∧ Below w.heap.size w w' := by
  have hg := first_good r
  cases h : inR r 0 15
  · rw [show firstV r = frT 0 false 0 false from by simp [firstV, h]]
    rw [h] at hg
    have H := Lib.hid hg; clear h hg
    go_enter Try.func11, Try.ntmps11
    go_wp2_with fail
    refine (isFrame_any _ _ _ _).mono ?_; rintro e w1 ⟨rfl, b1⟩
    rw [H.out]
    obtain ⟨c1, f1⟩ := bcell b1; have z1 : w.heap.size < w1.heap.size := (by have := b1.size; (try simp at this); omega)
    obtain ⟨tA, tB⟩ := two_new b1
    obtain ⟨y0, y1, y2, x0, x1, x2⟩ := tA.cells
    go_wp2_with fail
    obtain ⟨p0, p1, p2⟩ := tA.put (.int .i64 0) (.bool false) (.int .i64 0)
    refine bodyPost_ret (v := frT 0 false 0 false) (by simp [results, Try.results11, go_sem, p0, p1, p2]) rfl ⟨rfl, ?_⟩
    (repeat (first | exact Below.refl _ _ | exact ‹Below _ _ _› | refine Below.drew ?_ | refine Below.alloc ?_ (by first | omega | (simp; done) | (simp; omega)) _ | refine Below.setCell ?_ (by first | omega | (simp; done) | (simp; omega)) _ | refine Below.trans ?_ (Below.mono ‹Below _ _ _› (by first | omega | (simp; done) | (simp; omega)))))
  · rw [show firstV r = frT r false 2 true from by simp [firstV, h]]
    rw [h] at hg
    have H := Lib.hid hg; clear h hg
    go_enter Try.func11, Try.ntmps11
    go_wp2_with fail
    refine (isFrame_any _ _ _ _).mono ?_; rintro e w1 ⟨rfl, b1⟩
    rw [H.out]
    obtain ⟨c1, f1⟩ := bcell b1; have z1 : w.heap.size < w1.heap.size := (by have := b1.size; (try simp at this); omega)
    obtain ⟨tA, tB⟩ := two_new b1
    obtain ⟨y0, y1, y2, x0, x1, x2⟩ := tA.cells
    go_wp2_with fail
    obtain ⟨p0, p1, p2⟩ := tA.put (.int .i64 r) (.bool false) (.int .i64 2)
    refine bodyPost_ret (v := frT r false 2 true) (by simp [results, Try.results11, go_sem, p0, p1, p2]) rfl ⟨rfl, ?_⟩
    (repeat (first | exact Below.refl _ _ | exact ‹Below _ _ _› | refine Below.drew ?_ | refine Below.alloc ?_ (by first | omega | (simp; done) | (simp; omega)) _ | refine Below.setCell ?_ (by first | omega | (simp; done) | (simp; omega)) _ | refine Below.trans ?_ (Below.mono ‹Below _ _ _› (by first | omega | (simp; done) | (simp; omega)))))

set_option maxHeartbeats 400000 in
theorem walk (r : Int) (w : World) :
    Calls Try.prog 4 #[.int .i64 r] w fun e w' => e = .returned (.bool true) ∧ Below w.heap.size w w' := by
  have q : (inR r 0 15 != inR r 0 15) = false := by simp
  go_enter Try.func4, Try.ntmps4
  go_wp2_with fail
  refine (spec_any r _).mono ?_; rintro e w1 ⟨rfl, b1⟩
  rw [firstV_eq]
  go_wp2_with fail
  refine (impl_any r _).mono ?_; rintro e w2 ⟨rfl, b2⟩
  rw [firstV_eq]
  have tA := (FrAt.new w1 _ _ _).keep b2
  obtain ⟨y0, y1, y2, -, -, -⟩ := tA.cells
  have zA := tA.lt
  go_wp2_with fail
  refine (eqFrame_same _ _ _ _).mono ?_; rintro e w3 ⟨rfl, b3⟩
  go_wp2_with fail
  go_ret
  refine ⟨rfl, ?_⟩
  have sz_b1 := b1.size; (try simp only [World.size_alloc, World.size_drew, World.size_setCell] at sz_b1); have sz_b2 := b2.size; (try simp only [World.size_alloc, World.size_drew, World.size_setCell] at sz_b2); have sz_b3 := b3.size; (try simp only [World.size_alloc, World.size_drew, World.size_setCell] at sz_b3)
  (repeat (first | exact Below.refl _ _ | exact ‹Below _ _ _› | refine Below.drew ?_ | refine Below.alloc ?_ (by first | omega | (simp; done) | (simp; omega)) _ | refine Below.setCell ?_ (by first | omega | (simp; done) | (simp; omega)) _ | refine Below.trans ?_ (Below.mono ‹Below _ _ _› (by first | omega | (simp; done) | (simp; omega)))))
end Go.Proofs.Ytlehhkijigglgaa.ExFirstFrame
