/- What the exact law of MissBall does, step by step. -/
import Derived.Test.YtlehhkijigglgaaFrSpec
namespace Go.Proofs.Ytlehhkijigglgaa.ExMissBall
open Go.RowKit
set_option linter.unusedVariables false

def missV (r : Int) (c : Bool) (l : Int) : Value := if frG r c l then frT r false l true else frT 0 false 0 false
def missR (r : Int) (c : Bool) (l : Int) : Int := if frG r c l then r else 0
def missL (r : Int) (c : Bool) (l : Int) : Int := if frG r c l then l else 0
theorem missV_eq (r : Int) (c : Bool) (l : Int) : missV r c l = frT (missR r c l) false (missL r c l) (frG r c l) := by
  unfold missV missR missL; cases frG r c l <;> simp

set_option maxHeartbeats 400000 in
theorem spec_any (r : Int) (c : Bool) (l : Int) (w : World) :
    Calls Try.prog 13 #[frW r c l] w fun e w' => e = .returned (missV r c l) ∧ Below w.heap.size w w' := by
  cases h : frG r c l
  · rw [show missV r c l = frT 0 false 0 false from by simp [missV, h]]
    have H := Lib.hid h; clear h
    go_enter Try.func13, Try.ntmps13
    go_wp2_with fail
    refine (frGood_any _ _ _ _).mono ?_; rintro e w1 ⟨rfl, b1⟩
    rw [H.out]
    obtain ⟨c1, f1⟩ := bcell b1; have z1 : w.heap.size < w1.heap.size := (by have := b1.size; (try simp at this); omega)
    obtain ⟨tA, tB⟩ := two_new b1
    obtain ⟨y0, y1, y2, x0, x1, x2⟩ := tB.cells
    go_wp2_with fail
    obtain ⟨p0, p1, p2⟩ := tB.put (.int .i64 0) (.bool false) (.int .i64 0)
    refine bodyPost_ret (v := frT 0 false 0 false) (by simp [results, Try.results13, go_sem, p0, p1, p2]) rfl ⟨rfl, ?_⟩
    (repeat (first | exact Below.refl _ _ | exact ‹Below _ _ _› | refine Below.drew ?_ | refine Below.alloc ?_ (by first | omega | (simp; done) | (simp; omega)) _ | refine Below.setCell ?_ (by first | omega | (simp; done) | (simp; omega)) _ | refine Below.trans ?_ (Below.mono ‹Below _ _ _› (by first | omega | (simp; done) | (simp; omega)))))
  · rw [show missV r c l = frT r false l true from by simp [missV, h]]
    have H := Lib.hid h; clear h
    go_enter Try.func13, Try.ntmps13
    go_wp2_with fail
    refine (frGood_any _ _ _ _).mono ?_; rintro e w1 ⟨rfl, b1⟩
    rw [H.out]
    obtain ⟨c1, f1⟩ := bcell b1; have z1 : w.heap.size < w1.heap.size := (by have := b1.size; (try simp at this); omega)
    obtain ⟨tA, tB⟩ := two_new b1
    obtain ⟨y0, y1, y2, x0, x1, x2⟩ := tB.cells
    obtain ⟨s0, s1, s2, u0, u1, u2⟩ := tA.cells
    obtain ⟨v0, v1, v2, -, -, -⟩ := (tA.col false).cells
    go_wp2_with fail
    obtain ⟨p0, p1, p2⟩ := (tB.other (h := w.heap.size) (o := 1) (by omega) (.bool false)).put (.int .i64 r) (.bool false) (.int .i64 l)
    refine bodyPost_ret (v := frT r false l true) (by simp [results, Try.results13, go_sem, p0, p1, p2]) rfl ⟨rfl, ?_⟩
    (repeat (first | exact Below.refl _ _ | exact ‹Below _ _ _› | refine Below.drew ?_ | refine Below.alloc ?_ (by first | omega | (simp; done) | (simp; omega)) _ | refine Below.setCell ?_ (by first | omega | (simp; done) | (simp; omega)) _ | refine Below.trans ?_ (Below.mono ‹Below _ _ _› (by first | omega | (simp; done) | (simp; omega)))))

set_option maxHeartbeats 400000 in
theorem impl_any (r : Int) (c : Bool) (l : Int) (w : World) :
    Calls Try.prog 14 #[frW r c l] w fun e w' => e = .returned (missV r c l) ∧ Below w.heap.size w w' := by
  cases h : frG r c l
  · rw [show missV r c l = frT 0 false 0 false from by simp [missV, h]]
    have H := Lib.hid h; clear h
    go_enter Try.func14, Try.ntmps14
    go_wp2_with fail
    refine (isFrame_any _ _ _ _).mono ?_; rintro e w1 ⟨rfl, b1⟩
    rw [H.out]
    obtain ⟨c1, f1⟩ := bcell b1; have z1 : w.heap.size < w1.heap.size := (by have := b1.size; (try simp at this); omega)
    obtain ⟨tA, tB⟩ := two_new b1
    obtain ⟨y0, y1, y2, x0, x1, x2⟩ := tB.cells
    go_wp2_with fail
    obtain ⟨p0, p1, p2⟩ := tB.put (.int .i64 0) (.bool false) (.int .i64 0)
    refine bodyPost_ret (v := frT 0 false 0 false) (by simp [results, Try.results14, go_sem, p0, p1, p2]) rfl ⟨rfl, ?_⟩
    (repeat (first | exact Below.refl _ _ | exact ‹Below _ _ _› | refine Below.drew ?_ | refine Below.alloc ?_ (by first | omega | (simp; done) | (simp; omega)) _ | refine Below.setCell ?_ (by first | omega | (simp; done) | (simp; omega)) _ | refine Below.trans ?_ (Below.mono ‹Below _ _ _› (by first | omega | (simp; done) | (simp; omega)))))
  · rw [show missV r c l = frT r false l true from by simp [missV, h]]
    have H := Lib.hid h; clear h
    go_enter Try.func14, Try.ntmps14
    go_wp2_with fail
    refine (isFrame_any _ _ _ _).mono ?_; rintro e w1 ⟨rfl, b1⟩
    rw [H.out]
    obtain ⟨c1, f1⟩ := bcell b1; have z1 : w.heap.size < w1.heap.size := (by have := b1.size; (try simp at this); omega)
    obtain ⟨tA, tB⟩ := two_new b1
    obtain ⟨y0, y1, y2, x0, x1, x2⟩ := tB.cells
    obtain ⟨s0, s1, s2, u0, u1, u2⟩ := tA.cells
    obtain ⟨v0, v1, v2, -, -, -⟩ := (tA.col false).cells
    go_wp2_with fail
    obtain ⟨p0, p1, p2⟩ := (tB.other (h := w.heap.size) (o := 1) (by omega) (.bool false)).put (.int .i64 r) (.bool false) (.int .i64 l)
    refine bodyPost_ret (v := frT r false l true) (by simp [results, Try.results14, go_sem, p0, p1, p2]) rfl ⟨rfl, ?_⟩
    (repeat (first | exact Below.refl _ _ | exact ‹Below _ _ _› | refine Below.drew ?_ | refine Below.alloc ?_ (by first | omega | (simp; done) | (simp; omega)) _ | refine Below.setCell ?_ (by first | omega | (simp; done) | (simp; omega)) _ | refine Below.trans ?_ (Below.mono ‹Below _ _ _› (by first | omega | (simp; done) | (simp; omega)))))

set_option maxHeartbeats 400000 in
theorem walk (r : Int) (c : Bool) (l : Int) (w : World) :
    Calls Try.prog 5 #[frW r c l] w fun e w' => e = .returned (.bool true) ∧ Below w.heap.size w w' := by
  have q : (frG r c l != frG r c l) = false := by simp
  go_enter Try.func5, Try.ntmps5
  go_wp2_with fail
  refine (toFrame_any r c l _).mono ?_; rintro e w1 ⟨rfl, b1⟩
  obtain ⟨c1, f1⟩ := bcell b1; have z1 : w.heap.size < w1.heap.size := (by have := b1.size; (try simp at this); omega)
  go_wp2_with fail
  refine (spec_any r c l _).mono ?_; rintro e w2 ⟨rfl, b2⟩
  rw [missV_eq]
  obtain ⟨c2, f2⟩ := bcell b2; have z2 : w.heap.size < w2.heap.size := (by have := b2.size; (try simp at this); omega)
  go_wp2_with fail
  refine (toFrame_any r c l _).mono ?_; rintro e w3 ⟨rfl, b3⟩
  obtain ⟨c3, f3⟩ := bcell b3; have z3 : w.heap.size < w3.heap.size := (by have := b3.size; (try simp at this); omega)
  go_wp2_with fail
  refine (impl_any r c l _).mono ?_; rintro e w4 ⟨rfl, b4⟩
  rw [missV_eq]
  have tA := ((FrAt.new w2 (missR r c l) false (missL r c l)).keep b3).keep b4
  obtain ⟨y0, y1, y2, -, -, -⟩ := tA.cells
  have zA := tA.lt
  go_wp2_with fail
  refine (eqFrame_same _ _ _ _).mono ?_; rintro e w5 ⟨rfl, b5⟩
  go_wp2_with fail
  go_ret
  refine ⟨rfl, ?_⟩
  have sz_b1 := b1.size; (try simp only [World.size_alloc, World.size_drew, World.size_setCell] at sz_b1); have sz_b2 := b2.size; (try simp only [World.size_alloc, World.size_drew, World.size_setCell] at sz_b2); have sz_b3 := b3.size; (try simp only [World.size_alloc, World.size_drew, World.size_setCell] at sz_b3); have sz_b4 := b4.size; (try simp only [World.size_alloc, World.size_drew, World.size_setCell] at sz_b4); have sz_b5 := b5.size; (try simp only [World.size_alloc, World.size_drew, World.size_setCell] at sz_b5)
  (repeat (first | exact Below.refl _ _ | exact ‹Below _ _ _› | refine Below.drew ?_ | refine Below.alloc ?_ (by first | omega | (simp; done) | (simp; omega)) _ | refine Below.setCell ?_ (by first | omega | (simp; done) | (simp; omega)) _ | refine Below.trans ?_ (Below.mono ‹Below _ _ _› (by first | omega | (simp; done) | (simp; omega)))))
end Go.Proofs.Ytlehhkijigglgaa.ExMissBall
