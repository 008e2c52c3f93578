/-
  Pins: whether ten pins have just been set up (the model's).
-/
import Derived.Test.YtgkkjlpfkoplhaaDoorPnFrame
import Derived.Test.YtgkkjlpfkoplhaaDoorPnTxM
namespace Go.Proofs.YtgkkjlpfkoplhaaDoor
open Go.RowKit
set_option linter.unusedVariables false
set_option linter.unusedSimpArgs false

def freshS (st : Int) (bs : List Int) : Bool := decide (bs.length = 0) || (decide (st = 10) && ((decide (bs.length = 1) && decide (bs.getD 0 0 = 10)) || (decide (bs.length = 2) && decide (0 < bs.getD 1 0))))
theorem fresh_is (bs : List Int) : freshS (leftP bs) bs = freshB bs := rfl
theorem below_box (w : World) (o : Obj) : Below w.heap.size w (w.alloc o) := (Below.refl _ _).alloc (Nat.le_refl _) _

set_option maxHeartbeats 3200000 in
set_option maxRecDepth 100000 in
theorem boFresh_any (d : Int) (st : Int) (ov : Bool) (bs : List Int) (hl : bs.length ≤ 2) (a : Option Addr) (c : Nat) (w : World) (h : Reads w a (ints bs)) :
    Calls Tryd.prog 59 #[.agg #[.int .i64 d, .slice a bs.length c, .int .i64 st, .bool ov]] w fun e w' => e = .returned (.bool (freshS st bs)) ∧ Below w.heap.size w w' := by
  match bs, hl with
  | [], _ =>
    have hv : freshS st [] = true := by simp [freshS]
    rw [hv]
    clear h hv
    go_enter Tryd.func59, Tryd.ntmps59
    go_wp2
    refine bodyPost_ret (v := .bool true) (by simp [results, Tryd.results59, go_sem]) rfl ⟨rfl, ?_⟩
    (repeat (first | exact Below.refl _ _ | exact ‹Below _ _ _› | refine Below.drew ?_ | refine Below.alloc ?_ (by first | omega | (simp; done) | (simp; omega)) _ | refine Below.setCell ?_ (by first | omega | (simp; done) | (simp; omega)) _ | refine Below.trans ?_ (Below.mono ‹Below _ _ _› (by first | omega | (simp; done) | (simp; omega)))))
  | [x], _ =>
    obtain ⟨b, off, rfl, hlt, hc⟩ := cells_of_reads h (by simp)
    have x0 : (w.alloc (.cells #[.int .i64 d, .slice (some ⟨b, off, none⟩) 1 c, .int .i64 st, .bool ov] 56)).cell? ⟨b, off, none⟩ = some (.int .i64 x) := by
      have := hc 0 (by simp)
      rw [Nat.add_zero] at this
      rw [(below_box w _).cell (p := ⟨b, off, none⟩) hlt]; exact this
    clear hc h
    by_cases hs : st = 10
    · subst hs
      by_cases hx : x = 10
      · subst hx
        have hv : freshS 10 [10] = true := by simp [freshS]
        rw [show [(10 : Int)].length = 1 from rfl, hv]
        clear hv
        go_enter Tryd.func59, Tryd.ntmps59
        go_wp2
        refine bodyPost_ret (v := .bool true) (by simp [results, Tryd.results59, go_sem]) rfl ⟨rfl, ?_⟩
        (repeat (first | exact Below.refl _ _ | exact ‹Below _ _ _› | refine Below.drew ?_ | refine Below.alloc ?_ (by first | omega | (simp; done) | (simp; omega)) _ | refine Below.setCell ?_ (by first | omega | (simp; done) | (simp; omega)) _ | refine Below.trans ?_ (Below.mono ‹Below _ _ _› (by first | omega | (simp; done) | (simp; omega)))))
      · have hv : freshS 10 [x] = false := by simp [freshS, hx]
        have hx1 : (x == 10) = false := by simpa using hx
        rw [show [x].length = 1 from rfl, hv]
        clear hv hx
        go_enter Tryd.func59, Tryd.ntmps59
        go_wp2
        refine bodyPost_ret (v := .bool false) (by simp [results, Tryd.results59, go_sem]) rfl ⟨rfl, ?_⟩
        (repeat (first | exact Below.refl _ _ | exact ‹Below _ _ _› | refine Below.drew ?_ | refine Below.alloc ?_ (by first | omega | (simp; done) | (simp; omega)) _ | refine Below.setCell ?_ (by first | omega | (simp; done) | (simp; omega)) _ | refine Below.trans ?_ (Below.mono ‹Below _ _ _› (by first | omega | (simp; done) | (simp; omega)))))
    · have hv : freshS st [x] = false := by simp [freshS, hs]
      have hs1 : (st == 10) = false := by simpa using hs
      rw [show [x].length = 1 from rfl, hv]
      clear hv hs
      go_enter Tryd.func59, Tryd.ntmps59
      go_wp2
      refine bodyPost_ret (v := .bool false) (by simp [results, Tryd.results59, go_sem]) rfl ⟨rfl, ?_⟩
      (repeat (first | exact Below.refl _ _ | exact ‹Below _ _ _› | refine Below.drew ?_ | refine Below.alloc ?_ (by first | omega | (simp; done) | (simp; omega)) _ | refine Below.setCell ?_ (by first | omega | (simp; done) | (simp; omega)) _ | refine Below.trans ?_ (Below.mono ‹Below _ _ _› (by first | omega | (simp; done) | (simp; omega)))))
  | [x, y], _ =>
    obtain ⟨b, off, rfl, hlt, hc⟩ := cells_of_reads h (by simp)
    have y0 : (w.alloc (.cells #[.int .i64 d, .slice (some ⟨b, off, none⟩) 2 c, .int .i64 st, .bool ov] 56)).cell? ⟨b, off + 1, none⟩ = some (.int .i64 y) := by
      have := hc 1 (by simp)
      rw [(below_box w _).cell (p := ⟨b, off + 1, none⟩) hlt]; exact this
    clear hc h
    by_cases hs : st = 10
    · subst hs
      by_cases hy : 0 < y
      · have hv : freshS 10 [x, y] = true := by simp [freshS, hy]
        rw [show [x, y].length = 2 from rfl, hv]
        clear hv
        go_enter Tryd.func59, Tryd.ntmps59
        go_wp2
        refine bodyPost_ret (v := .bool true) (by simp [results, Tryd.results59, go_sem]) rfl ⟨rfl, ?_⟩
        (repeat (first | exact Below.refl _ _ | exact ‹Below _ _ _› | refine Below.drew ?_ | refine Below.alloc ?_ (by first | omega | (simp; done) | (simp; omega)) _ | refine Below.setCell ?_ (by first | omega | (simp; done) | (simp; omega)) _ | refine Below.trans ?_ (Below.mono ‹Below _ _ _› (by first | omega | (simp; done) | (simp; omega)))))
      · have hv : freshS 10 [x, y] = false := by simp [freshS]; omega
        rw [show [x, y].length = 2 from rfl, hv]
        clear hv
        go_enter Tryd.func59, Tryd.ntmps59
        go_wp2
        refine bodyPost_ret (v := .bool false) (by simp [results, Tryd.results59, go_sem]) rfl ⟨rfl, ?_⟩
        (repeat (first | exact Below.refl _ _ | exact ‹Below _ _ _› | refine Below.drew ?_ | refine Below.alloc ?_ (by first | omega | (simp; done) | (simp; omega)) _ | refine Below.setCell ?_ (by first | omega | (simp; done) | (simp; omega)) _ | refine Below.trans ?_ (Below.mono ‹Below _ _ _› (by first | omega | (simp; done) | (simp; omega)))))
    · have hv : freshS st [x, y] = false := by simp [freshS, hs]
      have hs1 : (st == 10) = false := by simpa using hs
      rw [show [x, y].length = 2 from rfl, hv]
      clear hv hs
      go_enter Tryd.func59, Tryd.ntmps59
      go_wp2
      refine bodyPost_ret (v := .bool false) (by simp [results, Tryd.results59, go_sem]) rfl ⟨rfl, ?_⟩
      (repeat (first | exact Below.refl _ _ | exact ‹Below _ _ _› | refine Below.drew ?_ | refine Below.alloc ?_ (by first | omega | (simp; done) | (simp; omega)) _ | refine Below.setCell ?_ (by first | omega | (simp; done) | (simp; omega)) _ | refine Below.trans ?_ (Below.mono ‹Below _ _ _› (by first | omega | (simp; done) | (simp; omega)))))
end Go.Proofs.YtgkkjlpfkoplhaaDoor
