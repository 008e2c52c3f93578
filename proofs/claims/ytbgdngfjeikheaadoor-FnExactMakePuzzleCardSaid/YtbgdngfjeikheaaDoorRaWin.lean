/-
  Races: who has won by a play: the model and the program.
-/
import Derived.Test.YtbgdngfjeikheaaDoorRaPlay
namespace Go.Proofs.YtbgdngfjeikheaaDoor
open Go.RowKit
set_option linter.unusedVariables false
set_option linter.unusedSimpArgs false

/-- The side that has won, or a dash. -/
def sideT (n : Nat) : ByteArray := if n = 1 then ⟨#[97]⟩ else if n = 2 then ⟨#[98]⟩ else ⟨#[45]⟩

def winT (tq ld : Int) (s : ByteArray) : ByteArray := if isP tq ld s then sideT (wonN tq ld (cntA s.data.toList) (cntB s.data.toList)) else ⟨#[]⟩
theorem winT_bad {tq ld : Int} {s : ByteArray} (h : isP tq ld s = false) : winT tq ld s = ⟨#[]⟩ := by unfold winT; rw [h]; rfl
theorem winT_ok {tq ld : Int} {s : ByteArray} (h : isP tq ld s = true) : winT tq ld s = sideT (wonN tq ld (cntA s.data.toList) (cntB s.data.toList)) := by unfold winT; rw [h]; rfl

set_option maxHeartbeats 1600000 in
theorem implWinnerOf_any (tq ld : Int) (s : ByteArray) (p0 p1 : Addr) (w : World) (hs : (s.size : Int) ≤ 1000000000000) (he : Errs w p0 p1) :
    Calls Tryd.prog 179 #[.agg #[.int .i64 tq, .int .i64 ld], .string s] w fun e w' => e = .returned (.tuple #[.string (winT tq ld s), .bool (isP tq ld s)]) ∧ Below w.heap.size w w' := by
  have hpb := fun w he => pointsBehind_any tq ld s p0 p1 w hs he
  have HPB := Lib.hid hpb; clear hpb
  have HE := Lib.hid he; clear he
  cases h1 : isP tq ld s
  · rw [winT_bad h1]
    rw [h1] at HPB
    generalize pbA tq ld s = x at *
    generalize pbB tq ld s = y at *
    clear h1
    go_enter Tryd.func179, Tryd.ntmps179
    go_wp2_with fail
    refine (HPB.out _ (HE.out.keep (by (repeat (first | exact Below.refl _ _ | exact ‹Below _ _ _› | refine Below.drew ?_ | refine Below.alloc ?_ (by first | omega | (simp; done) | (simp; omega)) _ | refine Below.setCell ?_ (by first | omega | (simp; done) | (simp; omega)) _ | refine Below.trans ?_ (Below.mono ‹Below _ _ _› (by first | omega | (simp; done) | (simp; omega)))))))).mono ?_; rintro e w1 ⟨rfl, b1⟩
    go_wp2_with fail
    refine bodyPost_ret (v := .tuple #[.string ⟨#[]⟩, .bool false]) (by simp [results, Tryd.results179, go_sem]) rfl ⟨rfl, ?_⟩
    have sz_b1 := b1.size; (try simp at sz_b1)
    (repeat (first | exact Below.refl _ _ | exact ‹Below _ _ _› | refine Below.drew ?_ | refine Below.alloc ?_ (by first | omega | (simp; done) | (simp; omega)) _ | refine Below.setCell ?_ (by first | omega | (simp; done) | (simp; omega)) _ | refine Below.trans ?_ (Below.mono ‹Below _ _ _› (by first | omega | (simp; done) | (simp; omega)))))
  · rw [winT_ok h1]
    obtain ⟨a0, b0, ab, sz, -, -⟩ := isP_bd h1
    have e1 : pbA tq ld s = cntA s.data.toList := by unfold pbA; rw [h1]; rfl
    have e2 : pbB tq ld s = cntB s.data.toList := by unfold pbB; rw [h1]; rfl
    rw [h1, e1, e2] at HPB
    clear h1 e1 e2
    generalize cntA s.data.toList = x at *
    generalize cntB s.data.toList = y at *
    have hrw := fun w => winnerOfRace_any tq ld x y w a0 (by omega) b0 (by omega)
    have HRW := Lib.hid hrw; clear hrw
    rcases wonI_eq tq ld x y with ⟨h, -⟩ | ⟨h, -⟩ | ⟨h, -⟩
    all_goals
      rw [h] at HRW
      rw [h]
      clear h
      unfold sideS at HRW
      unfold sideT
      go_enter Tryd.func179, Tryd.ntmps179
      go_wp2_with fail
      refine (HPB.out _ (HE.out.keep (by (repeat (first | exact Below.refl _ _ | exact ‹Below _ _ _› | refine Below.drew ?_ | refine Below.alloc ?_ (by first | omega | (simp; done) | (simp; omega)) _ | refine Below.setCell ?_ (by first | omega | (simp; done) | (simp; omega)) _ | refine Below.trans ?_ (Below.mono ‹Below _ _ _› (by first | omega | (simp; done) | (simp; omega)))))))).mono ?_; rintro e w1 ⟨rfl, b1⟩
      obtain ⟨c1, f1⟩ := bcell b1; have z1 : w.heap.size < w1.heap.size := (by have := b1.size; (try simp at this); omega)
      go_wp2_with fail
      refine (HRW.out _).mono ?_; rintro e w2 ⟨rfl, b2⟩
      go_wp2_with fail
      refine bodyPost_ret (by simp [results, Tryd.results179, go_sem]) rfl ⟨rfl, ?_⟩
      have sz_b1 := b1.size; (try simp at sz_b1); have sz_b2 := b2.size; (try simp at sz_b2)
      (repeat (first | exact Below.refl _ _ | exact ‹Below _ _ _› | refine Below.drew ?_ | refine Below.alloc ?_ (by first | omega | (simp; done) | (simp; omega)) _ | refine Below.setCell ?_ (by first | omega | (simp; done) | (simp; omega)) _ | refine Below.trans ?_ (Below.mono ‹Below _ _ _› (by first | omega | (simp; done) | (simp; omega)))))

end Go.Proofs.YtbgdngfjeikheaaDoor
