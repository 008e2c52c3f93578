/-
  Races: who has won by a play: the model and the program.
-/
import Derived.Test.YtooaeafnneikkaaDoorRaPlay
namespace Go.Proofs.YtooaeafnneikkaaDoor
open Go.RowKit
set_option linter.unusedVariables false
set_option linter.unusedSimpArgs false

/-- The side that has won, or a dash. -/
def sideT (n : Nat) : ByteArray := if n = 1 then ⟨#[97]⟩ else if n = 2 then ⟨#[98]⟩ else ⟨#[45]⟩

set_option maxHeartbeats 1600000 in
theorem raSide_any (to ld : Int) (s : ByteArray) (w : World) (h : isP to ld s = true) :
    Calls Tryd.prog 48 #[.agg #[.int .i64 to, .int .i64 ld], .string s] w fun e w' => e = .returned (.string (sideT (wonN to ld (cntA s.data.toList) (cntB s.data.toList)))) ∧ Below w.heap.size w w' := by
  have hc := isP_cnt h
  obtain ⟨a0, b0, ab, sz, -, -⟩ := isP_bd h
  have hcn := fun w => raCount_any to ld s w (by omega)
  rw [hc] at hcn
  have HC := Lib.hid hcn; clear hcn hc h
  generalize cntA s.data.toList = x at *
  generalize cntB s.data.toList = y at *
  have hrw := fun w => raWon_any to ld x y w a0 (by omega) b0 (by omega)
  have HRW := Lib.hid hrw; clear hrw
  rcases wonI_eq to ld x y with ⟨h, g⟩ | ⟨h, g⟩ | ⟨h, g⟩
  all_goals
    rw [g] at HRW
    rw [h]
    clear h g
    unfold cntV at HC
    unfold sideT
    go_enter Tryd.func48, Tryd.ntmps48
    go_wp2_with fail
    refine (HC.out _).mono ?_; rintro e w1 ⟨rfl, b1⟩
    obtain ⟨c1, f1⟩ := bcell b1; have z1 : w.heap.size < w1.heap.size := (by have := b1.size; (try simp at this); omega)
    go_wp2_with fail
    refine (HRW.out _).mono ?_; rintro e w2 ⟨rfl, b2⟩
    obtain ⟨c2, f2⟩ := bcell b2; have z2 : w.heap.size < w2.heap.size := (by have := b2.size; (try simp at this); omega)
    go_wp2_with fail
    go_ret
    refine ⟨rfl, ?_⟩
    have sz_b1 := b1.size; (try simp at sz_b1); have sz_b2 := b2.size; (try simp at sz_b2)
    (repeat (first | exact Below.refl _ _ | exact ‹Below _ _ _› | refine Below.drew ?_ | refine Below.alloc ?_ (by first | omega | (simp; done) | (simp; omega)) _ | refine Below.setCell ?_ (by first | omega | (simp; done) | (simp; omega)) _ | refine Below.trans ?_ (Below.mono ‹Below _ _ _› (by first | omega | (simp; done) | (simp; omega)))))

def winT (to ld : Int) (s : ByteArray) : ByteArray := if isP to ld s then sideT (wonN to ld (cntA s.data.toList) (cntB s.data.toList)) else ⟨#[]⟩
theorem winT_bad {to ld : Int} {s : ByteArray} (h : isP to ld s = false) : winT to ld s = ⟨#[]⟩ := by unfold winT; rw [h]; rfl
theorem winT_ok {to ld : Int} {s : ByteArray} (h : isP to ld s = true) : winT to ld s = sideT (wonN to ld (cntA s.data.toList) (cntB s.data.toList)) := by unfold winT; rw [h]; rfl

set_option maxHeartbeats 1600000 in
theorem specWinnerOf_any (to ld : Int) (s : ByteArray) (w : World) (hs : (s.size : Int) ≤ 1000000000000) :
    Calls Tryd.prog 17 #[.agg #[.int .i64 to, .int .i64 ld], .string s] w fun e w' => e = .returned (.tuple #[.string (winT to ld s), .bool (isP to ld s)]) ∧ Below w.heap.size w w' := by
  have his := fun w => raIs_any to ld s w hs
  have HI := Lib.hid his; clear his
  cases h1 : isP to ld s
  · rw [winT_bad h1]
    rw [h1] at HI
    clear h1
    go_enter Tryd.func17, Tryd.ntmps17
    go_wp2_with fail
    refine (HI.out _).mono ?_; rintro e w1 ⟨rfl, b1⟩
    go_wp2_with fail
    refine bodyPost_ret (v := .tuple #[.string ⟨#[]⟩, .bool false]) (by simp [results, Tryd.results17, go_sem]) rfl ⟨rfl, ?_⟩
    (repeat (first | exact Below.refl _ _ | exact ‹Below _ _ _› | refine Below.drew ?_ | refine Below.alloc ?_ (by first | omega | (simp; done) | (simp; omega)) _ | refine Below.setCell ?_ (by first | omega | (simp; done) | (simp; omega)) _ | refine Below.trans ?_ (Below.mono ‹Below _ _ _› (by first | omega | (simp; done) | (simp; omega)))))
  · rw [winT_ok h1]
    have hsd := fun w => raSide_any to ld s w h1
    have HS := Lib.hid hsd; clear hsd
    rw [h1] at HI
    clear h1
    generalize sideT (wonN to ld (cntA s.data.toList) (cntB s.data.toList)) = T at *
    go_enter Tryd.func17, Tryd.ntmps17
    go_wp2_with fail
    refine (HI.out _).mono ?_; rintro e w1 ⟨rfl, b1⟩
    obtain ⟨c1, f1⟩ := bcell b1; have z1 : w.heap.size < w1.heap.size := (by have := b1.size; (try simp at this); omega)
    go_wp2_with fail
    refine (HS.out _).mono ?_; rintro e w2 ⟨rfl, b2⟩
    go_wp2_with fail
    refine bodyPost_ret (v := .tuple #[.string T, .bool true]) (by simp [results, Tryd.results17, go_sem]) rfl ⟨rfl, ?_⟩
    have sz_b1 := b1.size; (try simp at sz_b1); have sz_b2 := b2.size; (try simp at sz_b2)
    (repeat (first | exact Below.refl _ _ | exact ‹Below _ _ _› | refine Below.drew ?_ | refine Below.alloc ?_ (by first | omega | (simp; done) | (simp; omega)) _ | refine Below.setCell ?_ (by first | omega | (simp; done) | (simp; omega)) _ | refine Below.trans ?_ (Below.mono ‹Below _ _ _› (by first | omega | (simp; done) | (simp; omega)))))

set_option maxHeartbeats 1600000 in
theorem implWinnerOf_any (to ld : Int) (s : ByteArray) (p0 p1 : Addr) (w : World) (hs : (s.size : Int) ≤ 1000000000000) (he : Errs w p0 p1) :
    Calls Tryd.prog 18 #[.agg #[.int .i64 to, .int .i64 ld], .string s] w fun e w' => e = .returned (.tuple #[.string (winT to ld s), .bool (isP to ld s)]) ∧ Below w.heap.size w w' := by
  have hpb := fun w he => pointsBehind_any to ld s p0 p1 w hs he
  have HPB := Lib.hid hpb; clear hpb
  have HE := Lib.hid he; clear he
  cases h1 : isP to ld s
  · rw [winT_bad h1]
    rw [h1] at HPB
    generalize pbA to ld s = x at *
    generalize pbB to ld s = y at *
    clear h1
    go_enter Tryd.func18, Tryd.ntmps18
    go_wp2_with fail
    refine (HPB.out _ (HE.out.keep (by (repeat (first | exact Below.refl _ _ | exact ‹Below _ _ _› | refine Below.drew ?_ | refine Below.alloc ?_ (by first | omega | (simp; done) | (simp; omega)) _ | refine Below.setCell ?_ (by first | omega | (simp; done) | (simp; omega)) _ | refine Below.trans ?_ (Below.mono ‹Below _ _ _› (by first | omega | (simp; done) | (simp; omega)))))))).mono ?_; rintro e w1 ⟨rfl, b1⟩
    go_wp2_with fail
    refine bodyPost_ret (v := .tuple #[.string ⟨#[]⟩, .bool false]) (by simp [results, Tryd.results18, go_sem]) rfl ⟨rfl, ?_⟩
    have sz_b1 := b1.size; (try simp at sz_b1)
    (repeat (first | exact Below.refl _ _ | exact ‹Below _ _ _› | refine Below.drew ?_ | refine Below.alloc ?_ (by first | omega | (simp; done) | (simp; omega)) _ | refine Below.setCell ?_ (by first | omega | (simp; done) | (simp; omega)) _ | refine Below.trans ?_ (Below.mono ‹Below _ _ _› (by first | omega | (simp; done) | (simp; omega)))))
  · rw [winT_ok h1]
    obtain ⟨a0, b0, ab, sz, -, -⟩ := isP_bd h1
    have e1 : pbA to ld s = cntA s.data.toList := by unfold pbA; rw [h1]; rfl
    have e2 : pbB to ld s = cntB s.data.toList := by unfold pbB; rw [h1]; rfl
    rw [h1, e1, e2] at HPB
    clear h1 e1 e2
    generalize cntA s.data.toList = x at *
    generalize cntB s.data.toList = y at *
    have hrw := fun w => winnerOfRace_any to ld x y w a0 (by omega) b0 (by omega)
    have HRW := Lib.hid hrw; clear hrw
    rcases wonI_eq to ld x y with ⟨h, -⟩ | ⟨h, -⟩ | ⟨h, -⟩
    all_goals
      rw [h] at HRW
      rw [h]
      clear h
      unfold sideS at HRW
      unfold sideT
      go_enter Tryd.func18, Tryd.ntmps18
      go_wp2_with fail
      refine (HPB.out _ (HE.out.keep (by (repeat (first | exact Below.refl _ _ | exact ‹Below _ _ _› | refine Below.drew ?_ | refine Below.alloc ?_ (by first | omega | (simp; done) | (simp; omega)) _ | refine Below.setCell ?_ (by first | omega | (simp; done) | (simp; omega)) _ | refine Below.trans ?_ (Below.mono ‹Below _ _ _› (by first | omega | (simp; done) | (simp; omega)))))))).mono ?_; rintro e w1 ⟨rfl, b1⟩
      obtain ⟨c1, f1⟩ := bcell b1; have z1 : w.heap.size < w1.heap.size := (by have := b1.size; (try simp at this); omega)
      go_wp2_with fail
      refine (HRW.out _).mono ?_; rintro e w2 ⟨rfl, b2⟩
      go_wp2_with fail
      refine bodyPost_ret (by simp [results, Tryd.results18, go_sem]) rfl ⟨rfl, ?_⟩
      have sz_b1 := b1.size; (try simp at sz_b1); have sz_b2 := b2.size; (try simp at sz_b2)
      (repeat (first | exact Below.refl _ _ | exact ‹Below _ _ _› | refine Below.drew ?_ | refine Below.alloc ?_ (by first | omega | (simp; done) | (simp; omega)) _ | refine Below.setCell ?_ (by first | omega | (simp; done) | (simp; omega)) _ | refine Below.trans ?_ (Below.mono ‹Below _ _ _› (by first | omega | (simp; done) | (simp; omega)))))

end Go.Proofs.YtooaeafnneikkaaDoor
