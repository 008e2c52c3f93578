/-
  Races: the program's look at a play, and its points.
-/
import Derived.Test.YtbgdngfjeikheaaDoorRaCheck
import Derived.Test.YtbgdngfjeikheaaDoorRaCnt
import Derived.Test.YtbgdngfjeikheaaDoorRaCnt2
namespace Go.Proofs.YtbgdngfjeikheaaDoor
open Go.RowKit
set_option linter.unusedVariables false
set_option linter.unusedSimpArgs false

theorem strayAt_is {tq ld : Int} {s : ByteArray} (h : ptsB s = true) : (strayAt tq ld s.data.toList).isNone = playL tq ld 0 0 s.data.toList := by
  obtain ⟨h1, h2⟩ := ptsB_true.1 h
  unfold strayAt
  rw [len_list, if_neg (by omega), stray_play _ _ _ _ _ h2]

/-- What IsPlay says: whether it is a play, and whether there are a race and points. -/
def isPV (tq ld : Int) (s : ByteArray) : Value := .tuple #[.bool (isP tq ld s), .bool (goodR tq ld && ptsB s)]

set_option maxHeartbeats 1600000 in
theorem implIsPlay_any (tq ld : Int) (s : ByteArray) (p0 p1 : Addr) (w : World) (hs : (s.size : Int) ≤ 1000000000000) (he : Errs w p0 p1) :
    Calls Tryd.prog 221 #[.agg #[.int .i64 tq, .int .i64 ld], .string s] w fun e w' => e = .returned (isPV tq ld s) ∧ Below w.heap.size w w' := by
  have hi : isP tq ld s = (goodR tq ld && ptsB s && playL tq ld 0 0 s.data.toList) := rfl
  have hv : isPV tq ld s = .tuple #[.bool (isP tq ld s), .bool (goodR tq ld && ptsB s)] := rfl
  have HI := Lib.hid (And.intro hi hv); clear hi hv
  have HE := Lib.hid he; clear he
  cases h1 : goodR tq ld
  · have H1 := Lib.hid h1; clear h1
    go_enter Tryd.func221, Tryd.ntmps221
    go_wp2_with fail
    refine (implIsRace_any tq ld _).mono ?_; rintro e w1 ⟨rfl, b1⟩
    rw [H1.out]
    go_wp2_with fail
    refine bodyPost_ret (v := .tuple #[.bool false, .bool false]) (by simp [results, Tryd.results221, go_sem]) rfl ⟨by rw [HI.out.2, HI.out.1, H1.out]; rfl, ?_⟩
    (repeat (first | exact Below.refl _ _ | exact ‹Below _ _ _› | refine Below.drew ?_ | refine Below.alloc ?_ (by first | omega | (simp; done) | (simp; omega)) _ | refine Below.setCell ?_ (by first | omega | (simp; done) | (simp; omega)) _ | refine Below.trans ?_ (Below.mono ‹Below _ _ _› (by first | omega | (simp; done) | (simp; omega)))))
  have H1 := Lib.hid h1; clear h1
  cases h2 : ptsB s
  · have H2 := Lib.hid h2; clear h2
    go_enter Tryd.func221, Tryd.ntmps221
    go_wp2_with fail
    refine (implIsRace_any tq ld _).mono ?_; rintro e w1 ⟨rfl, b1⟩
    rw [H1.out]
    obtain ⟨c1, f1⟩ := bcell b1; have z1 : w.heap.size < w1.heap.size := (by have := b1.size; (try simp at this); omega)
    go_wp2_with fail
    refine (arePoints_any s _ hs).mono ?_; rintro e w2 ⟨rfl, b2⟩
    rw [H2.out]
    go_wp2_with fail
    refine bodyPost_ret (v := .tuple #[.bool false, .bool false]) (by simp [results, Tryd.results221, go_sem]) rfl ⟨by rw [HI.out.2, HI.out.1, H1.out, H2.out]; rfl, ?_⟩
    have sz_b1 := b1.size; (try simp at sz_b1); have sz_b2 := b2.size; (try simp at sz_b2)
    (repeat (first | exact Below.refl _ _ | exact ‹Below _ _ _› | refine Below.drew ?_ | refine Below.alloc ?_ (by first | omega | (simp; done) | (simp; omega)) _ | refine Below.setCell ?_ (by first | omega | (simp; done) | (simp; omega)) _ | refine Below.trans ?_ (Below.mono ‹Below _ _ _› (by first | omega | (simp; done) | (simp; omega)))))
  have hst := strayAt_is (tq := tq) (ld := ld) h2
  have H2 := Lib.hid h2; clear h2
  cases hx : strayAt tq ld s.data.toList with
  | none =>
    have hp : playL tq ld 0 0 s.data.toList = true := by rw [← hst, hx]; rfl
    have HST := Lib.hid (And.intro hx hp); clear hx hp hst
    go_enter Tryd.func221, Tryd.ntmps221
    go_wp2_with fail
    refine (implIsRace_any tq ld _).mono ?_; rintro e w1 ⟨rfl, b1⟩
    rw [H1.out]
    obtain ⟨c1, f1⟩ := bcell b1; have z1 : w.heap.size < w1.heap.size := (by have := b1.size; (try simp at this); omega)
    go_wp2_with fail
    refine (arePoints_any s _ hs).mono ?_; rintro e w2 ⟨rfl, b2⟩
    rw [H2.out]
    obtain ⟨c2, f2⟩ := bcell b2; have z2 : w.heap.size < w2.heap.size := (by have := b2.size; (try simp at this); omega)
    have HE2 := Lib.hid (HE.out.keep (w' := w2) (by (repeat (first | exact Below.refl _ _ | exact ‹Below _ _ _› | refine Below.drew ?_ | refine Below.alloc ?_ (by first | omega | (simp; done) | (simp; omega)) _ | refine Below.setCell ?_ (by first | omega | (simp; done) | (simp; omega)) _ | refine Below.trans ?_ (Below.mono ‹Below _ _ _› (by first | omega | (simp; done) | (simp; omega)))))))
    go_wp2_with fail
    refine (checkPlay_any tq ld s p0 p1 _ hs (by exact HE2.out.1) (by exact HE2.out.2)).mono ?_; rintro e w3 ⟨rfl, b3⟩
    rw [HST.out.1]
    unfold checkV
    go_wp2_with fail
    refine bodyPost_ret (v := .tuple #[.bool true, .bool true]) (by simp [results, Tryd.results221, go_sem]) rfl ⟨by rw [HI.out.2, HI.out.1, H1.out, H2.out, HST.out.2]; rfl, ?_⟩
    have sz_b1 := b1.size; (try simp at sz_b1); have sz_b2 := b2.size; (try simp at sz_b2); have sz_b3 := b3.size; (try simp at sz_b3)
    (repeat (first | exact Below.refl _ _ | exact ‹Below _ _ _› | refine Below.drew ?_ | refine Below.alloc ?_ (by first | omega | (simp; done) | (simp; omega)) _ | refine Below.setCell ?_ (by first | omega | (simp; done) | (simp; omega)) _ | refine Below.trans ?_ (Below.mono ‹Below _ _ _› (by first | omega | (simp; done) | (simp; omega)))))
  | some x =>
    have hp : playL tq ld 0 0 s.data.toList = false := by rw [← hst, hx]; rfl
    have HST := Lib.hid (And.intro hx hp); clear hx hp hst
    go_enter Tryd.func221, Tryd.ntmps221
    go_wp2_with fail
    refine (implIsRace_any tq ld _).mono ?_; rintro e w1 ⟨rfl, b1⟩
    rw [H1.out]
    obtain ⟨c1, f1⟩ := bcell b1; have z1 : w.heap.size < w1.heap.size := (by have := b1.size; (try simp at this); omega)
    go_wp2_with fail
    refine (arePoints_any s _ hs).mono ?_; rintro e w2 ⟨rfl, b2⟩
    rw [H2.out]
    obtain ⟨c2, f2⟩ := bcell b2; have z2 : w.heap.size < w2.heap.size := (by have := b2.size; (try simp at this); omega)
    have HE2 := Lib.hid (HE.out.keep (w' := w2) (by (repeat (first | exact Below.refl _ _ | exact ‹Below _ _ _› | refine Below.drew ?_ | refine Below.alloc ?_ (by first | omega | (simp; done) | (simp; omega)) _ | refine Below.setCell ?_ (by first | omega | (simp; done) | (simp; omega)) _ | refine Below.trans ?_ (Below.mono ‹Below _ _ _› (by first | omega | (simp; done) | (simp; omega)))))))
    go_wp2_with fail
    refine (checkPlay_any tq ld s p0 p1 _ hs (by exact HE2.out.1) (by exact HE2.out.2)).mono ?_; rintro e w3 ⟨rfl, b3⟩
    rw [HST.out.1]
    unfold checkV strayV
    go_wp2_with fail
    all_goals
      refine bodyPost_ret (v := .tuple #[.bool false, .bool true]) (by simp [results, Tryd.results221, go_sem]) rfl ⟨by rw [HI.out.2, HI.out.1, H1.out, H2.out, HST.out.2]; rfl, ?_⟩
      have sz_b1 := b1.size; (try simp at sz_b1); have sz_b2 := b2.size; (try simp at sz_b2); have sz_b3 := b3.size; (try simp at sz_b3)
      (repeat (first | exact Below.refl _ _ | exact ‹Below _ _ _› | refine Below.drew ?_ | refine Below.alloc ?_ (by first | omega | (simp; done) | (simp; omega)) _ | refine Below.setCell ?_ (by first | omega | (simp; done) | (simp; omega)) _ | refine Below.trans ?_ (Below.mono ‹Below _ _ _› (by first | omega | (simp; done) | (simp; omega)))))

def pbA (tq ld : Int) (s : ByteArray) : Int := if isP tq ld s then cntA s.data.toList else 0
def pbB (tq ld : Int) (s : ByteArray) : Int := if isP tq ld s then cntB s.data.toList else 0
set_option maxHeartbeats 1600000 in
theorem pointsBehind_any (tq ld : Int) (s : ByteArray) (p0 p1 : Addr) (w : World) (hs : (s.size : Int) ≤ 1000000000000) (he : Errs w p0 p1) :
    Calls Tryd.prog 206 #[.agg #[.int .i64 tq, .int .i64 ld], .string s] w fun e w' => e = .returned (.tuple #[.agg #[.int .i64 (pbA tq ld s), .int .i64 (pbB tq ld s)], .bool (isP tq ld s)]) ∧ Below w.heap.size w w' := by
  have hip := fun w he => implIsPlay_any tq ld s p0 p1 w hs he
  unfold isPV at hip
  have HI := Lib.hid hip; clear hip
  have HE := Lib.hid he; clear he
  have hcs := fun w => countSides_any s w
  have HC := Lib.hid hcs; clear hcs
  generalize (goodR tq ld && ptsB s) = o at *
  have hb0 : Below w.heap.size w ((w.alloc (.cells #[.int .i64 tq, .int .i64 ld] 200)).alloc (.cells #[.int .i64 0, .int .i64 0] 172)) := ((Below.refl _ _).alloc (Nat.le_refl _) _).alloc (by simp) _
  have hle : w.heap.size < ((w.alloc (.cells #[.int .i64 tq, .int .i64 ld] 200)).alloc (.cells #[.int .i64 0, .int .i64 0] 172)).heap.size := by simp; omega
  have hp0 := Pair.new (w.alloc (.cells #[.int .i64 tq, .int .i64 ld] 200)) 0 0 172
  rw [World.size_alloc] at hp0
  have HP0 := Lib.hid (And.intro hp0 (And.intro hb0 hle)); clear hp0 hb0 hle
  cases h1 : isP tq ld s
  · have e1 : pbA tq ld s = 0 := by unfold pbA; rw [h1]; rfl
    have e2 : pbB tq ld s = 0 := by unfold pbB; rw [h1]; rfl
    rw [h1] at HI
    rw [e1, e2]
    clear h1 e1 e2
    go_enter Tryd.func206, Tryd.ntmps206
    go_wp2_with fail
    refine (HI.out _ (HE.out.keep (by exact HP0.out.2.1))).mono ?_; rintro e w1 ⟨rfl, b1⟩
    have hp1 := HP0.out.1.keep b1
    have hb1 := HP0.out.2.1.trans (b1.mono (Nat.le_of_lt HP0.out.2.2))
    have HB1 := Lib.hid (And.intro hp1 hb1)
    obtain ⟨z, c0, c1, f0, f1⟩ := hp1
    clear b1 hb1
    go_wp2_with fail
    obtain ⟨-, q0, q1, -, -⟩ := HB1.out.1.put 0 0
    refine bodyPost_ret (v := .tuple #[.agg #[.int .i64 0, .int .i64 0], .bool false]) (by simp [results, Tryd.results206, go_sem, q0, q1]) rfl ⟨rfl, ?_⟩
    exact (HB1.out.2.setCell (by simp) _).setCell (by simp) _
  · have e1 : pbA tq ld s = cntA s.data.toList := by unfold pbA; rw [h1]; rfl
    have e2 : pbB tq ld s = cntB s.data.toList := by unfold pbB; rw [h1]; rfl
    rw [h1] at HI
    rw [e1, e2]
    clear h1 e1 e2
    generalize cntA s.data.toList = x at *
    generalize cntB s.data.toList = y at *
    go_enter Tryd.func206, Tryd.ntmps206
    go_wp2_with fail
    refine (HI.out _ (HE.out.keep (by exact HP0.out.2.1))).mono ?_; rintro e w1 ⟨rfl, b1⟩
    have hp1 := HP0.out.1.keep b1
    have hb1 := HP0.out.2.1.trans (b1.mono (Nat.le_of_lt HP0.out.2.2))
    have HB1 := Lib.hid (And.intro hp1 hb1)
    clear b1 hb1 hp1
    go_wp2_with fail
    refine (HC.out _).mono ?_; rintro e w2 ⟨rfl, b2⟩
    have hp2 := HB1.out.1.keep b2
    have hb2 := HB1.out.2.trans (b2.mono HB1.out.2.size)
    have HB2 := Lib.hid (And.intro hp2 hb2)
    obtain ⟨z, c0, c1, f0, f1⟩ := hp2
    clear b2 hb2
    go_wp2_with fail
    obtain ⟨-, q0, q1, -, -⟩ := HB2.out.1.put x y
    refine bodyPost_ret (v := .tuple #[.agg #[.int .i64 x, .int .i64 y], .bool true]) (by simp [results, Tryd.results206, go_sem, q0, q1]) rfl ⟨rfl, ?_⟩
    exact (HB2.out.2.setCell (by simp) _).setCell (by simp) _

end Go.Proofs.YtbgdngfjeikheaaDoor
