/-
  Races: the program's look at a play, and its points.
-/
import Derived.Test.YtooaeafnneikkaaDoorRaCheck
import Derived.Test.YtooaeafnneikkaaDoorRaCnt
import Derived.Test.YtooaeafnneikkaaDoorRaCnt2
namespace Go.Proofs.YtooaeafnneikkaaDoor
open Go.RowKit
set_option linter.unusedVariables false
set_option linter.unusedSimpArgs false

theorem strayAt_is {to ld : Int} {s : ByteArray} (h : ptsB s = true) : (strayAt to ld s.data.toList).isNone = playL to ld 0 0 s.data.toList := by
  obtain ⟨h1, h2⟩ := ptsB_true.1 h
  unfold strayAt
  rw [len_list, if_neg (by omega), stray_play _ _ _ _ _ h2]

/-- What IsPlay says: whether it is a play, and whether there are a race and points. -/
def isPV (to ld : Int) (s : ByteArray) : Value := .tuple #[.bool (isP to ld s), .bool (goodR to ld && ptsB s)]

set_option maxHeartbeats 1600000 in
theorem specIsPlay_any (to ld : Int) (s : ByteArray) (w : World) (hs : (s.size : Int) ≤ 1000000000000) :
    Calls Tryd.prog 14 #[.agg #[.int .i64 to, .int .i64 ld], .string s] w fun e w' => e = .returned (isPV to ld s) ∧ Below w.heap.size w w' := by
  have hi : isP to ld s = (goodR to ld && ptsB s && playL to ld 0 0 s.data.toList) := rfl
  have hv : isPV to ld s = .tuple #[.bool (isP to ld s), .bool (goodR to ld && ptsB s)] := rfl
  have hc := cntS_ok s.data.toList to ld 0 0
  have HI := Lib.hid (And.intro hi (And.intro hv hc)); clear hi hc hv
  have hcn := fun w => raCount_any to ld s w hs
  have HC := Lib.hid hcn; clear hcn
  cases h1 : goodR to ld
  · have H1 := Lib.hid h1; clear h1
    go_enter Tryd.func14, Tryd.ntmps14
    go_wp2_with fail
    refine (raGood_any to ld _).mono ?_; rintro e w1 ⟨rfl, b1⟩
    rw [H1.out]
    go_wp2_with fail
    refine bodyPost_ret (v := .tuple #[.bool false, .bool false]) (by simp [results, Tryd.results14, go_sem]) rfl ⟨by rw [HI.out.2.1, HI.out.1, H1.out]; rfl, ?_⟩
    (repeat (first | exact Below.refl _ _ | exact ‹Below _ _ _› | refine Below.drew ?_ | refine Below.alloc ?_ (by first | omega | (simp; done) | (simp; omega)) _ | refine Below.setCell ?_ (by first | omega | (simp; done) | (simp; omega)) _ | refine Below.trans ?_ (Below.mono ‹Below _ _ _› (by first | omega | (simp; done) | (simp; omega)))))
  have H1 := Lib.hid h1; clear h1
  cases h2 : ptsB s
  · have H2 := Lib.hid h2; clear h2
    go_enter Tryd.func14, Tryd.ntmps14
    go_wp2_with fail
    refine (raGood_any to ld _).mono ?_; rintro e w1 ⟨rfl, b1⟩
    rw [H1.out]
    obtain ⟨c1, f1⟩ := bcell b1; have z1 : w.heap.size < w1.heap.size := (by have := b1.size; (try simp at this); omega)
    go_wp2_with fail
    refine (raPoints_any s _ hs).mono ?_; rintro e w2 ⟨rfl, rfl⟩
    rw [H2.out]
    go_wp2_with fail
    refine bodyPost_ret (v := .tuple #[.bool false, .bool false]) (by simp [results, Tryd.results14, go_sem]) rfl ⟨by rw [HI.out.2.1, HI.out.1, H1.out, H2.out]; rfl, ?_⟩
    (repeat (first | exact Below.refl _ _ | exact ‹Below _ _ _› | refine Below.drew ?_ | refine Below.alloc ?_ (by first | omega | (simp; done) | (simp; omega)) _ | refine Below.setCell ?_ (by first | omega | (simp; done) | (simp; omega)) _ | refine Below.trans ?_ (Below.mono ‹Below _ _ _› (by first | omega | (simp; done) | (simp; omega)))))
  · have H2 := Lib.hid h2; clear h2
    generalize cntS to ld 0 0 s.data.toList = p at *
    obtain ⟨x, y, o⟩ := p
    unfold cntV at HC
    go_enter Tryd.func14, Tryd.ntmps14
    go_wp2_with fail
    refine (raGood_any to ld _).mono ?_; rintro e w1 ⟨rfl, b1⟩
    rw [H1.out]
    obtain ⟨c1, f1⟩ := bcell b1; have z1 : w.heap.size < w1.heap.size := (by have := b1.size; (try simp at this); omega)
    go_wp2_with fail
    refine (raPoints_any s _ hs).mono ?_; rintro e w2 ⟨rfl, rfl⟩
    rw [H2.out]
    go_wp2_with fail
    refine (HC.out _).mono ?_; rintro e w3 ⟨rfl, b3⟩
    go_wp2_with fail
    refine bodyPost_ret (v := .tuple #[.bool o, .bool true]) (by simp [results, Tryd.results14, go_sem]) rfl ⟨by rw [HI.out.2.1, HI.out.1, H1.out, H2.out, ← HI.out.2.2]; rfl, ?_⟩
    have sz_b1 := b1.size; (try simp at sz_b1); have sz_b3 := b3.size; (try simp at sz_b3)
    (repeat (first | exact Below.refl _ _ | exact ‹Below _ _ _› | refine Below.drew ?_ | refine Below.alloc ?_ (by first | omega | (simp; done) | (simp; omega)) _ | refine Below.setCell ?_ (by first | omega | (simp; done) | (simp; omega)) _ | refine Below.trans ?_ (Below.mono ‹Below _ _ _› (by first | omega | (simp; done) | (simp; omega)))))

set_option maxHeartbeats 1600000 in
theorem implIsPlay_any (to ld : Int) (s : ByteArray) (p0 p1 : Addr) (w : World) (hs : (s.size : Int) ≤ 1000000000000) (he : Errs w p0 p1) :
    Calls Tryd.prog 16 #[.agg #[.int .i64 to, .int .i64 ld], .string s] w fun e w' => e = .returned (isPV to ld s) ∧ Below w.heap.size w w' := by
  have hi : isP to ld s = (goodR to ld && ptsB s && playL to ld 0 0 s.data.toList) := rfl
  have hv : isPV to ld s = .tuple #[.bool (isP to ld s), .bool (goodR to ld && ptsB s)] := rfl
  have HI := Lib.hid (And.intro hi hv); clear hi hv
  have HE := Lib.hid he; clear he
  cases h1 : goodR to ld
  · have H1 := Lib.hid h1; clear h1
    go_enter Tryd.func16, Tryd.ntmps16
    go_wp2_with fail
    refine (implIsRace_any to ld _).mono ?_; rintro e w1 ⟨rfl, b1⟩
    rw [H1.out]
    go_wp2_with fail
    refine bodyPost_ret (v := .tuple #[.bool false, .bool false]) (by simp [results, Tryd.results16, go_sem]) rfl ⟨by rw [HI.out.2, HI.out.1, H1.out]; rfl, ?_⟩
    (repeat (first | exact Below.refl _ _ | exact ‹Below _ _ _› | refine Below.drew ?_ | refine Below.alloc ?_ (by first | omega | (simp; done) | (simp; omega)) _ | refine Below.setCell ?_ (by first | omega | (simp; done) | (simp; omega)) _ | refine Below.trans ?_ (Below.mono ‹Below _ _ _› (by first | omega | (simp; done) | (simp; omega)))))
  have H1 := Lib.hid h1; clear h1
  cases h2 : ptsB s
  · have H2 := Lib.hid h2; clear h2
    go_enter Tryd.func16, Tryd.ntmps16
    go_wp2_with fail
    refine (implIsRace_any to ld _).mono ?_; rintro e w1 ⟨rfl, b1⟩
    rw [H1.out]
    obtain ⟨c1, f1⟩ := bcell b1; have z1 : w.heap.size < w1.heap.size := (by have := b1.size; (try simp at this); omega)
    go_wp2_with fail
    refine (arePoints_any s _ hs).mono ?_; rintro e w2 ⟨rfl, b2⟩
    rw [H2.out]
    go_wp2_with fail
    refine bodyPost_ret (v := .tuple #[.bool false, .bool false]) (by simp [results, Tryd.results16, go_sem]) rfl ⟨by rw [HI.out.2, HI.out.1, H1.out, H2.out]; rfl, ?_⟩
    have sz_b1 := b1.size; (try simp at sz_b1); have sz_b2 := b2.size; (try simp at sz_b2)
    (repeat (first | exact Below.refl _ _ | exact ‹Below _ _ _› | refine Below.drew ?_ | refine Below.alloc ?_ (by first | omega | (simp; done) | (simp; omega)) _ | refine Below.setCell ?_ (by first | omega | (simp; done) | (simp; omega)) _ | refine Below.trans ?_ (Below.mono ‹Below _ _ _› (by first | omega | (simp; done) | (simp; omega)))))
  have hst := strayAt_is (to := to) (ld := ld) h2
  have H2 := Lib.hid h2; clear h2
  cases hx : strayAt to ld s.data.toList with
  | none =>
    have hp : playL to ld 0 0 s.data.toList = true := by rw [← hst, hx]; rfl
    have HST := Lib.hid (And.intro hx hp); clear hx hp hst
    go_enter Tryd.func16, Tryd.ntmps16
    go_wp2_with fail
    refine (implIsRace_any to ld _).mono ?_; rintro e w1 ⟨rfl, b1⟩
    rw [H1.out]
    obtain ⟨c1, f1⟩ := bcell b1; have z1 : w.heap.size < w1.heap.size := (by have := b1.size; (try simp at this); omega)
    go_wp2_with fail
    refine (arePoints_any s _ hs).mono ?_; rintro e w2 ⟨rfl, b2⟩
    rw [H2.out]
    obtain ⟨c2, f2⟩ := bcell b2; have z2 : w.heap.size < w2.heap.size := (by have := b2.size; (try simp at this); omega)
    have HE2 := Lib.hid (HE.out.keep (w' := w2) (by (repeat (first | exact Below.refl _ _ | exact ‹Below _ _ _› | refine Below.drew ?_ | refine Below.alloc ?_ (by first | omega | (simp; done) | (simp; omega)) _ | refine Below.setCell ?_ (by first | omega | (simp; done) | (simp; omega)) _ | refine Below.trans ?_ (Below.mono ‹Below _ _ _› (by first | omega | (simp; done) | (simp; omega)))))))
    go_wp2_with fail
    refine (checkPlay_any to ld s p0 p1 _ hs (by exact HE2.out.1) (by exact HE2.out.2)).mono ?_; rintro e w3 ⟨rfl, b3⟩
    rw [HST.out.1]
    unfold checkV
    go_wp2_with fail
    refine bodyPost_ret (v := .tuple #[.bool true, .bool true]) (by simp [results, Tryd.results16, go_sem]) rfl ⟨by rw [HI.out.2, HI.out.1, H1.out, H2.out, HST.out.2]; rfl, ?_⟩
    have sz_b1 := b1.size; (try simp at sz_b1); have sz_b2 := b2.size; (try simp at sz_b2); have sz_b3 := b3.size; (try simp at sz_b3)
    (repeat (first | exact Below.refl _ _ | exact ‹Below _ _ _› | refine Below.drew ?_ | refine Below.alloc ?_ (by first | omega | (simp; done) | (simp; omega)) _ | refine Below.setCell ?_ (by first | omega | (simp; done) | (simp; omega)) _ | refine Below.trans ?_ (Below.mono ‹Below _ _ _› (by first | omega | (simp; done) | (simp; omega)))))
  | some x =>
    have hp : playL to ld 0 0 s.data.toList = false := by rw [← hst, hx]; rfl
    have HST := Lib.hid (And.intro hx hp); clear hx hp hst
    go_enter Tryd.func16, Tryd.ntmps16
    go_wp2_with fail
    refine (implIsRace_any to ld _).mono ?_; rintro e w1 ⟨rfl, b1⟩
    rw [H1.out]
    obtain ⟨c1, f1⟩ := bcell b1; have z1 : w.heap.size < w1.heap.size := (by have := b1.size; (try simp at this); omega)
    go_wp2_with fail
    refine (arePoints_any s _ hs).mono ?_; rintro e w2 ⟨rfl, b2⟩
    rw [H2.out]
    obtain ⟨c2, f2⟩ := bcell b2; have z2 : w.heap.size < w2.heap.size := (by have := b2.size; (try simp at this); omega)
    have HE2 := Lib.hid (HE.out.keep (w' := w2) (by (repeat (first | exact Below.refl _ _ | exact ‹Below _ _ _› | refine Below.drew ?_ | refine Below.alloc ?_ (by first | omega | (simp; done) | (simp; omega)) _ | refine Below.setCell ?_ (by first | omega | (simp; done) | (simp; omega)) _ | refine Below.trans ?_ (Below.mono ‹Below _ _ _› (by first | omega | (simp; done) | (simp; omega)))))))
    go_wp2_with fail
    refine (checkPlay_any to ld s p0 p1 _ hs (by exact HE2.out.1) (by exact HE2.out.2)).mono ?_; rintro e w3 ⟨rfl, b3⟩
    rw [HST.out.1]
    unfold checkV strayV
    go_wp2_with fail
    all_goals
      refine bodyPost_ret (v := .tuple #[.bool false, .bool true]) (by simp [results, Tryd.results16, go_sem]) rfl ⟨by rw [HI.out.2, HI.out.1, H1.out, H2.out, HST.out.2]; rfl, ?_⟩
      have sz_b1 := b1.size; (try simp at sz_b1); have sz_b2 := b2.size; (try simp at sz_b2); have sz_b3 := b3.size; (try simp at sz_b3)
      (repeat (first | exact Below.refl _ _ | exact ‹Below _ _ _› | refine Below.drew ?_ | refine Below.alloc ?_ (by first | omega | (simp; done) | (simp; omega)) _ | refine Below.setCell ?_ (by first | omega | (simp; done) | (simp; omega)) _ | refine Below.trans ?_ (Below.mono ‹Below _ _ _› (by first | omega | (simp; done) | (simp; omega)))))

def pbA (to ld : Int) (s : ByteArray) : Int := if isP to ld s then cntA s.data.toList else 0
def pbB (to ld : Int) (s : ByteArray) : Int := if isP to ld s then cntB s.data.toList else 0
set_option maxHeartbeats 1600000 in
theorem pointsBehind_any (to ld : Int) (s : ByteArray) (p0 p1 : Addr) (w : World) (hs : (s.size : Int) ≤ 1000000000000) (he : Errs w p0 p1) :
    Calls Tryd.prog 49 #[.agg #[.int .i64 to, .int .i64 ld], .string s] w fun e w' => e = .returned (.tuple #[.agg #[.int .i64 (pbA to ld s), .int .i64 (pbB to ld s)], .bool (isP to ld s)]) ∧ Below w.heap.size w w' := by
  have hip := fun w he => implIsPlay_any to ld s p0 p1 w hs he
  unfold isPV at hip
  have HI := Lib.hid hip; clear hip
  have HE := Lib.hid he; clear he
  have hcs := fun w => countSides_any s w
  have HC := Lib.hid hcs; clear hcs
  generalize (goodR to ld && ptsB s) = o at *
  have hb0 : Below w.heap.size w ((w.alloc (.cells #[.int .i64 to, .int .i64 ld] 26)).alloc (.cells #[.int .i64 0, .int .i64 0] 57)) := ((Below.refl _ _).alloc (Nat.le_refl _) _).alloc (by simp) _
  have hle : w.heap.size < ((w.alloc (.cells #[.int .i64 to, .int .i64 ld] 26)).alloc (.cells #[.int .i64 0, .int .i64 0] 57)).heap.size := by simp; omega
  have hp0 := Pair.new (w.alloc (.cells #[.int .i64 to, .int .i64 ld] 26)) 0 0 57
  rw [World.size_alloc] at hp0
  have HP0 := Lib.hid (And.intro hp0 (And.intro hb0 hle)); clear hp0 hb0 hle
  cases h1 : isP to ld s
  · have e1 : pbA to ld s = 0 := by unfold pbA; rw [h1]; rfl
    have e2 : pbB to ld s = 0 := by unfold pbB; rw [h1]; rfl
    rw [h1] at HI
    rw [e1, e2]
    clear h1 e1 e2
    go_enter Tryd.func49, Tryd.ntmps49
    go_wp2_with fail
    refine (HI.out _ (HE.out.keep (by exact HP0.out.2.1))).mono ?_; rintro e w1 ⟨rfl, b1⟩
    have hp1 := HP0.out.1.keep b1
    have hb1 := HP0.out.2.1.trans (b1.mono (Nat.le_of_lt HP0.out.2.2))
    have HB1 := Lib.hid (And.intro hp1 hb1)
    obtain ⟨z, c0, c1, f0, f1⟩ := hp1
    clear b1 hb1
    go_wp2_with fail
    obtain ⟨-, q0, q1, -, -⟩ := HB1.out.1.put 0 0
    refine bodyPost_ret (v := .tuple #[.agg #[.int .i64 0, .int .i64 0], .bool false]) (by simp [results, Tryd.results49, go_sem, q0, q1]) rfl ⟨rfl, ?_⟩
    exact (HB1.out.2.setCell (by simp) _).setCell (by simp) _
  · have e1 : pbA to ld s = cntA s.data.toList := by unfold pbA; rw [h1]; rfl
    have e2 : pbB to ld s = cntB s.data.toList := by unfold pbB; rw [h1]; rfl
    rw [h1] at HI
    rw [e1, e2]
    clear h1 e1 e2
    generalize cntA s.data.toList = x at *
    generalize cntB s.data.toList = y at *
    go_enter Tryd.func49, Tryd.ntmps49
    go_wp2_with fail
    refine (HI.out _ (HE.out.keep (by exact HP0.out.2.1))).mono ?_; rintro e w1 ⟨rfl, b1⟩
    have hp1 := HP0.out.1.keep b1
    have hb1 := HP0.out.2.1.trans (b1.mono (Nat.le_of_lt HP0.out.2.2))
    have HB1 := Lib.hid (And.intro hp1 hb1)
    clear b1 hb1 hp1
    go_wp2_with fail
    refine (HC.out _).mono ?_; rintro e w2 ⟨rfl, b2⟩
    have hp2 := HB1.out.1.keep b2
    have hb2 := HB1.out.2.trans (b2.mono HB1.out.2.size)
    have HB2 := Lib.hid (And.intro hp2 hb2)
    obtain ⟨z, c0, c1, f0, f1⟩ := hp2
    clear b2 hb2
    go_wp2_with fail
    obtain ⟨-, q0, q1, -, -⟩ := HB2.out.1.put x y
    refine bodyPost_ret (v := .tuple #[.agg #[.int .i64 x, .int .i64 y], .bool true]) (by simp [results, Tryd.results49, go_sem, q0, q1]) rfl ⟨rfl, ?_⟩
    exact (HB2.out.2.setCell (by simp) _).setCell (by simp) _

end Go.Proofs.YtooaeafnneikkaaDoor
