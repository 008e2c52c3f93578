/- IsTennisGame: the model and the program, and the law over them. -/
import Derived.Test.YtbgdngfjeikheabDoorTnCheck
import Derived.Test.YtbgdngfjeikheabDoorTnPlay
namespace Go.Proofs.YtbgdngfjeikheabDoor
open Go.RowKit

def isS (to : Int) (s : ByteArray) : Bool := ptsB s && decide ((playS to 0 0 s.data.toList).2.2.1 = s.size)
theorem is_eq (to : Int) (s : ByteArray) (ht : 0 < to) : isS to s = (strayAt to s.data.toList).isNone := by
  have hto : wonN to 0 0 = 0 := by unfold wonN; rw [if_neg (by omega), if_neg (by omega)]
  unfold isS ptsB strayAt
  by_cases hl : 300 < s.data.toList.length
  · rw [if_pos hl]; simp at hl ⊢; intro h; omega
  · rw [if_neg hl, decide_eq_true (by omega)]
    cases ha : abL s.data.toList
    · have := stray_bad _ to 0 0 ha
      cases hs : stray to 0 0 s.data.toList
      · exact absurd hs this
      · rfl
    · have hp := play_stray _ to 0 0 ha hto
      rw [hp.2.2.2.2.2.2, len_list]
      by_cases hn : (playS to 0 0 s.data.toList).2.2.1 = s.size
      · rw [if_pos hn]; simp [hn]
      · rw [if_neg hn]; simp [hn]

set_option maxHeartbeats 800000 in
theorem tnIs_any (to : Int) (s : ByteArray) (w : World) (hs : (s.size : Int) ≤ 1000000000000) :
    Calls Tryd.prog 47 #[.agg #[.int .i64 to, .int .i64 2], .string s] w fun e w' => e = .returned (.bool (isS to s)) ∧ Below w.heap.size w w' := by
  have hpl := fun w => tnPlay_any to s 0 w hs (Nat.zero_le _)
  rw [List.drop_zero] at hpl
  have hi : isS to s = (ptsB s && decide ((playS to 0 0 s.data.toList).2.2.1 = s.size)) := rfl
  have HI := Lib.hid (And.intro hi hpl); clear hi hpl
  generalize playS to 0 0 s.data.toList = p at *
  obtain ⟨x, y, n, e⟩ := p
  unfold playV at HI
  cases hp : ptsB s
  · have HPT := Lib.hid hp; clear hp
    go_enter Tryd.func47, Tryd.ntmps47
    go_wp2_with fail
    refine (HI.out.2 _).mono ?_; rintro e w1 ⟨rfl, b1⟩
    go_wp2_with fail
    refine (tnPoints_any s _ hs).mono ?_; rintro e w2 ⟨rfl, rfl⟩
    rw [HPT.out]
    go_wp2_with fail
    go_ret
    refine ⟨ret_bool (by rw [HI.out.1, HPT.out]; rfl), ?_⟩
    (repeat (first | exact Below.refl _ _ | exact ‹Below _ _ _› | refine Below.drew ?_ | refine Below.alloc ?_ (by first | omega | (simp; done) | (simp; omega)) _ | refine Below.setCell ?_ (by first | omega | (simp; done) | (simp; omega)) _ | refine Below.trans ?_ (Below.mono ‹Below _ _ _› (by first | omega | (simp; done) | (simp; omega)))))
  · have HPT := Lib.hid hp; clear hp
    go_enter Tryd.func47, Tryd.ntmps47
    go_wp2_with fail
    refine (HI.out.2 _).mono ?_; rintro e w1 ⟨rfl, b1⟩
    go_wp2_with fail
    refine (tnPoints_any s _ hs).mono ?_; rintro e w2 ⟨rfl, rfl⟩
    rw [HPT.out]
    go_wp2_with fail
    go_ret
    refine ⟨ret_bool (by rw [HI.out.1, HPT.out, Bool.eq_iff_iff]; simp; omega), ?_⟩
    (repeat (first | exact Below.refl _ _ | exact ‹Below _ _ _› | refine Below.drew ?_ | refine Below.alloc ?_ (by first | omega | (simp; done) | (simp; omega)) _ | refine Below.setCell ?_ (by first | omega | (simp; done) | (simp; omega)) _ | refine Below.trans ?_ (Below.mono ‹Below _ _ _› (by first | omega | (simp; done) | (simp; omega)))))

set_option maxHeartbeats 400000 in
theorem tnGame_any (w : World) : Calls Tryd.prog 97 #[] w fun e w' => e = .returned (.agg #[.int .i64 4, .int .i64 2]) ∧ Below w.heap.size w w' := by
  go_enter Tryd.func97, Tryd.ntmps97
  go_wp2
  refine bodyPost_ret (v := .agg #[.int .i64 4, .int .i64 2]) (by simp [results, Tryd.results97, go_sem]) rfl ⟨rfl, ?_⟩
  (repeat (first | exact Below.refl _ _ | exact ‹Below _ _ _› | refine Below.drew ?_ | refine Below.alloc ?_ (by first | omega | (simp; done) | (simp; omega)) _ | refine Below.setCell ?_ (by first | omega | (simp; done) | (simp; omega)) _ | refine Below.trans ?_ (Below.mono ‹Below _ _ _› (by first | omega | (simp; done) | (simp; omega)))))
set_option maxHeartbeats 400000 in
theorem tennisGame_any' (w : World) : Calls Tryd.prog 100 #[] w fun e w' => e = .returned (.agg #[.int .i64 4, .int .i64 2]) ∧ Below w.heap.size w w' := by
  go_enter Tryd.func100, Tryd.ntmps100
  go_wp2
  refine bodyPost_ret (v := .agg #[.int .i64 4, .int .i64 2]) (by simp [results, Tryd.results100, go_sem]) rfl ⟨rfl, ?_⟩
  (repeat (first | exact Below.refl _ _ | exact ‹Below _ _ _› | refine Below.drew ?_ | refine Below.alloc ?_ (by first | omega | (simp; done) | (simp; omega)) _ | refine Below.setCell ?_ (by first | omega | (simp; done) | (simp; omega)) _ | refine Below.trans ?_ (Below.mono ‹Below _ _ _› (by first | omega | (simp; done) | (simp; omega)))))

end Go.Proofs.YtbgdngfjeikheabDoor
