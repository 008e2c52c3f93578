/- IsTennisGame: the model and the program, and the law over them. -/
import Derived.Test.YtgkkjlpfkoplhaaGreatDoorTnCheck
import Derived.Test.YtgkkjlpfkoplhaaGreatDoorTnPlay
namespace Go.Proofs.YtgkkjlpfkoplhaaGreatDoor
open Go.RowKit

def isS (to : Int) (s : ByteArray) : Bool := ptsB s && decide ((playS to 0 0 s.data.toList).2.2.1 = s.size)
theorem is_eq (to : Int) (s : ByteArray) (ht : 0 < to) : isS to s = (strayAt to s.data.toList).isNone := by
  have hto : wonN to 0 0 = 0 := by unfold wonN; rw [if_neg (by omega), if_neg (by omega)]
  unfold isS ptsB strayAt
  by_cases hl : 300 < s.data.toList.length
  · rw [if_pos hl]; simp at hl ⊢; intro h; omega
  · rw [if_neg hl, decide_eq_true (by omega)]
    cases ha : abL s.data.toList
    · have := stray_bad _ to 0 0 ha
      cases hs : stray to 0 0 s.data.toList
      · exact absurd hs this
      · rfl
    · have hp := play_stray _ to 0 0 ha hto
      rw [hp.2.2.2.2.2.2, len_list]
      by_cases hn : (playS to 0 0 s.data.toList).2.2.1 = s.size
      · rw [if_pos hn]; simp [hn]
      · rw [if_neg hn]; simp [hn]

set_option maxHeartbeats 400000 in
theorem tnGame_any (w : World) : Calls Tryz.prog 54 #[] w fun e w' => e = .returned (.agg #[.int .i64 4, .int .i64 2]) ∧ Below w.heap.size w w' := by
  go_enter Tryz.func54, Tryz.ntmps54
  go_wp2
  refine bodyPost_ret (v := .agg #[.int .i64 4, .int .i64 2]) (by simp [results, Tryz.results54, go_sem]) rfl ⟨rfl, ?_⟩
  (repeat (first | exact Below.refl _ _ | exact ‹Below _ _ _› | refine Below.drew ?_ | refine Below.alloc ?_ (by first | omega | (simp; done) | (simp; omega)) _ | refine Below.setCell ?_ (by first | omega | (simp; done) | (simp; omega)) _ | refine Below.trans ?_ (Below.mono ‹Below _ _ _› (by first | omega | (simp; done) | (simp; omega)))))
set_option maxHeartbeats 400000 in
theorem tennisGame_any' (w : World) : Calls Tryz.prog 65 #[] w fun e w' => e = .returned (.agg #[.int .i64 4, .int .i64 2]) ∧ Below w.heap.size w w' := by
  go_enter Tryz.func65, Tryz.ntmps65
  go_wp2
  refine bodyPost_ret (v := .agg #[.int .i64 4, .int .i64 2]) (by simp [results, Tryz.results65, go_sem]) rfl ⟨rfl, ?_⟩
  (repeat (first | exact Below.refl _ _ | exact ‹Below _ _ _› | refine Below.drew ?_ | refine Below.alloc ?_ (by first | omega | (simp; done) | (simp; omega)) _ | refine Below.setCell ?_ (by first | omega | (simp; done) | (simp; omega)) _ | refine Below.trans ?_ (Below.mono ‹Below _ _ _› (by first | omega | (simp; done) | (simp; omega)))))

end Go.Proofs.YtgkkjlpfkoplhaaGreatDoor
