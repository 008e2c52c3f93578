/- IsTennisGame: the model and the program, and the law over them. -/
import Derived.Test.YtpkjbfkfbgcgcaaDoorTnCheck
import Derived.Test.YtpkjbfkfbgcgcaaDoorTnPlay
namespace Go.Proofs.YtpkjbfkfbgcgcaaDoor
open Go.RowKit

def isS (to : Int) (s : ByteArray) : Bool := ptsB s && decide ((playS to 0 0 s.data.toList).2.2.1 = s.size)
theorem is_eq (to : Int) (s : ByteArray) (ht : 0 < to) : isS to s = (strayAt to s.data.toList).isNone := by
  have hto : wonN to 0 0 = 0 := by unfold wonN; rw [if_neg (by omega), if_neg (by omega)]
  unfold isS ptsB strayAt
  by_cases hl : 300 < s.data.toList.length
  · rw [if_pos hl]; simp at hl ⊢; intro h; omega
  · rw [if_neg hl, decide_eq_true (by omega)]
    cases ha : abL s.data.toList
    · have := stray_bad _ to 0 0 ha
      cases hs : stray to 0 0 s.data.toList
      · exact absurd hs this
      · rfl
    · have hp := play_stray _ to 0 0 ha hto
      rw [hp.2.2.2.2.2.2, len_list]
      by_cases hn : (playS to 0 0 s.data.toList).2.2.1 = s.size
      · rw [if_pos hn]; simp [hn]
      · rw [if_neg hn]; simp [hn]

set_option maxHeartbeats 800000 in
theorem tnIs_any (to : Int) (s : ByteArray) (w : World) (hs : (s.size : Int) ≤ 1000000000000) :
    Calls Tryd.prog 39 #[.agg #[.int .i64 to, .int .i64 2], .string s] w fun e w' => e = .returned (.bool (isS to s)) ∧ Below w.heap.size w w' := by
  have hpl := fun w => tnPlay_any to s 0 w hs (Nat.zero_le _)
  rw [List.drop_zero] at hpl
  have hi : isS to s = (ptsB s && decide ((playS to 0 0 s.data.toList).2.2.1 = s.size)) := rfl
  have HI := Lib.hid (And.intro hi hpl); clear hi hpl
  generalize playS to 0 0 s.data.toList = p at *
  obtain ⟨x, y, n, e⟩ := p
  unfold playV at HI
  cases hp : ptsB s
  · have HPT := Lib.hid hp; clear hp
    go_enter Tryd.func39, Tryd.ntmps39
    go_wp2_with fail
    refine (HI.out.2 _).mono ?_; rintro e w1 ⟨rfl, b1⟩
    go_wp2_with fail
    refine (tnPoints_any s _ hs).mono ?_; rintro e w2 ⟨rfl, rfl⟩
    rw [HPT.out]
    go_wp2_with fail
    go_ret
    refine ⟨ret_bool (by rw [HI.out.1, HPT.out]; rfl), ?_⟩
    (repeat (first | exact Below.refl _ _ | exact ‹Below _ _ _› | refine Below.drew ?_ | refine Below.alloc ?_ (by first | omega | (simp; done) | (simp; omega)) _ | refine Below.setCell ?_ (by first | omega | (simp; done) | (simp; omega)) _ | refine Below.trans ?_ (Below.mono ‹Below _ _ _› (by first | omega | (simp; done) | (simp; omega)))))
  · have HPT := Lib.hid hp; clear hp
    go_enter Tryd.func39, Tryd.ntmps39
    go_wp2_with fail
    refine (HI.out.2 _).mono ?_; rintro e w1 ⟨rfl, b1⟩
    go_wp2_with fail
    refine (tnPoints_any s _ hs).mono ?_; rintro e w2 ⟨rfl, rfl⟩
    rw [HPT.out]
    go_wp2_with fail
    go_ret
    refine ⟨ret_bool (by rw [HI.out.1, HPT.out, Bool.eq_iff_iff]; simp; omega), ?_⟩
    (repeat (first | exact Below.refl _ _ | exact ‹Below _ _ _› | refine Below.drew ?_ | refine Below.alloc ?_ (by first | omega | (simp; done) | (simp; omega)) _ | refine Below.setCell ?_ (by first | omega | (simp; done) | (simp; omega)) _ | refine Below.trans ?_ (Below.mono ‹Below _ _ _› (by first | omega | (simp; done) | (simp; omega)))))

set_option maxHeartbeats 400000 in
theorem tnGame_any (w : World) : Calls Tryd.prog 40 #[] w fun e w' => e = .returned (.agg #[.int .i64 4, .int .i64 2]) ∧ Below w.heap.size w w' := by
  go_enter Tryd.func40, Tryd.ntmps40
  go_wp2
  refine bodyPost_ret (v := .agg #[.int .i64 4, .int .i64 2]) (by simp [results, Tryd.results40, go_sem]) rfl ⟨rfl, ?_⟩
  (repeat (first | exact Below.refl _ _ | exact ‹Below _ _ _› | refine Below.drew ?_ | refine Below.alloc ?_ (by first | omega | (simp; done) | (simp; omega)) _ | refine Below.setCell ?_ (by first | omega | (simp; done) | (simp; omega)) _ | refine Below.trans ?_ (Below.mono ‹Below _ _ _› (by first | omega | (simp; done) | (simp; omega)))))
set_option maxHeartbeats 400000 in
theorem tennisGame_any' (w : World) : Calls Tryd.prog 42 #[] w fun e w' => e = .returned (.agg #[.int .i64 4, .int .i64 2]) ∧ Below w.heap.size w w' := by
  go_enter Tryd.func42, Tryd.ntmps42
  go_wp2
  refine bodyPost_ret (v := .agg #[.int .i64 4, .int .i64 2]) (by simp [results, Tryd.results42, go_sem]) rfl ⟨rfl, ?_⟩
  (repeat (first | exact Below.refl _ _ | exact ‹Below _ _ _› | refine Below.drew ?_ | refine Below.alloc ?_ (by first | omega | (simp; done) | (simp; omega)) _ | refine Below.setCell ?_ (by first | omega | (simp; done) | (simp; omega)) _ | refine Below.trans ?_ (Below.mono ‹Below _ _ _› (by first | omega | (simp; done) | (simp; omega)))))

set_option maxHeartbeats 400000 in
theorem specIsTennisGame_any (s : ByteArray) (w : World) (hs : (s.size : Int) ≤ 1000000000000) :
    Calls Tryd.prog 14 #[.string s] w fun e w' => e = .returned (.bool (isS 4 s)) ∧ Below w.heap.size w w' := by
  go_enter Tryd.func14, Tryd.ntmps14
  go_wp2_with fail
  refine (tnGame_any _).mono ?_; rintro e w1 ⟨rfl, b1⟩
  go_wp2_with fail
  refine (tnIs_any 4 s _ hs).mono ?_; rintro e w2 ⟨rfl, b2⟩
  go_wp2_with fail
  go_ret
  exact ⟨rfl, b1.trans (b2.mono b1.size)⟩

set_option maxHeartbeats 800000 in
theorem implIsTennisGame_any (s : ByteArray) (p0 p1 : Addr) (w : World) (hs : (s.size : Int) ≤ 1000000000000)
    (h0 : w.cell? ⟨0, 0, none⟩ = some (errV p0)) (h1 : w.cell? ⟨1, 0, none⟩ = some (errV p1)) :
    Calls Tryd.prog 15 #[.string s] w fun e w' => e = .returned (.bool (isS 4 s)) ∧ Below w.heap.size w w' := by
  have z0 := World.block_lt_of_cell? w _ h0
  have z1 := World.block_lt_of_cell? w _ h1
  have hi := is_eq 4 s (by decide)
  have H01 := Lib.hid (And.intro h0 h1); clear h0 h1
  have HI := Lib.hid hi; clear hi
  cases hst : strayAt 4 s.data.toList with
  | none =>
    have HST := Lib.hid hst; clear hst
    go_enter Tryd.func15, Tryd.ntmps15
    go_wp2_with fail
    refine (tennisGame_any' _).mono ?_; rintro e w1 ⟨rfl, b1⟩
    go_wp2_with fail
    refine (checkPlay_any 4 s p0 p1 _ hs (by rw [b1.cell (p := ⟨_, 0, none⟩) z0]; exact H01.out.1) (by rw [b1.cell (p := ⟨_, 0, none⟩) z1]; exact H01.out.2)).mono ?_; rintro e w2 ⟨rfl, b2⟩
    rw [HST.out]
    unfold checkV
    go_wp2_with fail
    go_ret
    exact ⟨ret_bool (by rw [HI.out, HST.out]; rfl), b1.trans (b2.mono b1.size)⟩
  | some x =>
    have HST := Lib.hid hst; clear hst
    go_enter Tryd.func15, Tryd.ntmps15
    go_wp2_with fail
    refine (tennisGame_any' _).mono ?_; rintro e w1 ⟨rfl, b1⟩
    go_wp2_with fail
    refine (checkPlay_any 4 s p0 p1 _ hs (by rw [b1.cell (p := ⟨_, 0, none⟩) z0]; exact H01.out.1) (by rw [b1.cell (p := ⟨_, 0, none⟩) z1]; exact H01.out.2)).mono ?_; rintro e w2 ⟨rfl, b2⟩
    rw [HST.out]
    unfold checkV strayV
    go_wp2_with fail
    all_goals
      go_ret
      exact ⟨ret_bool (by rw [HI.out, HST.out]; rfl), b1.trans (b2.mono b1.size)⟩

set_option maxHeartbeats 800000 in
theorem ExIsTennisGame.walk (s : ByteArray) (p0 p1 : Addr) (w : World) (hs : s.size ≤ maxLen)
    (h0 : w.cell? ⟨0, 0, none⟩ = some (errV p0)) (h1 : w.cell? ⟨1, 0, none⟩ = some (errV p1)) :
    Calls Tryd.prog 3 #[.string s] w fun e w' => e = .returned (.bool true) ∧ Below w.heap.size w w' := by
  unfold maxLen at hs
  have z0 := World.block_lt_of_cell? w _ h0
  have z1 := World.block_lt_of_cell? w _ h1
  have H01 := Lib.hid (And.intro h0 h1); clear h0 h1
  by_cases hm : (1048576 : Int) < (s.size : Int)
  · go_enter Tryd.func3, Tryd.ntmps3
    go_wp2_with fail
    go_ret
    exact ⟨rfl, Below.refl _ _⟩
  · have hs2 : (s.size : Int) ≤ 1000000000000 := by omega
    go_enter Tryd.func3, Tryd.ntmps3
    go_wp2_with fail
    refine (specIsTennisGame_any s _ hs2).mono ?_; rintro e w1 ⟨rfl, b1⟩
    go_wp2_with fail
    refine (implIsTennisGame_any s p0 p1 _ hs2 (by rw [b1.cell (p := ⟨_, 0, none⟩) z0]; exact H01.out.1) (by rw [b1.cell (p := ⟨_, 0, none⟩) z1]; exact H01.out.2)).mono ?_; rintro e w2 ⟨rfl, b2⟩
    have he : (isS 4 s != isS 4 s) = false := by simp
    go_wp2_with fail
    go_ret
    exact ⟨rfl, b1.trans (b2.mono b1.size)⟩

end Go.Proofs.YtpkjbfkfbgcgcaaDoor
