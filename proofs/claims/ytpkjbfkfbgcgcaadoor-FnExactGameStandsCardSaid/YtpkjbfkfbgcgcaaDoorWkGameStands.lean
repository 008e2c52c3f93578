/- GameStands: the model and the program, and the law over them. -/
import Derived.Test.YtpkjbfkfbgcgcaaDoorWkIsTennisGame
import Derived.Test.YtpkjbfkfbgcgcaaDoorTnStandI
namespace Go.Proofs.YtpkjbfkfbgcgcaaDoor
open Go.RowKit

theorem isS_play {to : Int} {s : ByteArray} (h : isS to s = true) (ht : 0 < to) :
    (playS to 0 0 s.data.toList).1 = cntA s.data.toList ∧ (playS to 0 0 s.data.toList).2.1 = cntB s.data.toList ∧ (playS to 0 0 s.data.toList).2.2.1 = s.size ∧
    (wonN to (cntA s.data.toList) (cntB s.data.toList) ≠ 0 ↔ (playS to 0 0 s.data.toList).2.2.2 = true) ∧ s.size ≤ 300 := by
  have hto : wonN to 0 0 = 0 := by unfold wonN; rw [if_neg (by omega), if_neg (by omega)]
  simp only [isS, ptsB, Bool.and_eq_true, decide_eq_true_eq] at h
  obtain ⟨⟨hl, ha⟩, hn⟩ := h
  obtain ⟨-, i2, i3, i4, -, -, -⟩ := play_stray _ to 0 0 ha hto
  rw [hn, take_all, Int.zero_add] at i2 i3
  rw [i2, i3] at i4
  exact ⟨i2, i3, hn, i4, by rw [len_list] at hl; exact hl⟩

def standR (s : ByteArray) : ByteArray := if isS 4 s then ⟨(standL (cntA s.data.toList) (cntB s.data.toList)).toArray⟩ else ⟨#[]⟩

set_option maxHeartbeats 800000 in
theorem specGameStands_any (s : ByteArray) (w : World) (hs : (s.size : Int) ≤ 1000000000000) :
    Calls Tryd.prog 16 #[.string s] w fun e w' => e = .returned (.tuple #[.string (standR s), .bool (isS 4 s)]) ∧ Below w.heap.size w w' := by
  cases hi : isS 4 s
  · have hr : standR s = ⟨#[]⟩ := by simp [standR, hi]
    rw [hr]; clear hr
    have HI := Lib.hid hi; clear hi
    go_enter Tryd.func16, Tryd.ntmps16
    go_wp2_with fail
    refine (specIsTennisGame_any s _ hs).mono ?_; rintro e w1 ⟨rfl, b1⟩
    rw [HI.out]
    go_wp2_with fail
    go_ret2
    exact ⟨rfl, b1⟩
  · have hr : standR s = ⟨(standL (cntA s.data.toList) (cntB s.data.toList)).toArray⟩ := by simp [standR, hi]
    rw [hr]; clear hr
    obtain ⟨i1, i2, i3, -, i5⟩ := isS_play hi (by decide)
    have hA := cntA_bd s.data.toList
    have hB := cntB_bd s.data.toList
    rw [len_list] at hA hB
    have hst := fun w => tnStands_any (cntA s.data.toList) (cntB s.data.toList) w ⟨hA.1, hB.1, by omega, by omega⟩
    have hpl := fun w => tnPlay_any 4 s 0 w hs (Nat.zero_le _)
    rw [List.drop_zero] at hpl
    unfold playV at hpl
    rw [i1, i2, i3] at hpl
    generalize (playS 4 0 0 s.data.toList).2.2.2 = e3 at *
    have HI := Lib.hid hi; clear hi
    have H := Lib.hid (And.intro hst hpl); clear hst hpl hA hB i1 i2 i3
    generalize cntA s.data.toList = x at *
    generalize cntB s.data.toList = y at *
    go_enter Tryd.func16, Tryd.ntmps16
    go_wp2_with fail
    refine (specIsTennisGame_any s _ hs).mono ?_; rintro e w1 ⟨rfl, b1⟩
    rw [HI.out]
    go_wp2_with fail
    refine (tnGame_any _).mono ?_; rintro e w2 ⟨rfl, b2⟩
    go_wp2_with fail
    refine (H.out.2 _).mono ?_; rintro e w3 ⟨rfl, b3⟩
    go_wp2_with fail
    refine (H.out.1 _).mono ?_; rintro e w4 ⟨rfl, b4⟩
    go_wp2_with fail
    go_ret2
    have c2 := b1.trans (b2.mono b1.size)
    have c3 := c2.trans (b3.mono c2.size)
    exact ⟨rfl, c3.trans (b4.mono c3.size)⟩

set_option maxHeartbeats 800000 in
theorem implGameStands_any (s : ByteArray) (p0 p1 : Addr) (w : World) (hs : (s.size : Int) ≤ 1000000000000)
    (h0 : w.cell? ⟨0, 0, none⟩ = some (errV p0)) (h1 : w.cell? ⟨1, 0, none⟩ = some (errV p1)) :
    Calls Tryd.prog 17 #[.string s] w fun e w' => e = .returned (.tuple #[.string (standR s), .bool (isS 4 s)]) ∧ Below w.heap.size w w' := by
  have hit := implIsTennisGame_any s p0 p1 w hs h0 h1
  have HT := Lib.hid hit; clear hit h0 h1
  cases hi : isS 4 s
  · have hr : standR s = ⟨#[]⟩ := by simp [standR, hi]
    rw [hr]; clear hr
    have HI := Lib.hid hi; clear hi
    go_enter Tryd.func17, Tryd.ntmps17
    go_wp2_with fail
    refine HT.out.mono ?_; rintro e w1 ⟨rfl, b1⟩
    rw [HI.out]
    go_wp2_with fail
    go_ret2
    exact ⟨rfl, b1⟩
  · have hr : standR s = ⟨(standL (cntA s.data.toList) (cntB s.data.toList)).toArray⟩ := by simp [standR, hi]
    rw [hr]; clear hr
    obtain ⟨-, -, -, -, i5⟩ := isS_play hi (by decide)
    have hA := cntA_bd s.data.toList
    have hB := cntB_bd s.data.toList
    rw [len_list] at hA hB
    have hst := fun w => gameStand_any (cntA s.data.toList) (cntB s.data.toList) w ⟨hA.1, hB.1, by omega, by omega⟩
    have hcs := fun w => countSides_any s w
    have HI := Lib.hid hi; clear hi
    have H := Lib.hid (And.intro hst hcs); clear hst hcs hA hB
    generalize cntA s.data.toList = x at *
    generalize cntB s.data.toList = y at *
    go_enter Tryd.func17, Tryd.ntmps17
    go_wp2_with fail
    refine HT.out.mono ?_; rintro e w1 ⟨rfl, b1⟩
    rw [HI.out]
    go_wp2_with fail
    refine (H.out.2 _).mono ?_; rintro e w2 ⟨rfl, b2⟩
    go_wp2_with fail
    refine (H.out.1 _).mono ?_; rintro e w3 ⟨rfl, b3⟩
    go_wp2_with fail
    go_ret2
    have c2 := b1.trans (b2.mono b1.size)
    exact ⟨rfl, c2.trans (b3.mono c2.size)⟩

set_option maxHeartbeats 800000 in
theorem ExGameStands.walk (s : ByteArray) (p0 p1 : Addr) (w : World) (hs : s.size ≤ maxLen)
    (h0 : w.cell? ⟨0, 0, none⟩ = some (errV p0)) (h1 : w.cell? ⟨1, 0, none⟩ = some (errV p1)) :
    Calls Tryd.prog 4 #[.string s] w fun e w' => e = .returned (.bool true) ∧ Below w.heap.size w w' := by
  unfold maxLen at hs
  have z0 := World.block_lt_of_cell? w _ h0
  have z1 := World.block_lt_of_cell? w _ h1
  have H01 := Lib.hid (And.intro h0 h1); clear h0 h1
  by_cases hm : (1048576 : Int) < (s.size : Int)
  · go_enter Tryd.func4, Tryd.ntmps4
    go_wp2_with fail
    go_ret
    exact ⟨rfl, Below.refl _ _⟩
  · have hs2 : (s.size : Int) ≤ 1000000000000 := by omega
    have hsp := fun w => specGameStands_any s w hs2
    have him := fun w h0 h1 => implGameStands_any s p0 p1 w hs2 h0 h1
    have H := Lib.hid (And.intro hsp him); clear hsp him
    generalize standR s = r at *
    generalize isS 4 s = o at *
    go_enter Tryd.func4, Tryd.ntmps4
    go_wp2_with fail
    refine (H.out.1 _).mono ?_; rintro e w1 ⟨rfl, b1⟩
    go_wp2_with fail
    refine (H.out.2 _ (by rw [b1.cell (p := ⟨_, 0, none⟩) z0]; exact H01.out.1) (by rw [b1.cell (p := ⟨_, 0, none⟩) z1]; exact H01.out.2)).mono ?_; rintro e w2 ⟨rfl, b2⟩
    have he : (o != o) = false := by simp
    go_wp2_with fail
    go_ret
    exact ⟨rfl, b1.trans (b2.mono b1.size)⟩

end Go.Proofs.YtpkjbfkfbgcgcaaDoor
