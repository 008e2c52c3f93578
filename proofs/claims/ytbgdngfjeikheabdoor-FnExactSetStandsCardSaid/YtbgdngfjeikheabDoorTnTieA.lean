/-
  Tennis: TieStands: the model and the program.
-/
import Derived.Test.YtbgdngfjeikheabDoorWkIsTennisGame
import Derived.Test.YtbgdngfjeikheabDoorTnSetS
import Derived.Test.YtbgdngfjeikheabDoorTnTieI
namespace Go.Proofs.YtbgdngfjeikheabDoor
open Go.RowKit
set_option linter.unusedVariables false
set_option linter.unusedSimpArgs false

theorem isS_play {to : Int} {s : ByteArray} (h : isS to s = true) (ht : 0 < to) :
    (playS to 0 0 s.data.toList).1 = cntA s.data.toList ∧ (playS to 0 0 s.data.toList).2.1 = cntB s.data.toList ∧ (playS to 0 0 s.data.toList).2.2.1 = s.size ∧
    (wonN to (cntA s.data.toList) (cntB s.data.toList) ≠ 0 ↔ (playS to 0 0 s.data.toList).2.2.2 = true) ∧ s.size ≤ 300 := by
  have hto : wonN to 0 0 = 0 := by unfold wonN; rw [if_neg (by omega), if_neg (by omega)]
  simp only [isS, ptsB, Bool.and_eq_true, decide_eq_true_eq] at h
  obtain ⟨⟨hl, ha⟩, hn⟩ := h
  obtain ⟨-, i2, i3, i4, -, -, -⟩ := play_stray _ to 0 0 ha hto
  rw [hn, take_all, Int.zero_add] at i2 i3
  rw [i2, i3] at i4
  exact ⟨i2, i3, hn, i4, by rw [len_list] at hl; exact hl⟩


/-- What the walk asks: the two errors, and the table of powers of ten. -/
structure TieDoor (w : World) (p0 p1 : Addr) : Prop where
  no : w.cell? ⟨0, 0, none⟩ = some (errV p0)
  behind : w.cell? ⟨1, 0, none⟩ = some (errV p1)
  tens : Tens w
theorem TieDoor.keep {w w' : World} {p0 p1 : Addr} (h : TieDoor w p0 p1) (hb : Below w.heap.size w w') : TieDoor w' p0 p1 :=
  ⟨by rw [hb.cell (p := ⟨_, 0, none⟩) (World.block_lt_of_cell? w _ h.no)]; exact h.no, by rw [hb.cell (p := ⟨_, 0, none⟩) (World.block_lt_of_cell? w _ h.behind)]; exact h.behind, h.tens.keep hb⟩

def tieR (s : ByteArray) : ByteArray := if isS 7 s then ⟨(tieL (cntA s.data.toList).toNat (cntB s.data.toList).toNat (decide (wonN 7 (cntA s.data.toList) (cntB s.data.toList) ≠ 0))).toArray⟩ else ⟨#[]⟩

set_option maxHeartbeats 800000 in
theorem specTieStands_any (s : ByteArray) (w : World) (hs : (s.size : Int) ≤ 1000000000000) :
    Calls Tryd.prog 15 #[.string s] w fun e w' => e = .returned (.tuple #[.string (tieR s), .bool (isS 7 s)]) ∧ Below w.heap.size w w' := by
  cases hi : isS 7 s
  · have hr : tieR s = ⟨#[]⟩ := by simp [tieR, hi]
    rw [hr]; clear hr
    have HI := Lib.hid (fun W => tnIs_any 7 s W hs)
    rw [hi] at HI
    clear hi
    go_enter Tryd.func15, Tryd.ntmps15
    go_wp2_with fail
    refine (tnTie_any _).mono ?_; rintro e w0 ⟨rfl, b0⟩
    go_wp2_with fail
    refine (HI.out _).mono ?_; rintro e w1 ⟨rfl, b1⟩
    have HB := Lib.hid (b0.trans (b1.mono b0.size)); clear b0 b1
    go_wp2_with fail
    go_ret2
    exact ⟨rfl, HB.out⟩
  · have hr : tieR s = ⟨(tieL (cntA s.data.toList).toNat (cntB s.data.toList).toNat (decide (wonN 7 (cntA s.data.toList) (cntB s.data.toList) ≠ 0))).toArray⟩ := by simp [tieR, hi]
    rw [hr]; clear hr
    obtain ⟨i1, i2, i3, i4, i5⟩ := isS_play hi (by decide)
    have hA := cntA_bd s.data.toList
    have hB := cntB_bd s.data.toList
    rw [len_list] at hA hB
    have he : (playS 7 0 0 s.data.toList).2.2.2 = decide (wonN 7 (cntA s.data.toList) (cntB s.data.toList) ≠ 0) := by
      rw [Bool.eq_iff_iff, decide_eq_true_eq]; exact i4.symm
    have hpl := fun w => tnPlay_any 7 s 0 w hs (Nat.zero_le _)
    rw [List.drop_zero] at hpl
    unfold playV at hpl
    rw [i1, i2, i3, he] at hpl
    have HI := Lib.hid (fun W => tnIs_any 7 s W hs)
    rw [hi] at HI
    have H := Lib.hid hpl; clear hpl i1 i2 i3 i4 he hi
    generalize decide (wonN 7 (cntA s.data.toList) (cntB s.data.toList) ≠ 0) = e3 at *
    obtain ⟨x, hx⟩ : ∃ x : Nat, cntA s.data.toList = x := ⟨(cntA s.data.toList).toNat, by omega⟩
    obtain ⟨y, hy⟩ : ∃ y : Nat, cntB s.data.toList = y := ⟨(cntB s.data.toList).toNat, by omega⟩
    rw [hx, hy] at H
    rw [hx] at hA
    rw [hy] at hB
    rw [hx, hy, show ((x : Int)).toNat = x from by omega, show ((y : Int)).toNat = y from by omega]
    clear hx hy
    have HT := Lib.hid (fun W => tnTieStands_any x y e3 W (by omega) (by omega))
    generalize tieL x y e3 = TL at *
    go_enter Tryd.func15, Tryd.ntmps15
    go_wp2_with fail
    refine (tnTie_any _).mono ?_; rintro e w0 ⟨rfl, b0⟩
    go_wp2_with fail
    refine (HI.out _).mono ?_; rintro e w1 ⟨rfl, b1⟩
    have HB1 := Lib.hid (b0.trans (b1.mono b0.size)); clear b0 b1
    go_wp2_with fail
    refine (tnTie_any _).mono ?_; rintro e w2 ⟨rfl, b2⟩
    have HB2 := Lib.hid (HB1.out.trans (b2.mono HB1.out.size)); clear b2
    go_wp2_with fail
    refine (H.out _).mono ?_; rintro e w3 ⟨rfl, b3⟩
    have HB3 := Lib.hid (HB2.out.trans (b3.mono HB2.out.size)); clear b3
    go_wp2_with fail
    refine (HT.out _).mono ?_; rintro e w4 ⟨rfl, b4⟩
    have HB4 := Lib.hid (HB3.out.trans (b4.mono HB3.out.size)); clear b4
    go_wp2_with fail
    go_ret2
    exact ⟨rfl, HB4.out⟩

set_option maxHeartbeats 1600000 in
theorem implTieStands_any (s : ByteArray) (p0 p1 : Addr) (w : World) (hs : (s.size : Int) ≤ 1000000000000) (L : TieDoor w p0 p1) :
    Calls Tryd.prog 16 #[.string s] w fun e w' => e = .returned (.tuple #[.string (tieR s), .bool (isS 7 s)]) ∧ Below w.heap.size w w' := by
  have hi := is_eq 7 s (by decide)
  have HL := Lib.hid L; clear L
  have HCK := Lib.hid (fun W (h : TieDoor W p0 p1) => checkPlay_any 7 s p0 p1 W hs h.no h.behind)
  cases hst : strayAt 7 s.data.toList with
  | none =>
    rw [hst] at hi HCK
    have hi' : isS 7 s = true := hi
    have hr : tieR s = ⟨(tieL (cntA s.data.toList).toNat (cntB s.data.toList).toNat (decide (wonN 7 (cntA s.data.toList) (cntB s.data.toList) ≠ 0))).toArray⟩ := by simp [tieR, hi']
    rw [hr, hi']; clear hr
    obtain ⟨-, -, -, -, i5⟩ := isS_play hi' (by decide)
    have hA := cntA_bd s.data.toList
    have hB := cntB_bd s.data.toList
    rw [len_list] at hA hB
    have HC := Lib.hid (fun W => countSides_any s W)
    obtain ⟨x, hx⟩ : ∃ x : Nat, cntA s.data.toList = x := ⟨(cntA s.data.toList).toNat, by omega⟩
    obtain ⟨y, hy⟩ : ∃ y : Nat, cntB s.data.toList = y := ⟨(cntB s.data.toList).toNat, by omega⟩
    rw [hx, hy] at HC
    rw [hx] at hA
    rw [hy] at hB
    rw [hx, hy, show ((x : Int)).toNat = x from by omega, show ((y : Int)).toNat = y from by omega]
    clear hx hy hst hi hi'
    have HT := Lib.hid (fun W h => tieStand_any x y W (by omega) (by omega) h)
    generalize tieL x y (decide (wonN 7 x y ≠ 0)) = TL at *
    unfold checkV at HCK
    go_enter Tryd.func16, Tryd.ntmps16
    go_wp2_with fail
    refine (tieBreak_any _).mono ?_; rintro e w1 ⟨rfl, b1⟩
    have HB1 := Lib.hid (And.intro b1 (HL.out.keep b1)); clear b1
    go_wp2_with fail
    refine (HCK.out _ HB1.out.2).mono ?_; rintro e w2 ⟨rfl, b2⟩
    have HB2 := Lib.hid (And.intro (HB1.out.1.trans (b2.mono HB1.out.1.size)) (HB1.out.2.keep b2)); clear b2
    go_wp2_with fail
    refine (HC.out _).mono ?_; rintro e w3 ⟨rfl, b3⟩
    have HB3 := Lib.hid (And.intro (HB2.out.1.trans (b3.mono HB2.out.1.size)) (HB2.out.2.keep b3)); clear b3
    go_wp2_with fail
    refine (HT.out _ HB3.out.2.tens).mono ?_; rintro e w4 ⟨rfl, b4⟩
    have HB4 := Lib.hid (HB3.out.1.trans (b4.mono HB3.out.1.size)); clear b4
    go_wp2_with fail
    go_ret2
    exact ⟨rfl, HB4.out⟩
  | some x =>
    rw [hst] at hi HCK
    have hi' : isS 7 s = false := hi
    have hr : tieR s = ⟨#[]⟩ := by simp [tieR, hi']
    rw [hr, hi']; clear hr hst hi hi'
    unfold checkV strayV at HCK
    go_enter Tryd.func16, Tryd.ntmps16
    go_wp2_with fail
    refine (tieBreak_any _).mono ?_; rintro e w1 ⟨rfl, b1⟩
    have HB1 := Lib.hid (And.intro b1 (HL.out.keep b1)); clear b1
    go_wp2_with fail
    refine (HCK.out _ HB1.out.2).mono ?_; rintro e w2 ⟨rfl, b2⟩
    have HB2 := Lib.hid (HB1.out.1.trans (b2.mono HB1.out.1.size)); clear b2
    go_wp2_with fail
    all_goals
      go_ret2
      exact ⟨rfl, HB2.out⟩

end Go.Proofs.YtbgdngfjeikheabDoor
