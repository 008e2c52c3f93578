/-
  Tennis: the program's counts of letters, and the race behind games.
-/
import Derived.Test.YtgkkjlpfkoplhaaGreatDoorTnSide
import Derived.Test.YtgkkjlpfkoplhaaGreatDoorShelf
namespace Go.Proofs.YtgkkjlpfkoplhaaGreatDoor
open Go.RowKit

theorem count_bd (l : List UInt8) (c : UInt8) : 0 ≤ ((l.count c : Nat) : Int) ∧ ((l.count c : Nat) : Int) ≤ l.length :=
  ⟨by omega, by have := List.count_le_length (a := c) (l := l); omega⟩
theorem cntB_bd (l : List UInt8) : 0 ≤ cntB l ∧ cntB l ≤ l.length := count_bd l 98
theorem countA_eq (l : List UInt8) : (Lib.countByte l 97 : Int) = cntA l := by
  simp [Lib.countByte, cntA, List.count, List.countP_eq_length_filter]
theorem countB_eq (l : List UInt8) : (Lib.countByte l 98 : Int) = cntB l := by
  simp [Lib.countByte, cntB, List.count, List.countP_eq_length_filter]

set_option maxHeartbeats 800000 in
theorem countSides_any (s : ByteArray) (w : World) :
    Calls Tryz.prog 39 #[.string s] w fun e w' => e = .returned (.agg #[.int .i64 (cntA s.data.toList), .int .i64 (cntB s.data.toList)]) ∧ Below w.heap.size w w' := by
  have ha := countA_eq s.data.toList
  have hb := countB_eq s.data.toList
  have h1 := fun w => Tryz.strings_Count_one s 97 w
  have h2 := fun w => Tryz.strings_Count_one s 98 w
  rw [ha] at h1
  rw [hb] at h2
  have H := Lib.hid (And.intro h1 h2); clear h1 h2 ha hb
  go_enter Tryz.func39, Tryz.ntmps39
  go_wp2_with fail
  refine (H.out.1 _).mono ?_; rintro e w1 ⟨rfl, rfl⟩
  go_wp2_with fail
  refine (H.out.2 _).mono ?_; rintro e w1 ⟨rfl, rfl⟩
  go_wp2_with fail
  refine bodyPost_ret (v := .agg #[.int .i64 (cntA s.data.toList), .int .i64 (cntB s.data.toList)]) (by simp [results, Tryz.results39, go_sem]) rfl ⟨rfl, ?_⟩
  (repeat (first | exact Below.refl _ _ | exact ‹Below _ _ _› | refine Below.drew ?_ | refine Below.alloc ?_ (by first | omega | (simp; done) | (simp; omega)) _ | refine Below.setCell ?_ (by first | omega | (simp; done) | (simp; omega)) _ | refine Below.trans ?_ (Below.mono ‹Below _ _ _› (by first | omega | (simp; done) | (simp; omega)))))

set_option maxHeartbeats 400000 in
theorem tieBreak_any (w : World) : Calls Tryz.prog 64 #[] w fun e w' => e = .returned (.agg #[.int .i64 7, .int .i64 2]) ∧ Below w.heap.size w w' := by
  go_enter Tryz.func64, Tryz.ntmps64
  go_wp2
  refine bodyPost_ret (v := .agg #[.int .i64 7, .int .i64 2]) (by simp [results, Tryz.results64, go_sem]) rfl ⟨rfl, ?_⟩
  (repeat (first | exact Below.refl _ _ | exact ‹Below _ _ _› | refine Below.drew ?_ | refine Below.alloc ?_ (by first | omega | (simp; done) | (simp; omega)) _ | refine Below.setCell ?_ (by first | omega | (simp; done) | (simp; omega)) _ | refine Below.trans ?_ (Below.mono ‹Below _ _ _› (by first | omega | (simp; done) | (simp; omega)))))
set_option maxHeartbeats 400000 in
theorem tennisGame_any (w : World) : Calls Tryz.prog 65 #[] w fun e w' => e = .returned (.agg #[.int .i64 4, .int .i64 2]) ∧ Below w.heap.size w w' := by
  go_enter Tryz.func65, Tryz.ntmps65
  go_wp2
  refine bodyPost_ret (v := .agg #[.int .i64 4, .int .i64 2]) (by simp [results, Tryz.results65, go_sem]) rfl ⟨rfl, ?_⟩
  (repeat (first | exact Below.refl _ _ | exact ‹Below _ _ _› | refine Below.drew ?_ | refine Below.alloc ?_ (by first | omega | (simp; done) | (simp; omega)) _ | refine Below.setCell ?_ (by first | omega | (simp; done) | (simp; omega)) _ | refine Below.trans ?_ (Below.mono ‹Below _ _ _› (by first | omega | (simp; done) | (simp; omega)))))

def bothSix (a b : Int) : Bool := a == 6 && b == 6
set_option maxHeartbeats 400000 in
theorem isTieNext_any (a b : Int) (w : World) : Calls Tryz.prog 63 #[.agg #[.int .i64 a, .int .i64 b]] w fun e w' => e = .returned (.bool (bothSix a b)) ∧ Below w.heap.size w w' := by
  cases h1 : (a == 6)
  all_goals
    have hb : bothSix a b = ((a == 6) && (b == 6)) := rfl
    rw [h1] at hb
    have HB := Lib.hid hb; clear hb
    go_enter Tryz.func63, Tryz.ntmps63
    go_wp2
    go_ret
    refine ⟨ret_bool (by rw [HB.out]; try simp), ?_⟩
    (repeat (first | exact Below.refl _ _ | exact ‹Below _ _ _› | refine Below.drew ?_ | refine Below.alloc ?_ (by first | omega | (simp; done) | (simp; omega)) _ | refine Below.setCell ?_ (by first | omega | (simp; done) | (simp; omega)) _ | refine Below.trans ?_ (Below.mono ‹Below _ _ _› (by first | omega | (simp; done) | (simp; omega)))))

def race4 (a b : Int) : Int := if a = 6 ∧ b = 6 then 7 else 4
theorem race4_eq (a b : Int) : race4 a b = if bothSix a b then 7 else 4 := by
  unfold race4 bothSix
  by_cases h : a = 6 ∧ b = 6
  · rw [if_pos h]; simp [h]
  · rw [if_neg h, if_neg]; simpa using h
set_option maxHeartbeats 1600000 in
theorem raceBehind_any (a b : Int) (w : World) : Calls Tryz.prog 40 #[.agg #[.int .i64 a, .int .i64 b]] w fun e w' => e = .returned (.agg #[.int .i64 (race4 a b), .int .i64 2]) ∧ Below w.heap.size w w' := by
  have hr := race4_eq a b
  have HR := Lib.hid hr; clear hr
  have p0 := Pair.new (w.alloc (.cells #[.int .i64 a, .int .i64 b] 51)) 0 0 78
  rw [World.size_alloc] at p0
  have hb0 : Below w.heap.size w ((w.alloc (.cells #[.int .i64 a, .int .i64 b] 51)).alloc (.cells #[.int .i64 0, .int .i64 0] 78)) := ((Below.refl _ _).alloc (Nat.le_refl _) _).alloc (by simp) _
  have hle : w.heap.size < ((w.alloc (.cells #[.int .i64 a, .int .i64 b] 51)).alloc (.cells #[.int .i64 0, .int .i64 0] 78)).heap.size := by simp; omega
  have HP0 := Lib.hid (And.intro p0 (And.intro hb0 hle)); clear p0 hb0 hle
  cases h1 : bothSix a b
  · have H1 := Lib.hid h1; clear h1
    go_enter Tryz.func40, Tryz.ntmps40
    go_wp2_with fail
    refine (isTieNext_any a b _).mono ?_; rintro e w1 ⟨rfl, b1⟩
    rw [H1.out]
    have hp1 := HP0.out.1.keep b1
    have hb1 := HP0.out.2.1.trans (b1.mono (Nat.le_of_lt HP0.out.2.2))
    have HP1 := Lib.hid (And.intro hp1 hb1); clear hp1 hb1 b1
    go_wp2_with fail
    refine (tennisGame_any _).mono ?_; rintro e w2 ⟨rfl, b2⟩
    have HB2 := Lib.hid (HP1.out.2.trans (b2.mono HP1.out.2.size))
    obtain ⟨z, c0, c1, f0, f1⟩ := HP1.out.1.keep b2
    have HP2 := Lib.hid (HP1.out.1.keep b2)
    clear b2
    go_wp2_with fail
    obtain ⟨-, q0, q1, -, -⟩ := HP2.out.put 4 2
    refine bodyPost_ret (v := .agg #[.int .i64 4, .int .i64 2]) (by simp [results, Tryz.results40, go_sem, q0, q1]) rfl ⟨by rw [HR.out, H1.out]; rfl, ?_⟩
    exact (HB2.out.setCell (by simp) _).setCell (by simp) _
  · have H1 := Lib.hid h1; clear h1
    go_enter Tryz.func40, Tryz.ntmps40
    go_wp2_with fail
    refine (isTieNext_any a b _).mono ?_; rintro e w1 ⟨rfl, b1⟩
    rw [H1.out]
    have hp1 := HP0.out.1.keep b1
    have hb1 := HP0.out.2.1.trans (b1.mono (Nat.le_of_lt HP0.out.2.2))
    have HP1 := Lib.hid (And.intro hp1 hb1); clear hp1 hb1 b1
    go_wp2_with fail
    refine (tieBreak_any _).mono ?_; rintro e w2 ⟨rfl, b2⟩
    have HB2 := Lib.hid (HP1.out.2.trans (b2.mono HP1.out.2.size))
    obtain ⟨z, c0, c1, f0, f1⟩ := HP1.out.1.keep b2
    have HP2 := Lib.hid (HP1.out.1.keep b2)
    clear b2
    go_wp2_with fail
    obtain ⟨-, q0, q1, -, -⟩ := HP2.out.put 7 2
    refine bodyPost_ret (v := .agg #[.int .i64 7, .int .i64 2]) (by simp [results, Tryz.results40, go_sem, q0, q1]) rfl ⟨by rw [HR.out, H1.out]; rfl, ?_⟩
    exact (HB2.out.setCell (by simp) _).setCell (by simp) _

end Go.Proofs.YtgkkjlpfkoplhaaGreatDoor
