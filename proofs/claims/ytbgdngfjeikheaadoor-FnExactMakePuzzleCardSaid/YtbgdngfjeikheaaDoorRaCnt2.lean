/-
  Races: the program's counts of letters: points of both.
-/
import Derived.Test.YtbgdngfjeikheaaDoorRaSide
import Derived.Test.YtbgdngfjeikheaaDoorShelf
namespace Go.Proofs.YtbgdngfjeikheaaDoor
open Go.RowKit

theorem countA_eq (l : List UInt8) : (Lib.countByte l 97 : Int) = cntA l := by
  simp [Lib.countByte, cntA, List.count, List.countP_eq_length_filter]
theorem countB_eq (l : List UInt8) : (Lib.countByte l 98 : Int) = cntB l := by
  simp [Lib.countByte, cntB, List.count, List.countP_eq_length_filter]

set_option maxHeartbeats 800000 in
theorem countSides_any (s : ByteArray) (w : World) :
    Calls Tryd.prog 147 #[.string s] w fun e w' => e = .returned (.agg #[.int .i64 (cntA s.data.toList), .int .i64 (cntB s.data.toList)]) ∧ Below w.heap.size w w' := by
  have ha := countA_eq s.data.toList
  have hb := countB_eq s.data.toList
  have h1 := fun w => Tryd.strings_Count_one s 97 w
  have h2 := fun w => Tryd.strings_Count_one s 98 w
  rw [ha] at h1
  rw [hb] at h2
  have H := Lib.hid (And.intro h1 h2); clear h1 h2 ha hb
  go_enter Tryd.func147, Tryd.ntmps147
  go_wp2_with fail
  refine (H.out.1 _).mono ?_; rintro e w1 ⟨rfl, rfl⟩
  go_wp2_with fail
  refine (H.out.2 _).mono ?_; rintro e w1 ⟨rfl, rfl⟩
  go_wp2_with fail
  refine bodyPost_ret (v := .agg #[.int .i64 (cntA s.data.toList), .int .i64 (cntB s.data.toList)]) (by simp [results, Tryd.results147, go_sem]) rfl ⟨rfl, ?_⟩
  (repeat (first | exact Below.refl _ _ | exact ‹Below _ _ _› | refine Below.drew ?_ | refine Below.alloc ?_ (by first | omega | (simp; done) | (simp; omega)) _ | refine Below.setCell ?_ (by first | omega | (simp; done) | (simp; omega)) _ | refine Below.trans ?_ (Below.mono ‹Below _ _ _› (by first | omega | (simp; done) | (simp; omega)))))

set_option maxHeartbeats 800000 in
theorem arePoints_any (s : ByteArray) (w : World) (hs : (s.size : Int) ≤ 1000000000000) :
    Calls Tryd.prog 107 #[.string s] w fun e w' => e = .returned (.bool (ptsB s)) ∧ Below w.heap.size w w' := by
  have hl := len_list s
  have hb := ptsB_true (s := s)
  have hc := cnt_all s.data.toList
  have ha0 := cntA_bd s.data.toList
  have hb0 := cntB_bd s.data.toList
  rw [hl] at hc ha0 hb0
  have hsd := fun w => countSides_any s w
  generalize hx : cntA s.data.toList = x at *
  generalize hy : cntB s.data.toList = y at *
  generalize abL s.data.toList = z at *
  generalize hp : ptsB s = p at *
  have HS := Lib.hid hsd; clear hsd
  clear hx hy hp hl
  by_cases h1 : (s.size : Int) ≤ 100
  · have hp2 : p = decide (x + y = (s.size : Int)) := by
      rw [Bool.eq_iff_iff, hb, decide_eq_true_eq, hc.2]
      exact ⟨fun h => h.2, fun h => ⟨by omega, h⟩⟩
    have HP := Lib.hid hp2; clear hp2 hb
    obtain ⟨a1, a2⟩ := ha0
    obtain ⟨a3, a4⟩ := hb0
    clear hc
    go_enter Tryd.func107, Tryd.ntmps107
    go_wp2_with fail
    refine (HS.out _).mono ?_; rintro e w1 ⟨rfl, b1⟩
    go_wp2_with fail
    go_ret
    refine ⟨ret_bool (by rw [HP.out, Bool.eq_iff_iff]; simp), ?_⟩
    have sz_b1 := b1.size; (try simp at sz_b1)
    (repeat (first | exact Below.refl _ _ | exact ‹Below _ _ _› | refine Below.drew ?_ | refine Below.alloc ?_ (by first | omega | (simp; done) | (simp; omega)) _ | refine Below.setCell ?_ (by first | omega | (simp; done) | (simp; omega)) _ | refine Below.trans ?_ (Below.mono ‹Below _ _ _› (by first | omega | (simp; done) | (simp; omega)))))
  · have hp2 : p = false := by
      cases p
      · rfl
      · have := (hb.1 rfl).1; omega
    have HP := Lib.hid hp2; clear hp2 hb hc ha0 hb0
    go_enter Tryd.func107, Tryd.ntmps107
    go_wp2_with fail
    refine (HS.out _).mono ?_; rintro e w1 ⟨rfl, b1⟩
    go_wp2_with fail
    go_ret
    refine ⟨ret_bool (by rw [HP.out]), ?_⟩
    have sz_b1 := b1.size; (try simp at sz_b1)
    (repeat (first | exact Below.refl _ _ | exact ‹Below _ _ _› | refine Below.drew ?_ | refine Below.alloc ?_ (by first | omega | (simp; done) | (simp; omega)) _ | refine Below.setCell ?_ (by first | omega | (simp; done) | (simp; omega)) _ | refine Below.trans ?_ (Below.mono ‹Below _ _ _› (by first | omega | (simp; done) | (simp; omega)))))

set_option maxHeartbeats 800000 in
theorem implIsRace_any (tq ld : Int) (w : World) :
    Calls Tryd.prog 232 #[.agg #[.int .i64 tq, .int .i64 ld]] w fun e w' => e = .returned (.bool (goodR tq ld)) ∧ Below w.heap.size w w' := by
  have hg : goodR tq ld = (decide (1 ≤ tq) && (decide (tq ≤ 30) && (decide (1 ≤ ld) && decide (ld ≤ 5)))) := by
    simp [goodR, inR, Bool.and_assoc]
  have HG := Lib.hid hg; clear hg
  by_cases h1 : 1 ≤ tq
  · by_cases h2 : tq ≤ 30
    · by_cases h3 : 1 ≤ ld
      · by_cases h4 : ld ≤ 5
        · go_enter Tryd.func232, Tryd.ntmps232
          go_wp2
          go_ret
          exact ⟨ret_bool (by rw [HG.out]; simp [*]; try omega), (Below.refl _ _).alloc (Nat.le_refl _) _⟩
        · go_enter Tryd.func232, Tryd.ntmps232
          go_wp2
          go_ret
          exact ⟨ret_bool (by rw [HG.out]; simp [*]; try omega), (Below.refl _ _).alloc (Nat.le_refl _) _⟩
      · go_enter Tryd.func232, Tryd.ntmps232
        go_wp2
        go_ret
        exact ⟨ret_bool (by rw [HG.out]; simp [*]; try omega), (Below.refl _ _).alloc (Nat.le_refl _) _⟩
    · go_enter Tryd.func232, Tryd.ntmps232
      go_wp2
      go_ret
      exact ⟨ret_bool (by rw [HG.out]; simp [*]; try omega), (Below.refl _ _).alloc (Nat.le_refl _) _⟩
  · go_enter Tryd.func232, Tryd.ntmps232
    go_wp2
    go_ret
    exact ⟨ret_bool (by rw [HG.out]; simp [*]; try omega), (Below.refl _ _).alloc (Nat.le_refl _) _⟩

end Go.Proofs.YtbgdngfjeikheaaDoor
