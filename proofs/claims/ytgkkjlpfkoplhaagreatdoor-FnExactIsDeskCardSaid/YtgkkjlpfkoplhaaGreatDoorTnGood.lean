/-
  Tennis: which points are of a set: the model's test and the program's play, told in one way.
-/
import Derived.Test.YtgkkjlpfkoplhaaGreatDoorTnSetS
import Derived.Test.YtgkkjlpfkoplhaaGreatDoorTnSet
namespace Go.Proofs.YtgkkjlpfkoplhaaGreatDoor
open Go.RowKit
set_option linter.unusedVariables false
set_option linter.unusedSimpArgs false

/-- The model's way through all points: the games, the rest, how the next one stands. -/
def wayS (s : ByteArray) : List UInt8 × List UInt8 × Option (Int × Int) := setS 14 [] s.data.toList
def goodB (s : ByteArray) : Bool := goodS s.data.toList
theorem goodB_eq (s : ByteArray) : goodB s = (ptsB s && okS (wayS s)) := rfl
theorem good_len {s : ByteArray} (h : goodB s = true) : (s.size : Int) ≤ 300 := by
  rw [goodB_eq] at h
  simp only [ptsB, Bool.and_eq_true, decide_eq_true_eq, len_list] at h
  omega
theorem good_ab {s : ByteArray} (h : goodB s = true) : abL s.data.toList = true := by
  rw [goodB_eq] at h
  simp only [ptsB, Bool.and_eq_true] at h
  exact h.1.2

theorem set_inv : ∀ (f : Nat) (G rest : List UInt8), nearB (cntA G) (cntB G) = true → 14 ≤ (f : Int) + cntA G + cntB G → (G.length : Int) = cntA G + cntB G →
    nearB (cntA (setS f G rest).1) (cntB (setS f G rest).1) = true ∧ ((setS f G rest).1.length : Int) = cntA (setS f G rest).1 + cntB (setS f G rest).1 ∧
      overB (cntA (setS f G rest).1) (cntB (setS f G rest).1) = (setS f G rest).2.2.isNone ∧
      (0 ≤ (nextS (setS f G rest)).1 ∧ (nextS (setS f G rest)).1 ≤ rest.length ∧ 0 ≤ (nextS (setS f G rest)).2 ∧ (nextS (setS f G rest)).2 ≤ rest.length)
  | 0, G, rest, hn, hf, _ => by have := near_bd hn; simp at hf; omega
  | f + 1, G, rest, hn, hf, hl => by
    cases ho : overB (cntA G) (cntB G)
    · have hp := play_bd rest (raceTo (cntA G) (cntB G)) 0 0 (by omega) (by omega)
      obtain ⟨n1, n2⟩ := near_step hn ho
      cases he : (playS (raceTo (cntA G) (cntB G)) 0 0 rest).2.2.2
      · rw [setS_open ho he]
        refine ⟨hn, hl, by rw [ho]; rfl, ?_⟩
        simp only [nextS, Option.getD_some]
        omega
      · rw [setS_next ho he]
        generalize playS (raceTo (cntA G) (cntB G)) 0 0 rest = p at *
        obtain ⟨x, y, n, e⟩ := p
        simp only at *
        have hd : (rest.drop n).length ≤ rest.length := by simp
        by_cases hxy : y < x
        · rw [if_pos hxy]
          have ea : cntA (G ++ [97]) = cntA G + 1 := by rw [cntA_app]; rfl
          have eb : cntB (G ++ [97]) = cntB G := by rw [cntB_app]; show cntB G + 0 = _; omega
          obtain ⟨i1, i2, i3, i4, i5, i6, i7⟩ := set_inv f (G ++ [97]) (rest.drop n) (by rw [ea, eb]; exact n1) (by rw [ea, eb]; omega) (by rw [ea, eb]; simp; omega)
          exact ⟨i1, i2, i3, i4, by omega, i6, by omega⟩
        · rw [if_neg hxy]
          have ea : cntA (G ++ [98]) = cntA G := by rw [cntA_app]; show cntA G + 0 = _; omega
          have eb : cntB (G ++ [98]) = cntB G + 1 := by rw [cntB_app]; rfl
          obtain ⟨i1, i2, i3, i4, i5, i6, i7⟩ := set_inv f (G ++ [98]) (rest.drop n) (by rw [ea, eb]; exact n2) (by rw [ea, eb]; omega) (by rw [ea, eb]; simp; omega)
          exact ⟨i1, i2, i3, i4, by omega, i6, by omega⟩
    · rw [setS_over ho]
      exact ⟨hn, hl, by rw [ho]; rfl, by simp [nextS]⟩

/-- The games' winners and the points of the next one. -/
def gamesL (s : ByteArray) : List UInt8 := (wayS s).1
theorem games_inv (s : ByteArray) : nearB (cntA (gamesL s)) (cntB (gamesL s)) = true ∧ ((gamesL s).length : Int) = cntA (gamesL s) + cntB (gamesL s) ∧
      overB (cntA (gamesL s)) (cntB (gamesL s)) = (wayS s).2.2.isNone ∧
      (0 ≤ (nextS (wayS s)).1 ∧ (nextS (wayS s)).1 ≤ s.size ∧ 0 ≤ (nextS (wayS s)).2 ∧ (nextS (wayS s)).2 ≤ s.size) := by
  have := set_inv 14 [] s.data.toList near_00 (by decide) (by decide)
  rw [len_list] at this
  exact this

set_option maxHeartbeats 800000 in
theorem tnGood_any (s : ByteArray) (w : World) (hs : (s.size : Int) ≤ 1000000000000) :
    Calls Tryz.prog 22 #[.string s] w fun e w' => e = .returned (.bool (goodB s)) ∧ Below w.heap.size w w' := by
  have HE := Lib.hid (goodB_eq s)
  cases hp : ptsB s
  · have HP := Lib.hid hp; clear hp
    go_enter Tryz.func22, Tryz.ntmps22
    go_wp2_with fail
    refine (tnPoints_any s _ hs).mono ?_; rintro e w1 ⟨rfl, rfl⟩
    rw [HP.out]
    go_wp2_with fail
    go_ret
    exact ⟨ret_bool (by rw [HE.out, HP.out]; rfl), Below.refl _ _⟩
  · have hs3 : (s.size : Int) ≤ 100000 := by
      simp only [ptsB, Bool.and_eq_true, decide_eq_true_eq, len_list] at hp; omega
    have HP := Lib.hid hp; clear hp
    go_enter Tryz.func22, Tryz.ntmps22
    go_wp2_with fail
    refine (tnPoints_any s _ hs).mono ?_; rintro e w1 ⟨rfl, rfl⟩
    rw [HP.out]
    go_wp2_with fail
    refine (tnSet_any s _ hs3).mono ?_; rintro e w2 ⟨rfl, b2⟩
    unfold setSV
    go_wp2_with fail
    go_ret
    exact ⟨ret_bool (by rw [HE.out, HP.out]; rfl), b2⟩

/-- The program's play, both ways. -/
theorem playSet_good (s : ByteArray) (p0 p1 : Addr) (w : World) (L : Laid w p0 p1) (h : goodB s = true) :
    Calls Tryz.prog 26 #[.string s] w fun e w' => e = .returned (.tuple #[.agg #[.string ⟨(gamesL s).toArray⟩, .int .i64 (nextS (wayS s)).1, .int .i64 (nextS (wayS s)).2], .bool true]) ∧ Below w.heap.size w w' := by
  have := playSet_any s p0 p1 w (by have := good_len h; omega) L
  rw [setI_good, show goodS s.data.toList = true from h] at this
  exact this
theorem playSet_bad (s : ByteArray) (p0 p1 : Addr) (w : World) (hs : (s.size : Int) ≤ 1000000000000) (L : Laid w p0 p1) (h : goodB s = false) :
    Calls Tryz.prog 26 #[.string s] w fun e w' => e = .returned (.tuple #[.agg #[.string ⟨#[]⟩, .int .i64 0, .int .i64 0], .bool false]) ∧ Below w.heap.size w w' := by
  have := playSet_any s p0 p1 w hs L
  rw [setI_good, show goodS s.data.toList = false from h] at this
  exact this
/-- The model's, of points that are of a set. -/
theorem tnSet_good (s : ByteArray) (w : World) (h : goodB s = true) :
    Calls Tryz.prog 33 #[.string s] w fun e w' => e = .returned (.tuple #[.string ⟨(gamesL s).toArray⟩, .int .i64 ((s.size : Int) - (wayS s).2.1.length), .string ⟨(standsS (wayS s)).toArray⟩, .bool true]) ∧ Below w.heap.size w w' := by
  have := tnSet_any s w (by have := good_len h; omega)
  have ho : okS (wayS s) = true := by rw [goodB_eq] at h; simp only [Bool.and_eq_true] at h; exact h.2
  unfold setSV at this
  rw [show okS (setS 14 [] s.data.toList) = true from ho] at this
  exact this

set_option maxHeartbeats 400000 in
theorem implIsSet_any (s : ByteArray) (p0 p1 : Addr) (w : World) (hs : (s.size : Int) ≤ 1000000000000) (L : Laid w p0 p1) :
    Calls Tryz.prog 15 #[.string s] w fun e w' => e = .returned (.bool (goodB s)) ∧ Below w.heap.size w w' := by
  have HL := Lib.hid L; clear L
  cases hg : goodB s
  · have HG := Lib.hid hg; clear hg
    go_enter Tryz.func15, Tryz.ntmps15
    go_wp2_with fail
    refine (playSet_bad s p0 p1 _ hs HL.out HG.out).mono ?_; rintro e w1 ⟨rfl, b1⟩
    go_wp2_with fail
    go_ret
    exact ⟨rfl, b1.alloc b1.size _⟩
  · have HG := Lib.hid hg; clear hg
    go_enter Tryz.func15, Tryz.ntmps15
    go_wp2_with fail
    refine (playSet_good s p0 p1 _ HL.out HG.out).mono ?_; rintro e w1 ⟨rfl, b1⟩
    go_wp2_with fail
    go_ret
    exact ⟨rfl, b1.alloc b1.size _⟩

end Go.Proofs.YtgkkjlpfkoplhaaGreatDoor
