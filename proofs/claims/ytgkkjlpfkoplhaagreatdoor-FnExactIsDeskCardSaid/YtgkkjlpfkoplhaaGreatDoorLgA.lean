/-
  Leagues: small tests of both sides: teams, goals, results.
-/
import Derived.Test.YtgkkjlpfkoplhaaGreatDoorLgLaw
namespace Go.Proofs.YtgkkjlpfkoplhaaGreatDoor.Lg
open Go.RowKit
set_option linter.unusedVariables false
set_option linter.unusedSimpArgs false

set_option maxHeartbeats 400000 in
theorem l1In_any (n a b : Int) (w : World) :
    Calls Tryz.prog 31 #[.int .i64 n, .int .i64 a, .int .i64 b] w fun e w' => e = .returned (.bool (inR n a b)) ∧ w = w' := by
  by_cases h1 : a ≤ n <;> by_cases h2 : n ≤ b
  all_goals
    go_enter Tryz.func31, Tryz.ntmps31
    go_wp2
    go_ret
    exact ⟨ret_bool (by simp [inR, *]), rfl⟩
theorem inR_lt (n t : Int) : inR n 0 (t - 1) = (decide (0 ≤ n) && decide (n < t)) := by
  unfold inR; congr 1; rw [decide_eq_decide]; omega
set_option maxHeartbeats 400000 in
theorem isTeam_any (n t : Int) (w : World) :
    Calls Tryz.prog 48 #[.int .i64 n, .int .i64 t] w fun e w' => e = .returned (.bool (inR n 0 (t - 1))) ∧ w = w' := by
  rw [inR_lt]
  by_cases h1 : 0 ≤ n <;> by_cases h2 : n < t
  all_goals
    go_enter Tryz.func48, Tryz.ntmps48
    go_wp2
    go_ret
    exact ⟨ret_bool (by simp [*]), rfl⟩
set_option maxHeartbeats 400000 in
theorem areGoals_any (n : Int) (w : World) :
    Calls Tryz.prog 49 #[.int .i64 n] w fun e w' => e = .returned (.bool (inR n 0 20)) ∧ w = w' := by
  by_cases h1 : 0 ≤ n <;> by_cases h2 : n ≤ 20
  all_goals
    go_enter Tryz.func49, Tryz.ntmps49
    go_wp2
    go_ret
    exact ⟨ret_bool (by simp [inR, *]), rfl⟩

set_option maxHeartbeats 1600000 in
theorem isResult_any (x y z u t : Int) (w : World) :
    Calls Tryz.prog 28 #[.agg #[.int .i64 x, .int .i64 y, .int .i64 z, .int .i64 u], .int .i64 t] w fun e w' => e = .returned (.bool (goodR t (x, y, z, u))) ∧ Below w.heap.size w w' := by
  have hg : goodR t (x, y, z, u) = (inR x 0 (t - 1) && (inR y 0 (t - 1) && (decide (x ≠ y) && (inR z 0 20 && inR u 0 20)))) := rfl
  rw [hg]; clear hg
  cases h0 : inR x 0 (t - 1)
  · have H0 := Lib.hid h0; clear h0
    go_enter Tryz.func28, Tryz.ntmps28
    go_wp2_with fail
    refine (isTeam_any _ _ _).mono ?_; rintro e w0 ⟨rfl, rfl⟩
    rw [H0.out]
    go_wp2_with fail
    go_ret
    refine ⟨ret_bool (by simp), ?_⟩
    (repeat (first | exact Below.refl _ _ | exact ‹Below _ _ _› | refine Below.drew ?_ | refine Below.alloc ?_ (by first | omega | (simp; done) | (simp; omega)) _ | refine Below.setCell ?_ (by first | omega | (simp; done) | (simp; omega)) _ | refine Below.trans ?_ (Below.mono ‹Below _ _ _› (by first | omega | (simp; done) | (simp; omega)))))
  have H0 := Lib.hid h0; clear h0
  cases h1 : inR y 0 (t - 1)
  · have H1 := Lib.hid h1; clear h1
    go_enter Tryz.func28, Tryz.ntmps28
    go_wp2_with fail
    refine (isTeam_any _ _ _).mono ?_; rintro e w0 ⟨rfl, rfl⟩
    rw [H0.out]
    go_wp2_with fail
    refine (isTeam_any _ _ _).mono ?_; rintro e w1 ⟨rfl, rfl⟩
    rw [H1.out]
    go_wp2_with fail
    go_ret
    refine ⟨ret_bool (by simp), ?_⟩
    (repeat (first | exact Below.refl _ _ | exact ‹Below _ _ _› | refine Below.drew ?_ | refine Below.alloc ?_ (by first | omega | (simp; done) | (simp; omega)) _ | refine Below.setCell ?_ (by first | omega | (simp; done) | (simp; omega)) _ | refine Below.trans ?_ (Below.mono ‹Below _ _ _› (by first | omega | (simp; done) | (simp; omega)))))
  have H1 := Lib.hid h1; clear h1
  by_cases h2 : x = y
  · have q2 : (x != y) = false := by simp [h2]
    rw [decide_eq_false (show ¬ x ≠ y from fun e => e h2)]; clear h2
    go_enter Tryz.func28, Tryz.ntmps28
    go_wp2_with fail
    refine (isTeam_any _ _ _).mono ?_; rintro e w0 ⟨rfl, rfl⟩
    rw [H0.out]
    go_wp2_with fail
    refine (isTeam_any _ _ _).mono ?_; rintro e w1 ⟨rfl, rfl⟩
    rw [H1.out]
    go_wp2_with fail
    go_ret
    refine ⟨ret_bool (by simp), ?_⟩
    (repeat (first | exact Below.refl _ _ | exact ‹Below _ _ _› | refine Below.drew ?_ | refine Below.alloc ?_ (by first | omega | (simp; done) | (simp; omega)) _ | refine Below.setCell ?_ (by first | omega | (simp; done) | (simp; omega)) _ | refine Below.trans ?_ (Below.mono ‹Below _ _ _› (by first | omega | (simp; done) | (simp; omega)))))
  have q2 : (x != y) = true := by rw [bne_iff_ne]; exact h2
  rw [decide_eq_true (show x ≠ y from h2)]; clear h2
  cases h3 : inR z 0 20
  · have H3 := Lib.hid h3; clear h3
    go_enter Tryz.func28, Tryz.ntmps28
    go_wp2_with fail
    refine (isTeam_any _ _ _).mono ?_; rintro e w0 ⟨rfl, rfl⟩
    rw [H0.out]
    go_wp2_with fail
    refine (isTeam_any _ _ _).mono ?_; rintro e w1 ⟨rfl, rfl⟩
    rw [H1.out]
    go_wp2_with fail
    refine (areGoals_any _ _).mono ?_; rintro e w3 ⟨rfl, rfl⟩
    rw [H3.out]
    go_wp2_with fail
    go_ret
    refine ⟨ret_bool (by simp), ?_⟩
    (repeat (first | exact Below.refl _ _ | exact ‹Below _ _ _› | refine Below.drew ?_ | refine Below.alloc ?_ (by first | omega | (simp; done) | (simp; omega)) _ | refine Below.setCell ?_ (by first | omega | (simp; done) | (simp; omega)) _ | refine Below.trans ?_ (Below.mono ‹Below _ _ _› (by first | omega | (simp; done) | (simp; omega)))))
  have H3 := Lib.hid h3; clear h3
  cases h4 : inR u 0 20
  · have H4 := Lib.hid h4; clear h4
    go_enter Tryz.func28, Tryz.ntmps28
    go_wp2_with fail
    refine (isTeam_any _ _ _).mono ?_; rintro e w0 ⟨rfl, rfl⟩
    rw [H0.out]
    go_wp2_with fail
    refine (isTeam_any _ _ _).mono ?_; rintro e w1 ⟨rfl, rfl⟩
    rw [H1.out]
    go_wp2_with fail
    refine (areGoals_any _ _).mono ?_; rintro e w3 ⟨rfl, rfl⟩
    rw [H3.out]
    go_wp2_with fail
    refine (areGoals_any _ _).mono ?_; rintro e w4 ⟨rfl, rfl⟩
    rw [H4.out]
    go_wp2_with fail
    go_ret
    refine ⟨ret_bool (by simp), ?_⟩
    (repeat (first | exact Below.refl _ _ | exact ‹Below _ _ _› | refine Below.drew ?_ | refine Below.alloc ?_ (by first | omega | (simp; done) | (simp; omega)) _ | refine Below.setCell ?_ (by first | omega | (simp; done) | (simp; omega)) _ | refine Below.trans ?_ (Below.mono ‹Below _ _ _› (by first | omega | (simp; done) | (simp; omega)))))
  have H4 := Lib.hid h4; clear h4
  go_enter Tryz.func28, Tryz.ntmps28
  go_wp2_with fail
  refine (isTeam_any _ _ _).mono ?_; rintro e w0 ⟨rfl, rfl⟩
  rw [H0.out]
  go_wp2_with fail
  refine (isTeam_any _ _ _).mono ?_; rintro e w1 ⟨rfl, rfl⟩
  rw [H1.out]
  go_wp2_with fail
  refine (areGoals_any _ _).mono ?_; rintro e w3 ⟨rfl, rfl⟩
  rw [H3.out]
  go_wp2_with fail
  refine (areGoals_any _ _).mono ?_; rintro e w4 ⟨rfl, rfl⟩
  rw [H4.out]
  go_wp2_with fail
  go_ret
  refine ⟨ret_bool (by simp), ?_⟩
  (repeat (first | exact Below.refl _ _ | exact ‹Below _ _ _› | refine Below.drew ?_ | refine Below.alloc ?_ (by first | omega | (simp; done) | (simp; omega)) _ | refine Below.setCell ?_ (by first | omega | (simp; done) | (simp; omega)) _ | refine Below.trans ?_ (Below.mono ‹Below _ _ _› (by first | omega | (simp; done) | (simp; omega)))))

set_option maxHeartbeats 1600000 in
theorem lgResult_any (x y z u t : Int) (ht : 2 ≤ t ∧ t ≤ 8) (w : World) :
    Calls Tryz.prog 36 #[.int .i64 t, .agg #[.int .i64 x, .int .i64 y, .int .i64 z, .int .i64 u]] w fun e w' => e = .returned (.bool (goodR t (x, y, z, u))) ∧ Below w.heap.size w w' := by
  have hg : goodR t (x, y, z, u) = (inR x 0 (t - 1) && (inR y 0 (t - 1) && (decide (x ≠ y) && (inR z 0 20 && inR u 0 20)))) := rfl
  rw [hg]; clear hg
  cases h0 : inR x 0 (t - 1)
  · have H0 := Lib.hid h0; clear h0
    go_enter Tryz.func36, Tryz.ntmps36
    go_wp2_with fail
    refine (l1In_any _ _ _ _).mono ?_; rintro e w0 ⟨rfl, rfl⟩
    rw [H0.out]
    go_wp2_with fail
    go_ret
    refine ⟨ret_bool (by simp), ?_⟩
    (repeat (first | exact Below.refl _ _ | exact ‹Below _ _ _› | refine Below.drew ?_ | refine Below.alloc ?_ (by first | omega | (simp; done) | (simp; omega)) _ | refine Below.setCell ?_ (by first | omega | (simp; done) | (simp; omega)) _ | refine Below.trans ?_ (Below.mono ‹Below _ _ _› (by first | omega | (simp; done) | (simp; omega)))))
  have H0 := Lib.hid h0; clear h0
  cases h1 : inR y 0 (t - 1)
  · have H1 := Lib.hid h1; clear h1
    go_enter Tryz.func36, Tryz.ntmps36
    go_wp2_with fail
    refine (l1In_any _ _ _ _).mono ?_; rintro e w0 ⟨rfl, rfl⟩
    rw [H0.out]
    go_wp2_with fail
    refine (l1In_any _ _ _ _).mono ?_; rintro e w1 ⟨rfl, rfl⟩
    rw [H1.out]
    go_wp2_with fail
    go_ret
    refine ⟨ret_bool (by simp), ?_⟩
    (repeat (first | exact Below.refl _ _ | exact ‹Below _ _ _› | refine Below.drew ?_ | refine Below.alloc ?_ (by first | omega | (simp; done) | (simp; omega)) _ | refine Below.setCell ?_ (by first | omega | (simp; done) | (simp; omega)) _ | refine Below.trans ?_ (Below.mono ‹Below _ _ _› (by first | omega | (simp; done) | (simp; omega)))))
  have H1 := Lib.hid h1; clear h1
  by_cases h2 : x = y
  · have q2 : (x != y) = false := by simp [h2]
    rw [decide_eq_false (show ¬ x ≠ y from fun e => e h2)]; clear h2
    go_enter Tryz.func36, Tryz.ntmps36
    go_wp2_with fail
    refine (l1In_any _ _ _ _).mono ?_; rintro e w0 ⟨rfl, rfl⟩
    rw [H0.out]
    go_wp2_with fail
    refine (l1In_any _ _ _ _).mono ?_; rintro e w1 ⟨rfl, rfl⟩
    rw [H1.out]
    go_wp2_with fail
    go_ret
    refine ⟨ret_bool (by simp), ?_⟩
    (repeat (first | exact Below.refl _ _ | exact ‹Below _ _ _› | refine Below.drew ?_ | refine Below.alloc ?_ (by first | omega | (simp; done) | (simp; omega)) _ | refine Below.setCell ?_ (by first | omega | (simp; done) | (simp; omega)) _ | refine Below.trans ?_ (Below.mono ‹Below _ _ _› (by first | omega | (simp; done) | (simp; omega)))))
  have q2 : (x != y) = true := by rw [bne_iff_ne]; exact h2
  rw [decide_eq_true (show x ≠ y from h2)]; clear h2
  cases h3 : inR z 0 20
  · have H3 := Lib.hid h3; clear h3
    go_enter Tryz.func36, Tryz.ntmps36
    go_wp2_with fail
    refine (l1In_any _ _ _ _).mono ?_; rintro e w0 ⟨rfl, rfl⟩
    rw [H0.out]
    go_wp2_with fail
    refine (l1In_any _ _ _ _).mono ?_; rintro e w1 ⟨rfl, rfl⟩
    rw [H1.out]
    go_wp2_with fail
    refine (l1In_any _ _ _ _).mono ?_; rintro e w3 ⟨rfl, rfl⟩
    rw [H3.out]
    go_wp2_with fail
    go_ret
    refine ⟨ret_bool (by simp), ?_⟩
    (repeat (first | exact Below.refl _ _ | exact ‹Below _ _ _› | refine Below.drew ?_ | refine Below.alloc ?_ (by first | omega | (simp; done) | (simp; omega)) _ | refine Below.setCell ?_ (by first | omega | (simp; done) | (simp; omega)) _ | refine Below.trans ?_ (Below.mono ‹Below _ _ _› (by first | omega | (simp; done) | (simp; omega)))))
  have H3 := Lib.hid h3; clear h3
  cases h4 : inR u 0 20
  · have H4 := Lib.hid h4; clear h4
    go_enter Tryz.func36, Tryz.ntmps36
    go_wp2_with fail
    refine (l1In_any _ _ _ _).mono ?_; rintro e w0 ⟨rfl, rfl⟩
    rw [H0.out]
    go_wp2_with fail
    refine (l1In_any _ _ _ _).mono ?_; rintro e w1 ⟨rfl, rfl⟩
    rw [H1.out]
    go_wp2_with fail
    refine (l1In_any _ _ _ _).mono ?_; rintro e w3 ⟨rfl, rfl⟩
    rw [H3.out]
    go_wp2_with fail
    refine (l1In_any _ _ _ _).mono ?_; rintro e w4 ⟨rfl, rfl⟩
    rw [H4.out]
    go_wp2_with fail
    go_ret
    refine ⟨ret_bool (by simp), ?_⟩
    (repeat (first | exact Below.refl _ _ | exact ‹Below _ _ _› | refine Below.drew ?_ | refine Below.alloc ?_ (by first | omega | (simp; done) | (simp; omega)) _ | refine Below.setCell ?_ (by first | omega | (simp; done) | (simp; omega)) _ | refine Below.trans ?_ (Below.mono ‹Below _ _ _› (by first | omega | (simp; done) | (simp; omega)))))
  have H4 := Lib.hid h4; clear h4
  go_enter Tryz.func36, Tryz.ntmps36
  go_wp2_with fail
  refine (l1In_any _ _ _ _).mono ?_; rintro e w0 ⟨rfl, rfl⟩
  rw [H0.out]
  go_wp2_with fail
  refine (l1In_any _ _ _ _).mono ?_; rintro e w1 ⟨rfl, rfl⟩
  rw [H1.out]
  go_wp2_with fail
  refine (l1In_any _ _ _ _).mono ?_; rintro e w3 ⟨rfl, rfl⟩
  rw [H3.out]
  go_wp2_with fail
  refine (l1In_any _ _ _ _).mono ?_; rintro e w4 ⟨rfl, rfl⟩
  rw [H4.out]
  go_wp2_with fail
  go_ret
  refine ⟨ret_bool (by simp), ?_⟩
  (repeat (first | exact Below.refl _ _ | exact ‹Below _ _ _› | refine Below.drew ?_ | refine Below.alloc ?_ (by first | omega | (simp; done) | (simp; omega)) _ | refine Below.setCell ?_ (by first | omega | (simp; done) | (simp; omega)) _ | refine Below.trans ?_ (Below.mono ‹Below _ _ _› (by first | omega | (simp; done) | (simp; omega)))))

end Go.Proofs.YtgkkjlpfkoplhaaGreatDoor.Lg
