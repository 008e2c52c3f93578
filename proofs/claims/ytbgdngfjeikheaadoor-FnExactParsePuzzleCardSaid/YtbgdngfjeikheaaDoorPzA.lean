/-
  Puzzles: small tests of both sides: how many points, what makes a clue.
-/
import Derived.Test.YtbgdngfjeikheaaDoorPzLawL
namespace Go.Proofs.YtbgdngfjeikheaaDoor
open Go.RowKit
set_option linter.unusedVariables false
set_option linter.unusedSimpArgs false

set_option maxHeartbeats 400000 in
theorem l1In_pz (n a b : Int) (w : World) :
    Calls Tryd.prog 51 #[.int .i64 n, .int .i64 a, .int .i64 b] w fun e w' => e = .returned (.bool (inP n a b)) ∧ w = w' := by
  by_cases h1 : a ≤ n <;> by_cases h2 : n ≤ b
  all_goals
    go_enter Tryd.func51, Tryd.ntmps51
    go_wp2
    go_ret
    exact ⟨ret_bool (by simp [inP, *]), rfl⟩
set_option maxHeartbeats 400000 in
theorem isHiddenCount_any (n : Int) (w : World) :
    Calls Tryd.prog 106 #[.int .i64 n] w fun e w' => e = .returned (.bool (inP n 1 8)) ∧ w = w' := by
  by_cases h1 : 1 ≤ n <;> by_cases h2 : n ≤ 8
  all_goals
    go_enter Tryd.func106, Tryd.ntmps106
    go_wp2
    go_ret
    exact ⟨ret_bool (by simp [inP, *]), rfl⟩
set_option maxHeartbeats 400000 in
theorem pzPoints_any (n : Int) (w : World) :
    Calls Tryd.prog 104 #[.int .i64 n] w fun e w' => e = .returned (.bool (inP n 1 8)) ∧ w = w' := by
  go_enter Tryd.func104, Tryd.ntmps104
  go_wp2_with fail
  refine (l1In_pz _ _ _ _).mono ?_; rintro e w1 ⟨rfl, rfl⟩
  go_wp2_with fail
  go_ret
  exact ⟨rfl, rfl⟩

theorem kind_cases (k : Int) : k = 0 ∨ k = 3 ∨ k = 5 ∨ k = 1 ∨ k = 2 ∨ k = 4 ∨ ¬ (k = 0 ∨ k = 1 ∨ k = 2 ∨ k = 3 ∨ k = 4 ∨ k = 5) := by omega
/-- How a look at a clue's kind ends. -/
def bdE (p : Int) (c : Cl) : Ending :=
  match bdC p c.1 with
  | some (lo, hi, mb) => .returned (.agg #[.int .i64 lo, .int .i64 hi, .int .i64 mb])
  | none => .panicked [{ v := .iface 75 (.agg #[.int .i64 c.1, .int .i64 c.2.1, .int .i64 c.2.2]), recovered := false }]

set_option maxHeartbeats 1600000 in
theorem boundsOf_any (p : Int) (c : Cl) (w : World) (hp : 1 ≤ p ∧ p ≤ 8) :
    Calls Tryd.prog 109 #[.int .i64 p, .agg #[.int .i64 c.1, .int .i64 c.2.1, .int .i64 c.2.2]] w fun e w' => e = bdE p c ∧ Below w.heap.size w w' := by
  obtain ⟨k, a, b⟩ := c
  obtain ⟨p1, p2⟩ := hp
  have hw : IntKind.i64.wrap (p - 1) = p - 1 := by rw [IntKind.wrap_i64]; omega
  rcases kind_cases k with h | h | h | h | h | h | h
  · subst h
    go_enter Tryd.func109, Tryd.ntmps109
    go_wp2
    refine bodyPost_ret (v := .agg #[.int .i64 0, .int .i64 0, .int .i64 8]) (by simp [results, Tryd.results109, go_sem, *]) rfl ⟨rfl, ?_⟩
    (repeat (first | exact Below.refl _ _ | exact ‹Below _ _ _› | refine Below.drew ?_ | refine Below.alloc ?_ (by first | omega | (simp; done) | (simp; omega)) _ | refine Below.setCell ?_ (by first | omega | (simp; done) | (simp; omega)) _ | refine Below.trans ?_ (Below.mono ‹Below _ _ _› (by first | omega | (simp; done) | (simp; omega)))))
  · subst h
    go_enter Tryd.func109, Tryd.ntmps109
    go_wp2
    refine bodyPost_ret (v := .agg #[.int .i64 0, .int .i64 0, .int .i64 8]) (by simp [results, Tryd.results109, go_sem, *]) rfl ⟨rfl, ?_⟩
    (repeat (first | exact Below.refl _ _ | exact ‹Below _ _ _› | refine Below.drew ?_ | refine Below.alloc ?_ (by first | omega | (simp; done) | (simp; omega)) _ | refine Below.setCell ?_ (by first | omega | (simp; done) | (simp; omega)) _ | refine Below.trans ?_ (Below.mono ‹Below _ _ _› (by first | omega | (simp; done) | (simp; omega)))))
  · subst h
    go_enter Tryd.func109, Tryd.ntmps109
    go_wp2
    refine bodyPost_ret (v := .agg #[.int .i64 0, .int .i64 0, .int .i64 8]) (by simp [results, Tryd.results109, go_sem, *]) rfl ⟨rfl, ?_⟩
    (repeat (first | exact Below.refl _ _ | exact ‹Below _ _ _› | refine Below.drew ?_ | refine Below.alloc ?_ (by first | omega | (simp; done) | (simp; omega)) _ | refine Below.setCell ?_ (by first | omega | (simp; done) | (simp; omega)) _ | refine Below.trans ?_ (Below.mono ‹Below _ _ _› (by first | omega | (simp; done) | (simp; omega)))))
  · subst h
    go_enter Tryd.func109, Tryd.ntmps109
    go_wp2
    refine bodyPost_ret (v := .agg #[.int .i64 0, .int .i64 (p - 1), .int .i64 1]) (by simp [results, Tryd.results109, go_sem, *]) rfl ⟨rfl, ?_⟩
    (repeat (first | exact Below.refl _ _ | exact ‹Below _ _ _› | refine Below.drew ?_ | refine Below.alloc ?_ (by first | omega | (simp; done) | (simp; omega)) _ | refine Below.setCell ?_ (by first | omega | (simp; done) | (simp; omega)) _ | refine Below.trans ?_ (Below.mono ‹Below _ _ _› (by first | omega | (simp; done) | (simp; omega)))))
  · subst h
    go_enter Tryd.func109, Tryd.ntmps109
    go_wp2
    refine bodyPost_ret (v := .agg #[.int .i64 1, .int .i64 8, .int .i64 3]) (by simp [results, Tryd.results109, go_sem, *]) rfl ⟨rfl, ?_⟩
    (repeat (first | exact Below.refl _ _ | exact ‹Below _ _ _› | refine Below.drew ?_ | refine Below.alloc ?_ (by first | omega | (simp; done) | (simp; omega)) _ | refine Below.setCell ?_ (by first | omega | (simp; done) | (simp; omega)) _ | refine Below.trans ?_ (Below.mono ‹Below _ _ _› (by first | omega | (simp; done) | (simp; omega)))))
  · subst h
    go_enter Tryd.func109, Tryd.ntmps109
    go_wp2
    refine bodyPost_ret (v := .agg #[.int .i64 1, .int .i64 8, .int .i64 8]) (by simp [results, Tryd.results109, go_sem, *]) rfl ⟨rfl, ?_⟩
    (repeat (first | exact Below.refl _ _ | exact ‹Below _ _ _› | refine Below.drew ?_ | refine Below.alloc ?_ (by first | omega | (simp; done) | (simp; omega)) _ | refine Below.setCell ?_ (by first | omega | (simp; done) | (simp; omega)) _ | refine Below.trans ?_ (Below.mono ‹Below _ _ _› (by first | omega | (simp; done) | (simp; omega)))))
  · have hb : bdE p (k, a, b) = .panicked [{ v := .iface 75 (.agg #[.int .i64 k, .int .i64 a, .int .i64 b]), recovered := false }] := by
      unfold bdE; rw [bdC_none.2 h]
    rw [hb]; clear hb
    have e0 : (k == 0) = false := by simp; omega
    have e1 : (k == 1) = false := by simp; omega
    have e2 : (k == 2) = false := by simp; omega
    have e3 : (k == 3) = false := by simp; omega
    have e4 : (k == 4) = false := by simp; omega
    have e5 : (k == 5) = false := by simp; omega
    clear h
    go_enter Tryd.func109, Tryd.ntmps109
    go_wp2
    refine ⟨rfl, rfl, ?_⟩
    (repeat (first | exact Below.refl _ _ | exact ‹Below _ _ _› | refine Below.drew ?_ | refine Below.alloc ?_ (by first | omega | (simp; done) | (simp; omega)) _ | refine Below.setCell ?_ (by first | omega | (simp; done) | (simp; omega)) _ | refine Below.trans ?_ (Below.mono ‹Below _ _ _› (by first | omega | (simp; done) | (simp; omega)))))

set_option maxHeartbeats 1600000 in
theorem pzClue_any (p : Int) (c : Cl) (w : World) (hp : 1 ≤ p ∧ p ≤ 8) :
    Calls Tryd.prog 112 #[.int .i64 p, .agg #[.int .i64 c.1, .int .i64 c.2.1, .int .i64 c.2.2]] w fun e w' => e = .returned (.bool (goodC p c)) ∧ Below w.heap.size w w' := by
  have hm := goodC_model p c
  obtain ⟨k, a, b⟩ := c
  simp only at hm ⊢
  generalize goodC p (k, a, b) = V at *
  obtain ⟨p1, p2⟩ := hp
  have hw : IntKind.i64.wrap (p - 1) = p - 1 := by rw [IntKind.wrap_i64]; omega
  cases hB : inP b 0 8
  · have HV := Lib.hid (show V = false by (rw [hm, hB]) <;> rfl)
    have HB := Lib.hid hB; clear hB hm
    go_enter Tryd.func112, Tryd.ntmps112
    go_wp2_with fail
    refine (l1In_pz _ _ _ _).mono ?_; rintro e w1 ⟨rfl, rfl⟩
    rw [HB.out]
    go_wp2_with fail
    go_ret
    refine ⟨ret_bool (by (rw [HV.out]) <;> rfl), ?_⟩
    (repeat (first | exact Below.refl _ _ | exact ‹Below _ _ _› | refine Below.drew ?_ | refine Below.alloc ?_ (by first | omega | (simp; done) | (simp; omega)) _ | refine Below.setCell ?_ (by first | omega | (simp; done) | (simp; omega)) _ | refine Below.trans ?_ (Below.mono ‹Below _ _ _› (by first | omega | (simp; done) | (simp; omega)))))
  · rw [hB, Bool.true_and] at hm
    have HB := Lib.hid hB; clear hB
    rcases kind_cases k with h | h | h | h | h | h | h
    · have HV := Lib.hid (show V = (a == 0) by rw [hm, if_pos (by omega), Bool.eq_iff_iff]; simp)
      subst h; clear hm
      go_enter Tryd.func112, Tryd.ntmps112
      go_wp2_with fail
      refine (l1In_pz _ _ _ _).mono ?_; rintro e w1 ⟨rfl, rfl⟩
      rw [HB.out]
      go_wp2_with fail
      go_ret
      refine ⟨ret_bool (by (rw [HV.out]) <;> rfl), ?_⟩
      (repeat (first | exact Below.refl _ _ | exact ‹Below _ _ _› | refine Below.drew ?_ | refine Below.alloc ?_ (by first | omega | (simp; done) | (simp; omega)) _ | refine Below.setCell ?_ (by first | omega | (simp; done) | (simp; omega)) _ | refine Below.trans ?_ (Below.mono ‹Below _ _ _› (by first | omega | (simp; done) | (simp; omega)))))
    · have HV := Lib.hid (show V = (a == 0) by rw [hm, if_pos (by omega), Bool.eq_iff_iff]; simp)
      subst h; clear hm
      go_enter Tryd.func112, Tryd.ntmps112
      go_wp2_with fail
      refine (l1In_pz _ _ _ _).mono ?_; rintro e w1 ⟨rfl, rfl⟩
      rw [HB.out]
      go_wp2_with fail
      go_ret
      refine ⟨ret_bool (by (rw [HV.out]) <;> rfl), ?_⟩
      (repeat (first | exact Below.refl _ _ | exact ‹Below _ _ _› | refine Below.drew ?_ | refine Below.alloc ?_ (by first | omega | (simp; done) | (simp; omega)) _ | refine Below.setCell ?_ (by first | omega | (simp; done) | (simp; omega)) _ | refine Below.trans ?_ (Below.mono ‹Below _ _ _› (by first | omega | (simp; done) | (simp; omega)))))
    · have HV := Lib.hid (show V = (a == 0) by rw [hm, if_pos (by omega), Bool.eq_iff_iff]; simp)
      subst h; clear hm
      go_enter Tryd.func112, Tryd.ntmps112
      go_wp2_with fail
      refine (l1In_pz _ _ _ _).mono ?_; rintro e w1 ⟨rfl, rfl⟩
      rw [HB.out]
      go_wp2_with fail
      go_ret
      refine ⟨ret_bool (by (rw [HV.out]) <;> rfl), ?_⟩
      (repeat (first | exact Below.refl _ _ | exact ‹Below _ _ _› | refine Below.drew ?_ | refine Below.alloc ?_ (by first | omega | (simp; done) | (simp; omega)) _ | refine Below.setCell ?_ (by first | omega | (simp; done) | (simp; omega)) _ | refine Below.trans ?_ (Below.mono ‹Below _ _ _› (by first | omega | (simp; done) | (simp; omega)))))
    · have HV := Lib.hid (show V = (inP a 0 (p - 1) && decide (b < 2)) by rw [hm, if_neg (by omega), if_pos h])
      subst h; clear hm
      cases hA : inP a 0 (p - 1)
      · rw [hA] at HV
        have HA := Lib.hid hA; clear hA
        go_enter Tryd.func112, Tryd.ntmps112
        go_wp2_with fail
        refine (l1In_pz _ _ _ _).mono ?_; rintro e w1 ⟨rfl, rfl⟩
        rw [HB.out]
        go_wp2_with fail
        refine (l1In_pz _ _ _ _).mono ?_; rintro e w1 ⟨rfl, rfl⟩
        rw [HA.out]
        go_wp2_with fail
        go_ret
        refine ⟨ret_bool (by (rw [HV.out]) <;> rfl), ?_⟩
        (repeat (first | exact Below.refl _ _ | exact ‹Below _ _ _› | refine Below.drew ?_ | refine Below.alloc ?_ (by first | omega | (simp; done) | (simp; omega)) _ | refine Below.setCell ?_ (by first | omega | (simp; done) | (simp; omega)) _ | refine Below.trans ?_ (Below.mono ‹Below _ _ _› (by first | omega | (simp; done) | (simp; omega)))))
      · rw [hA] at HV
        have HA := Lib.hid hA; clear hA
        by_cases h2 : b < 2
        all_goals
          go_enter Tryd.func112, Tryd.ntmps112
          go_wp2_with fail
          refine (l1In_pz _ _ _ _).mono ?_; rintro e w1 ⟨rfl, rfl⟩
          rw [HB.out]
          go_wp2_with fail
          refine (l1In_pz _ _ _ _).mono ?_; rintro e w1 ⟨rfl, rfl⟩
          rw [HA.out]
          go_wp2_with fail
          go_ret
          refine ⟨ret_bool (by rw [HV.out]; simp [*]), ?_⟩
          (repeat (first | exact Below.refl _ _ | exact ‹Below _ _ _› | refine Below.drew ?_ | refine Below.alloc ?_ (by first | omega | (simp; done) | (simp; omega)) _ | refine Below.setCell ?_ (by first | omega | (simp; done) | (simp; omega)) _ | refine Below.trans ?_ (Below.mono ‹Below _ _ _› (by first | omega | (simp; done) | (simp; omega)))))
    · have HV := Lib.hid (show V = (inP a 1 8 && decide (b < 4)) by rw [hm, if_neg (by omega), if_neg (by omega), if_pos h])
      subst h; clear hm
      cases hA : inP a 1 8
      · rw [hA] at HV
        have HA := Lib.hid hA; clear hA
        go_enter Tryd.func112, Tryd.ntmps112
        go_wp2_with fail
        refine (l1In_pz _ _ _ _).mono ?_; rintro e w1 ⟨rfl, rfl⟩
        rw [HB.out]
        go_wp2_with fail
        refine (l1In_pz _ _ _ _).mono ?_; rintro e w1 ⟨rfl, rfl⟩
        rw [HA.out]
        go_wp2_with fail
        go_ret
        refine ⟨ret_bool (by (rw [HV.out]) <;> rfl), ?_⟩
        (repeat (first | exact Below.refl _ _ | exact ‹Below _ _ _› | refine Below.drew ?_ | refine Below.alloc ?_ (by first | omega | (simp; done) | (simp; omega)) _ | refine Below.setCell ?_ (by first | omega | (simp; done) | (simp; omega)) _ | refine Below.trans ?_ (Below.mono ‹Below _ _ _› (by first | omega | (simp; done) | (simp; omega)))))
      · rw [hA] at HV
        have HA := Lib.hid hA; clear hA
        by_cases h2 : b < 4
        all_goals
          go_enter Tryd.func112, Tryd.ntmps112
          go_wp2_with fail
          refine (l1In_pz _ _ _ _).mono ?_; rintro e w1 ⟨rfl, rfl⟩
          rw [HB.out]
          go_wp2_with fail
          refine (l1In_pz _ _ _ _).mono ?_; rintro e w1 ⟨rfl, rfl⟩
          rw [HA.out]
          go_wp2_with fail
          go_ret
          refine ⟨ret_bool (by rw [HV.out]; simp [*]), ?_⟩
          (repeat (first | exact Below.refl _ _ | exact ‹Below _ _ _› | refine Below.drew ?_ | refine Below.alloc ?_ (by first | omega | (simp; done) | (simp; omega)) _ | refine Below.setCell ?_ (by first | omega | (simp; done) | (simp; omega)) _ | refine Below.trans ?_ (Below.mono ‹Below _ _ _› (by first | omega | (simp; done) | (simp; omega)))))
    · have HV := Lib.hid (show V = inP a 1 8 by rw [hm, if_neg (by omega), if_neg (by omega), if_neg (by omega), if_pos h])
      subst h; clear hm
      go_enter Tryd.func112, Tryd.ntmps112
      go_wp2_with fail
      refine (l1In_pz _ _ _ _).mono ?_; rintro e w1 ⟨rfl, rfl⟩
      rw [HB.out]
      go_wp2_with fail
      refine (l1In_pz _ _ _ _).mono ?_; rintro e w1 ⟨rfl, rfl⟩
      go_wp2_with fail
      go_ret
      refine ⟨ret_bool (by rw [HV.out]), ?_⟩
      (repeat (first | exact Below.refl _ _ | exact ‹Below _ _ _› | refine Below.drew ?_ | refine Below.alloc ?_ (by first | omega | (simp; done) | (simp; omega)) _ | refine Below.setCell ?_ (by first | omega | (simp; done) | (simp; omega)) _ | refine Below.trans ?_ (Below.mono ‹Below _ _ _› (by first | omega | (simp; done) | (simp; omega)))))
    · have HV := Lib.hid (show V = false by rw [hm, if_neg (by omega), if_neg (by omega), if_neg (by omega), if_neg (by omega)])
      have e0 : (k == 0) = false := by simp; omega
      have e1 : (k == 1) = false := by simp; omega
      have e2 : (k == 2) = false := by simp; omega
      have e3 : (k == 3) = false := by simp; omega
      have e4 : (k == 4) = false := by simp; omega
      have e5 : (k == 5) = false := by simp; omega
      clear h hm
      go_enter Tryd.func112, Tryd.ntmps112
      go_wp2_with fail
      refine (l1In_pz _ _ _ _).mono ?_; rintro e w1 ⟨rfl, rfl⟩
      rw [HB.out]
      go_wp2_with fail
      go_ret
      refine ⟨ret_bool (by (rw [HV.out]) <;> rfl), ?_⟩
      (repeat (first | exact Below.refl _ _ | exact ‹Below _ _ _› | refine Below.drew ?_ | refine Below.alloc ?_ (by first | omega | (simp; done) | (simp; omega)) _ | refine Below.setCell ?_ (by first | omega | (simp; done) | (simp; omega)) _ | refine Below.trans ?_ (Below.mono ‹Below _ _ _› (by first | omega | (simp; done) | (simp; omega)))))
end Go.Proofs.YtbgdngfjeikheaaDoor
