/-
  What makes a dart: both programs' tests.
-/
import Derived.Test.YtaplkciomagmiaaBase
namespace Go.Proofs.Ytaplkciomagmiaa
open Go.RowKit

def inR (n a b : Int) : Bool := decide (a ≤ n) && decide (n ≤ b)

set_option maxHeartbeats 400000 in
theorem l1In_any (n a b : Int) (w : World) :
    Calls Try.prog 57 #[.int .i64 n, .int .i64 a, .int .i64 b] w fun e w' => e = .returned (.bool (inR n a b)) ∧ w = w' := by
  by_cases h1 : a ≤ n <;> by_cases h2 : n ≤ b
  all_goals
    go_enter Try.func57, Try.ntmps57
    go_wp2
    go_ret
    exact ⟨ret_bool (by simp [inR, *]), rfl⟩

def goodB (n t : Int) : Bool := if n = 25 then inR t 1 2 else inR n 1 20 && inR t 1 3

set_option maxHeartbeats 400000 in
theorem daGood_any (n t : Int) (w : World) :
    Calls Try.prog 68 #[.agg #[.int .i64 n, .int .i64 t]] w fun e w' => e = .returned (.bool (goodB n t)) ∧ Below w.heap.size w w' := by
  by_cases h : n = 25
  · have hb : ((n : Int) == 25) = true := by simp [h]
    clear h
    go_enter Try.func68, Try.ntmps68
    go_wp2_with (go_at_call 57; refine (l1In_any _ _ _ _).mono ?_; rintro e w' ⟨rfl, rfl⟩)
    go_ret
    exact ⟨ret_bool (by simp [goodB, beq_iff_eq.1 hb]), (Below.refl _ _).alloc (Nat.le_refl _) _⟩
  · have hb : ((n : Int) == 25) = false := by simp [h]
    have hg : goodB n t = (inR n 1 20 && inR t 1 3) := by simp [goodB, h]
    rw [hg]
    clear h hg
    cases hr : inR n 1 20
    all_goals
      have HR := Lib.hid hr; clear hr
      go_enter Try.func68, Try.ntmps68
      go_wp2_with fail
      refine (l1In_any _ _ _ _).mono ?_; rintro e w' ⟨rfl, rfl⟩
      rw [HR.out]
      go_wp2_with (go_at_call 57; refine (l1In_any _ _ _ _).mono ?_; rintro e w' ⟨rfl, rfl⟩)
      go_ret
      exact ⟨ret_bool (by simp), (Below.refl _ _).alloc (Nat.le_refl _) _⟩

set_option maxHeartbeats 400000 in
theorem isBoard_any (n : Int) (w : World) :
    Calls Try.prog 69 #[.int .i64 n] w fun e w' => e = .returned (.bool (inR n 1 20)) ∧ w = w' := by
  by_cases h1 : 1 ≤ n <;> by_cases h2 : n ≤ 20
  all_goals
    go_enter Try.func69, Try.ntmps69
    go_wp2
    go_ret
    exact ⟨ret_bool (by simp [inR, *]), rfl⟩

theorem goodB_25 (t : Int) : goodB 25 t = decide (t = 1 ∨ t = 2) := by
  simp [goodB, inR]; rw [Bool.eq_iff_iff]; simp; omega

set_option maxHeartbeats 800000 in
theorem isDart_any (n t : Int) (w : World) :
    Calls Try.prog 64 #[.agg #[.int .i64 n, .int .i64 t]] w fun e w' => e = .returned (.bool (goodB n t)) ∧ Below w.heap.size w w' := by
  by_cases h : n = 25
  · subst h
    rw [goodB_25]
    by_cases t1 : t = 1
    · subst t1
      go_enter Try.func64, Try.ntmps64
      go_wp2
      go_ret
      exact ⟨ret_bool (by simp), (Below.refl _ _).alloc (Nat.le_refl _) _⟩
    · have b1 : ((t : Int) == 1) = false := by simp [t1]
      have hd : decide (t = 1 ∨ t = 2) = ((t : Int) == 2) := by rw [Bool.eq_iff_iff]; simp [t1]
      rw [hd]
      clear t1 hd
      go_enter Try.func64, Try.ntmps64
      go_wp2
      go_ret
      exact ⟨rfl, (Below.refl _ _).alloc (Nat.le_refl _) _⟩
  · have hb : ((n : Int) == 25) = false := by simp [h]
    have hg : goodB n t = (inR n 1 20 && inR t 1 3) := by simp [goodB, h]
    rw [hg]
    clear h hg
    cases hr : inR n 1 20
    · have HR := Lib.hid hr; clear hr
      go_enter Try.func64, Try.ntmps64
      go_wp2_with fail
      refine (isBoard_any _ _).mono ?_; rintro e w' ⟨rfl, rfl⟩
      rw [HR.out]
      go_wp2
      go_ret
      exact ⟨ret_bool (by simp), (Below.refl _ _).alloc (Nat.le_refl _) _⟩
    · have HR := Lib.hid hr; clear hr
      by_cases h1 : 1 ≤ t <;> by_cases h2 : t ≤ 3
      all_goals try (exfalso; omega)
      all_goals
        go_enter Try.func64, Try.ntmps64
        go_wp2_with fail
        refine (isBoard_any _ _).mono ?_; rintro e w' ⟨rfl, rfl⟩
        rw [HR.out]
        go_wp2
        go_ret
        exact ⟨ret_bool (by simp [inR, *]), (Below.refl _ _).alloc (Nat.le_refl _) _⟩

end Go.Proofs.Ytaplkciomagmiaa
