/-
  Races: what the functions over two numbers of points hand back: the model.
-/
import Derived.Test.YtooaeafnneikkaaRaVals
import Derived.Test.YtooaeafnneikkaaRaWays
namespace Go.Proofs.Ytooaeafnneikkaa
open Go.RowKit
set_option linter.unusedVariables false
set_option linter.unusedSimpArgs false

set_option maxHeartbeats 1600000 in
theorem raBoth_any (rt rl a b : Int) (w : World) :
    Calls Try.prog 35 #[.agg #[.int .i64 rt, .int .i64 rl], .int .i64 a, .int .i64 b] w fun e w' => e = .returned (.bool (bothR rt rl a b)) ∧ Below w.heap.size w w' := by
  have hp0 := Pair.new w rt rl 25
  have hb0 := below_new w (.cells #[.int .i64 rt, .int .i64 rl] 25)
  have H0 := Lib.hid (And.intro hp0 hb0); clear hp0 hb0
  have hG := fun w => raGood_any rt rl w
  have h1 := fun w => l1In_any a 0 100 w
  have hB : bothR rt rl a b = (goodR rt rl && inR a 0 100 && inR b 0 (100 - a)) := by
    rw [Bool.eq_iff_iff, both_true]; simp [inR, and_assoc]; omega
  have h2 : inR a 0 100 = true → IntKind.i64.wrap (100 - a) = 100 - a := fun h => by
    simp [inR] at h
    exact IntWalk.i64_in _ (by omega)
  cases g : goodR rt rl
  · have HG := Lib.hid hG; clear hG
    rw [g] at HG hB
    clear g h1 h2
    have HB := Lib.hid hB; clear hB
    go_enter Try.func35, Try.ntmps35
    go_wp2_with fail
    refine (HG.out _).mono ?_; rintro e w1 ⟨rfl, b1⟩
    go_wp2_with fail
    go_ret
    exact ⟨ret_bool (by rw [HB.out]; simp), H0.out.2.trans (b1.mono H0.out.2.size)⟩
  cases q : inR a 0 100
  · have HG := Lib.hid (And.intro hG h1); clear hG h1
    rw [g, q] at HG hB
    clear g h2 q
    have HB := Lib.hid hB; clear hB
    go_enter Try.func35, Try.ntmps35
    go_wp2_with fail
    refine (HG.out.1 _).mono ?_; rintro e w1 ⟨rfl, b1⟩
    go_wp2_with fail
    refine (HG.out.2 _).mono ?_; rintro e w2 ⟨rfl, rfl⟩
    go_wp2_with fail
    go_ret
    exact ⟨ret_bool (by rw [HB.out]; simp), H0.out.2.trans (b1.mono H0.out.2.size)⟩
  · have wv := h2 q
    have hr : inR b 0 (100 - a) = bothR rt rl a b := by rw [hB, g, q]; simp
    have h3 := fun w => l1In_any b 0 (100 - a) w
    rw [hr] at h3
    have HG := Lib.hid (And.intro hG (And.intro h1 h3)); clear hG h1 h3
    rw [g, q] at HG
    clear g h2 q hB hr
    generalize bothR rt rl a b = u at *
    go_enter Try.func35, Try.ntmps35
    go_wp2_with fail
    refine (HG.out.1 _).mono ?_; rintro e w1 ⟨rfl, b1⟩
    go_wp2_with fail
    refine (HG.out.2.1 _).mono ?_; rintro e w2 ⟨rfl, rfl⟩
    go_wp2_with fail
    refine (HG.out.2.2 _).mono ?_; rintro e w3 ⟨rfl, rfl⟩
    go_wp2_with fail
    go_ret
    exact ⟨ret_bool (by simp), H0.out.2.trans (b1.mono H0.out.2.size)⟩

set_option maxHeartbeats 1600000 in
theorem raTo_any (rt rl : Int) (A B : Nat) (hAB : A + B ≤ 100) (w : World) :
    Calls Try.prog 37 #[.agg #[.int .i64 rt, .int .i64 rl], .int .i64 A, .int .i64 B] w fun e w' => e = .returned (.int .i64 (upR rt rl A B)) ∧ Below w.heap.size w w' := by
  have hb0 := below_new w (.cells #[.int .i64 rt, .int .i64 rl] 25)
  have H0 := Lib.hid hb0; clear hb0
  have hW := fun w => raWays_any rt rl A B hAB w
  have HW := Lib.hid hW; clear hW
  generalize hu : upR rt rl A B = u
  have HU := Lib.hid hu; clear hu
  have bA : (A : Int) < (A : Int) + 1 := by omega
  have bB : (B : Int) < (B : Int) + 1 := by omega
  have bA0 : (0 : Int) ≤ (A : Int) := by omega
  have bB0 : (0 : Int) ≤ (B : Int) := by omega
  go_enter Try.func37, Try.ntmps37
  go_wp2_with fail
  refine (HW.out _).mono ?_; rintro e w1 ⟨v, bk, wb, rfl, t1, b1⟩
  obtain ⟨gv, cv, hv, -⟩ := t1.shape (by omega)
  subst hv
  have h2 := t1.heads rfl (a := A) (by omega)
  have k2 := t1.cell (a := A) (b := B) (by omega) (by omega)
  rw [HU.out] at k2
  have HB1 := Lib.hid (H0.out.trans (b1.mono H0.out.size))
  clear t1 b1 H0 hAB
  go_wp2_with fail
  refine bodyPost_ret (v := .int .i64 u) (by simp [results, Try.results37, go_sem]) rfl ⟨rfl, HB1.out⟩

end Go.Proofs.Ytooaeafnneikkaa
