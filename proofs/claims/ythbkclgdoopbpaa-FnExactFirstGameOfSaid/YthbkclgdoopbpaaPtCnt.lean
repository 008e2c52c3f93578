/-
  Pins: the program's counts of games.
-/
import Derived.Test.YthbkclgdoopbpaaPtTal
namespace Go.Proofs.Ythbkclgdoopbpaa
open Go.RowKit Go.Maps
set_option linter.unusedVariables false
set_option linter.unusedSimpArgs false

def inQ (n a b : Int) : Bool := decide (a ≤ n) && decide (n ≤ b)
set_option maxHeartbeats 400000 in
theorem fcIn_yes (F : Nat) (h1 : 1 ≤ F) (h2 : F ≤ 10) (w : World) :
    Calls Try.prog 34 #[.int .i64 F] w fun e w' => e = .returned (.bool true) ∧ w = w' := by
  have q1 : (1 : Int) ≤ (F : Int) := by omega
  have q2 : (F : Int) ≤ 10 := by omega
  go_enter Try.func34, Try.ntmps34
  go_wp2
  go_ret
  exact ⟨rfl, rfl⟩
set_option maxHeartbeats 400000 in
theorem fcIn_no (f : Int) (h : ¬ (1 ≤ f ∧ f ≤ 10)) (w : World) :
    Calls Try.prog 34 #[.int .i64 f] w fun e w' => e = .returned (.bool false) ∧ w = w' := by
  by_cases q1 : 1 ≤ f <;> by_cases q2 : f ≤ 10
  all_goals try (exfalso; omega)
  all_goals
    clear h
    go_enter Try.func34, Try.ntmps34
    go_wp2
    go_ret
    exact ⟨rfl, rfl⟩
theorem totIn_any (t : Int) (w : World) :
    Calls Try.prog 35 #[.int .i64 t] w fun e w' => e = .returned (.bool (inQ t 0 300)) ∧ w = w' := by
  by_cases h1 : 0 ≤ t <;> by_cases h2 : t ≤ 300
  all_goals
    go_enter Try.func35, Try.ntmps35
    go_wp2
    go_ret
    exact ⟨ret_bool (by simp [inQ, *]), rfl⟩
/-- How many games. -/
def gmB (f t : Int) : Bool := decide (1 ≤ f ∧ f ≤ 10) && inQ t 0 300
def gmV (f t : Int) : Int := if gmB f t then (tl f.toNat 0 t.toNat : Nat) else 0
theorem gmB_no {f t : Int} (h : gmB f t = false) : gmV f t = 0 := by unfold gmV; rw [h]; rfl
set_option maxRecDepth 100000 in
set_option maxHeartbeats 6400000 in
theorem implCountGamesOf_any (f t : Int) (w : World) :
    Calls Try.prog 10 #[.int .i64 f, .int .i64 t] w fun e w' => e = .returned (.tuple #[.int .i64 (gmV f t), .bool (gmB f t)]) ∧ Below w.heap.size w w' := by
  have HT := Lib.hid (fun W => totIn_any t W)
  by_cases hf : 1 ≤ f ∧ f ≤ 10
  · obtain ⟨F, rfl⟩ : ∃ F : Nat, f = (F : Int) := ⟨f.toNat, by omega⟩
    have hF1 : 1 ≤ F := by omega
    have hF2 : F ≤ 10 := by omega
    have HF := Lib.hid (fun W => fcIn_yes F hF1 hF2 W)
    cases ht : inQ t 0 300
    · have hb : gmB (F : Int) t = false := by simp [gmB, ht]
      rw [gmB_no hb, hb]
      rw [ht] at HT; clear hb ht
      go_enter Try.func10, Try.ntmps10
      go_wp2_with fail
      refine (HF.out _).mono ?_; rintro e w1 ⟨rfl, rfl⟩
      go_wp2_with fail
      refine (HT.out _).mono ?_; rintro e w1 ⟨rfl, rfl⟩
      go_wp2_with fail
      refine bodyPost_ret (v := .tuple #[.int .i64 0, .bool false]) (by simp [results, Try.results10, go_sem]) rfl ⟨rfl, Below.refl _ _⟩
    · have ht2 : 0 ≤ t ∧ t ≤ 300 := by simpa [inQ] using ht
      obtain ⟨n, rfl⟩ : ∃ n : Nat, t = (n : Int) := ⟨t.toNat, by omega⟩
      have hn : n ≤ 300 := by omega
      have hb : gmB (F : Int) (n : Int) = true := by simp [gmB, ht]; omega
      have hv : gmV (F : Int) (n : Int) = (tl F 0 n : Nat) := by unfold gmV; rw [hb]; simp
      rw [hb, hv]
      rw [ht] at HT; clear hb hv ht ht2 hf
      have HX := Lib.hid (fun W => index_tl F 0 n hn W)
      have HTA := Lib.hid (fun b W hB => tally_any F 0 hF2 (by omega) (.inr rfl) b 0 W hB (by have := newB_10 hF2; omega))
      have HWG := Lib.hid (fun W => wholeGame_any (F : Int) W)
      rw [show lfV F 0 = .agg #[.int .i64 (F : Int), .int .i64 1, .int .i64 1, .int .i64 1] from rfl] at HTA
      have hmm := @run_makeMap Try.prog
      generalize (tl F 0 n : Nat) = X at *
      go_enter Try.func10, Try.ntmps10
      go_wp2_with fail
      refine (HF.out _).mono ?_; rintro e w1 ⟨rfl, rfl⟩
      go_wp2_with fail
      refine (HT.out _).mono ?_; rintro e w1 ⟨rfl, rfl⟩
      go_wp2_with fail
      refine (HWG.out _).mono ?_; rintro e w2 ⟨rfl, b2⟩
      have hbk : BookAt w2 w.heap.size 0 := by
        refine BookAt.same (w := w.alloc (.map #[] 0)) ⟨_, World.ownsMap_made w Try.prog 62 heldR, BookD.nil⟩ (b2.block _ (by simp))
      have H2 := Lib.hid (And.intro hbk ((Below.ofNew (w := w) (.map #[] 0)).trans (b2.mono (by simp)))); clear hbk b2
      go_wp2_with fail
      refine (HTA.out _ _ H2.out.1).mono ?_; rintro e w3 ⟨rfl, -, g3⟩
      have H3 : Hid (Below w.heap.size w w3) := Lib.hid (H2.out.2.grown g3 H2.out.2.size (by rintro k hk; cases hk; exact Nat.le_refl _))
      clear H2 g3
      have hx := HX.out w3
      go_wp2_with fail
      refine bodyPost_ret (v := .tuple #[.int .i64 X, .bool true]) (by simp [results, Try.results10, go_sem]) rfl ⟨rfl, H3.out⟩
  · have HF := Lib.hid (fun W => fcIn_no f hf W)
    have hb : gmB f t = false := by unfold gmB; rw [decide_eq_false hf]; rfl
    rw [gmB_no hb, hb]; clear hb hf
    go_enter Try.func10, Try.ntmps10
    go_wp2_with fail
    refine (HF.out _).mono ?_; rintro e w1 ⟨rfl, rfl⟩
    go_wp2_with fail
    refine bodyPost_ret (v := .tuple #[.int .i64 0, .bool false]) (by simp [results, Try.results10, go_sem]) rfl ⟨rfl, Below.refl _ _⟩
end Go.Proofs.Ythbkclgdoopbpaa
