/-
  Pins: the program's total that the most games have.
-/
import Derived.Test.YthbkclgdoopbpaaPtCnt
namespace Go.Proofs.Ythbkclgdoopbpaa
open Go.RowKit Go.Maps
set_option linter.unusedVariables false
set_option linter.unusedSimpArgs false

/-- The first of the greatest so far. -/
def bestP (F : Nat → Nat) : Nat → Nat × Nat
  | 0 => (0, 0)
  | k + 1 => if (bestP F k).2 < F k then (k, F k) else bestP F k
def moB (f : Int) : Bool := decide (1 ≤ f ∧ f ≤ 10)
def moV (f : Int) : Nat × Nat := if moB f then bestP (tl f.toNat 0) 301 else (0, 0)
set_option maxRecDepth 100000 in
set_option maxHeartbeats 6400000 in
theorem implMostGames_any (f : Int) (w : World) :
    Calls Try.prog 17 #[.int .i64 f] w fun e w' => e = .returned (.tuple #[.int .i64 (moV f).1, .int .i64 (moV f).2, .bool (moB f)]) ∧ Below w.heap.size w w' := by
  by_cases hf : 1 ≤ f ∧ f ≤ 10
  · obtain ⟨F, rfl⟩ : ∃ F : Nat, f = (F : Int) := ⟨f.toNat, by omega⟩
    have hF1 : 1 ≤ F := by omega
    have hF2 : F ≤ 10 := by omega
    have HF := Lib.hid (fun W => fcIn_yes F hF1 hF2 W)
    have hb : moB (F : Int) = true := decide_eq_true hf
    have hv : moV (F : Int) = bestP (tl F 0) 301 := by unfold moV; rw [hb]; simp
    rw [hb, hv]; clear hb hv hf
    have HX := Lib.hid (fun n hn W => index_tl F 0 n hn W)
    have HTA := Lib.hid (fun b W hB => tally_any F 0 hF2 (by omega) (.inr rfl) b 0 W hB (by have := newB_10 hF2; omega))
    have HWG := Lib.hid (fun W => wholeGame_any (F : Int) W)
    rw [show lfV F 0 = .agg #[.int .i64 (F : Int), .int .i64 1, .int .i64 1, .int .i64 1] from rfl] at HTA
    have hmm := @run_makeMap Try.prog
    generalize tl F 0 = T at *
    go_enter Try.func17, Try.ntmps17
    go_wp2_with fail
    refine (HF.out _).mono ?_; rintro e w1 ⟨rfl, rfl⟩
    go_wp2_with fail
    refine (HWG.out _).mono ?_; rintro e w2 ⟨rfl, b2⟩
    have hbk : BookAt w2 w.heap.size 0 := by
      refine BookAt.same (w := w.alloc (.map #[] 0)) ⟨_, World.ownsMap_made w Try.prog 62 heldR, BookD.nil⟩ (b2.block _ (by simp))
    have H2 := Lib.hid (And.intro hbk ((Below.ofNew (w := w) (.map #[] 0)).trans (b2.mono (by simp)))); clear hbk b2
    go_wp2_with fail
    refine (HTA.out _ _ H2.out.1).mono ?_; rintro e w3 ⟨rfl, -, g3⟩
    have H3 : Hid (Below w.heap.size w w3) := Lib.hid (H2.out.2.grown g3 H2.out.2.size (by rintro k hk; cases hk; exact Nat.le_refl _))
    clear H2 g3 hmm
    go_wp2_with fail
    go_loopw [16, 5, 6] (fun i best most wr => ∃ k : Nat, i = .int .i64 k ∧ k ≤ 301 ∧ best = .int .i64 ((bestP T k).1 : Nat) ∧ most = .int .i64 ((bestP T k).2 : Nat) ∧ Hid (Below w.heap.size w wr)) (fun i _ _ _ => 301 - (intOf i).toNat)
    case atStart => exact ⟨0, rfl, Nat.zero_le _, rfl, rfl, H3⟩
    case round =>
      clear H3
      obtain ⟨k, rfl, hk, rfl, rfl, hH⟩ := hrel
      by_cases hlt : k < 301
      · have b1 : (k : Int) < 301 := by omega
        have hx := HX.out k (by omega)
        have hs : bestP T (k + 1) = if (bestP T k).2 < T k then (k, T k) else bestP T k := rfl
        obtain ⟨p, hp⟩ : ∃ p, p = bestP T k := ⟨_, rfl⟩
        rw [← hp] at hs ⊢
        by_cases hgt : p.2 < T k
        · rw [if_pos hgt] at hs
          have HS := Lib.hid hs; clear hs hp
          have b2 : ((p.2 : Nat) : Int) < ((T k : Nat) : Int) := by omega
          clear hgt
          go_wp2_with fail
          go_roundw
          case rel => exact ⟨k + 1, by go_num, by omega, by rw [HS.out], by rw [HS.out], hH⟩
          case measure => simp [intOf]; omega
        · rw [if_neg hgt] at hs
          have HS := Lib.hid hs; clear hs hp
          have b2 : ¬ (((p.2 : Nat) : Int) < ((T k : Nat) : Int)) := by omega
          clear hgt
          go_wp2_with fail
          go_roundw
          case rel => exact ⟨k + 1, by go_num, by omega, by rw [HS.out], by rw [HS.out], hH⟩
          case measure => simp [intOf]; omega
      · obtain rfl : k = 301 := by omega
        go_wp2_with fail
        refine bodyPost_ret (v := .tuple #[.int .i64 (((bestP T 301).1 : Nat) : Int), .int .i64 (((bestP T 301).2 : Nat) : Int), .bool true]) (by simp [results, Try.results17, go_sem]) rfl ⟨rfl, hH.out⟩
  · have HF := Lib.hid (fun W => fcIn_no f hf W)
    have hb : moB f = false := decide_eq_false hf
    have hv : moV f = (0, 0) := by unfold moV; rw [hb]; rfl
    rw [hv, hb]; clear hb hf hv
    go_enter Try.func17, Try.ntmps17
    go_wp2_with fail
    refine (HF.out _).mono ?_; rintro e w1 ⟨rfl, rfl⟩
    go_wp2_with fail
    refine bodyPost_ret (v := .tuple #[.int .i64 0, .int .i64 0, .bool false]) (by simp [results, Try.results17, go_sem]) rfl ⟨rfl, Below.refl _ _⟩
end Go.Proofs.Ythbkclgdoopbpaa
