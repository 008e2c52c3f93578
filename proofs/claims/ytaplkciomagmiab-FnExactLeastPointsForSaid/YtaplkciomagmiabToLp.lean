/-
  Tennis: the least points of ended sets, both sides.
-/
import Derived.Test.YtaplkciomagmiabToMs
import Derived.Test.YtaplkciomagmiabWkSetOfGames
namespace Go.Proofs.Ytaplkciomagmiab
open Go.RowKit Go.Deep
set_option linter.unusedVariables false
set_option linter.unusedSimpArgs false

def lpI (a b : Int) : Int := if setScoreB a b then (if b = 6 then 55 else 4 * (a + b)) else 0
def lpOk (a b : Nat) : Bool := !setScoreB (a : Int) (b : Int) || (decide (0 < (tg (tabN 49) (8 * a + b)).1) && ordI 0 0 (tg (tabN 49) (8 * a + b)).2 && (((ptsS 0 (tg (tabN 49) (8 * a + b)).2).length : Int) == lpI a b) && decide ((tg (tabN 49) (8 * a + b)).2.length ≤ 20))
set_option maxRecDepth 100000 in
theorem lp_all : ((List.range 8).all fun a => (List.range 8).all fun b => lpOk a b) = true := by decide +kernel
theorem lp_at {a b : Int} (h : setScoreB a b = true) : 0 < (ov a b).1 ∧ ordI 0 0 (ov a b).2 = true ∧ ((ptsS 0 (ov a b).2).length : Int) = lpI a b ∧ (ov a b).2.length ≤ 20 := by
  have hb : inB a b = true := by
    rw [inB_iff]
    simp [setScoreB, inR] at h
    omega
  have hh := (inB_iff a b).1 hb
  obtain ⟨x, rfl⟩ : ∃ x : Nat, a = x := ⟨a.toNat, by omega⟩
  obtain ⟨y, rfl⟩ : ∃ y : Nat, b = y := ⟨b.toNat, by omega⟩
  rw [show ov x y = tg (tabN 49) (8 * x + y) from by unfold ov; rw [hb]; rfl]
  have h0 := lp_all
  rw [List.all_eq_true] at h0
  have h1 := h0 x (List.mem_range.2 (by omega))
  rw [List.all_eq_true] at h1
  have h2 := h1 y (List.mem_range.2 (by omega))
  unfold lpOk at h2
  rw [h] at h2
  simp only [Bool.not_true, Bool.false_or, Bool.and_eq_true, decide_eq_true_eq, beq_iff_eq] at h2
  exact ⟨h2.1.1.1, h2.1.1.2, h2.1.2, h2.2⟩

set_option maxHeartbeats 800000 in
theorem specLeast_any (a b : Int) (w : World) :
    Calls Try.prog 16 #[.int .i64 a, .int .i64 b] w fun e w' => e = .returned (.tuple #[.int .i64 (lpI a b), .bool (setScoreB a b)]) ∧ Below w.heap.size w w' := by
  have HS := Lib.hid (specIsSetScore_any a b)
  cases h : setScoreB a b with
  | false =>
    rw [show lpI a b = 0 from by unfold lpI; rw [h]; rfl]
    rw [h] at HS
    clear h
    go_enter Try.func16, Try.ntmps16
    go_wp2_with fail
    refine (HS.out _).mono ?_; rintro e w1 ⟨rfl, rfl⟩
    go_wp2_with fail
    go_ret2
    exact ⟨rfl, Below.refl _ _⟩
  | true =>
    have hb : (6 ≤ a ∧ a ≤ 7) ∧ 0 ≤ b ∧ b ≤ 6 := by
      simp [setScoreB, inR] at h; omega
    rw [show lpI a b = if b = 6 then 55 else 4 * (a + b) from by unfold lpI; rw [h]; rfl]
    rw [h] at HS
    clear h
    by_cases h6 : b = 6
    · rw [if_pos h6]
      have e6 : ((b : Int) == 6) = true := by simp [h6]
      clear h6
      go_enter Try.func16, Try.ntmps16
      go_wp2_with fail
      refine (HS.out _).mono ?_; rintro e w1 ⟨rfl, rfl⟩
      go_wp2_with fail
      go_ret2
      exact ⟨rfl, Below.refl _ _⟩
    · rw [if_neg h6]
      have e6 : ((b : Int) == 6) = false := by simp [h6]
      clear h6
      go_enter Try.func16, Try.ntmps16
      go_wp2_with fail
      refine (HS.out _).mono ?_; rintro e w1 ⟨rfl, rfl⟩
      go_wp2_with fail
      go_ret2
      exact ⟨rfl, Below.refl _ _⟩

set_option maxHeartbeats 1600000 in
theorem implLeast_any (a b : Int) (w : World) :
    Calls Try.prog 17 #[.int .i64 a, .int .i64 b] w fun e w' => e = .returned (.tuple #[.int .i64 (lpI a b), .bool (setScoreB a b)]) ∧ Below w.heap.size w w' := by
  have HF := Lib.hid (implFirst_any a b)
  have HS := Lib.hid (implIsSetScore_any a b)
  cases h : setScoreB a b with
  | false =>
    rw [show lpI a b = 0 from by unfold lpI; rw [h]; rfl]
    rw [h] at HS
    clear h
    cases hm : decide (0 < ((ov a b).1 : Int)) with
    | false =>
      rw [hm] at HF
      clear hm
      go_enter Try.func17, Try.ntmps17
      go_wp2_with fail
      refine (HF.out _).mono ?_; rintro e w1 ⟨rfl, b1⟩
      go_wp2_with fail
      go_ret2
      exact ⟨rfl, b1⟩
    | true =>
      rw [hm] at HF
      clear hm
      go_enter Try.func17, Try.ntmps17
      go_wp2_with fail
      refine (HF.out _).mono ?_; rintro e w1 ⟨rfl, b1⟩
      go_wp2_with fail
      refine (HS.out _).mono ?_; rintro e w2 ⟨rfl, rfl⟩
      go_wp2_with fail
      go_ret2
      exact ⟨rfl, b1⟩
  | true =>
    obtain ⟨h1, h2, h3, h4⟩ := lp_at h
    rw [h] at HS
    rw [show decide (0 < ((ov a b).1 : Int)) = true from by simp; omega] at HF
    rw [← h3]
    clear h h1 h3
    generalize (ov a b).2 = p at *
    have hsz : (⟨p.toArray⟩ : ByteArray).size = p.length := by simp [ByteArray.size]
    have HG := Lib.hid (fun W => ExSetOfGames.impl_any ⟨p.toArray⟩ W (by rw [hsz]; omega))
    rw [show ExSetOfGames.res (⟨p.toArray⟩ : ByteArray).data.toList = .tuple #[.string ⟨(ptsS 0 p).toArray⟩, .bool true] from by show ExSetOfGames.res p = _; unfold ExSetOfGames.res; rw [h2]; rfl] at HG
    have hpl := ptsS_len p 0
    clear h2 hsz
    have hlen : (⟨(ptsS 0 p).toArray⟩ : ByteArray).size = (ptsS 0 p).length := by simp [ByteArray.size]
    go_enter Try.func17, Try.ntmps17
    go_wp2_with fail
    refine (HF.out _).mono ?_; rintro e w1 ⟨rfl, b1⟩
    go_wp2_with fail
    refine (HS.out _).mono ?_; rintro e w2 ⟨rfl, rfl⟩
    go_wp2_with fail
    refine (HG.out _).mono ?_; rintro e w3 ⟨rfl, b3⟩
    have B3 := Lib.hid (b1.trans (b3.mono b1.size)); clear b1 b3
    go_wp2_with fail
    go_ret2
    exact ⟨by first | rfl | (rw [hlen]), B3.out⟩
end Go.Proofs.Ytaplkciomagmiab
