/-
  Goals: kinds and scores are looked at.
-/
import Derived.Test.YtgkkjlpfkoplhaaDoorGoLaw
import Derived.Test.YtgkkjlpfkoplhaaDoorGoMath
namespace Go.Proofs.YtgkkjlpfkoplhaaDoor
open Go.RowKit
set_option linter.unusedVariables false
set_option linter.unusedSimpArgs false

theorem rises_step {hi lo : Int} {l : List Int} {k : Nat} (hk : k < l.length) : risesB hi lo (l.drop k) = (decide (lo ≤ l.getD k 0) && decide (l.getD k 0 ≤ hi) && risesB hi (l.getD k 0 + 1) (l.drop (k + 1))) := by
  rw [drop_getD hk]; rfl

set_option maxHeartbeats 1600000 in
theorem implAreKinds_any (l : List Int) (a : Option Addr) (c : Nat) (w : World) (hl : (l.length : Int) ≤ 1000000000000) (h : Reads w a (ints l)) :
    Calls Tryd.prog 39 #[.slice a l.length c] w fun e w' => e = .returned (.bool (goodK l)) ∧ Below w.heap.size w w' := by
  have HR := Lib.hid h; clear h
  go_enter Tryd.func39, Tryd.ntmps39
  go_wp2_with fail
  go_loopw [3, 8] (fun q i wr => ∃ (k : Nat) (lo : Int), i = .int .i64 k ∧ q = .int .i64 lo ∧ k ≤ l.length ∧ 1 ≤ lo ∧ lo ≤ 21 ∧ Hid (risesB 20 lo (l.drop k) = risesB 20 1 l) ∧ wr = w) (fun _ i _ => l.length - (intOf i).toNat)
  case atStart => exact ⟨0, 1, rfl, rfl, Nat.zero_le _, by omega, by omega, Lib.hid rfl, rfl⟩
  case round =>
    obtain ⟨k, lo, rfl, rfl, hk, h1, h2, HT, rfl⟩ := hrel
    by_cases hlt : k < l.length
    · obtain ⟨b, off, rfl, _, hc⟩ := cells_of_reads HR.out (by omega)
      have c0 := hc k hlt
      clear hc
      have b1 : (k : Int) < (l.length : Int) := by omega
      have hst := rises_step (hi := 20) (lo := lo) hlt
      have HS := Lib.hid hst; clear hst
      generalize l.getD k 0 = x at *
      by_cases q1 : x < lo
      · have hf : goodK l = false := by
          have := HT.out
          rw [HS.out, decide_eq_false (by omega : ¬ lo ≤ x), Bool.false_and, Bool.false_and] at this
          simp [goodK, ← this]
        have HF := Lib.hid hf; clear hf
        go_wp2
        go_ret
        exact ⟨ret_bool (by rw [HF.out]), Below.refl _ _⟩
      · have q1' : ¬ x < lo := q1
        clear q1
        by_cases q2 : 20 < x
        · have hf : goodK l = false := by
            have := HT.out
            rw [HS.out, decide_eq_false (by omega : ¬ x ≤ 20), Bool.and_false, Bool.false_and] at this
            simp [goodK, ← this]
          have HF := Lib.hid hf; clear hf
          go_wp2
          go_ret
          exact ⟨ret_bool (by rw [HF.out]), Below.refl _ _⟩
        · have q2' : ¬ 20 < x := q2
          clear q2
          have hn : risesB 20 (x + 1) (l.drop (k + 1)) = risesB 20 1 l := by
            rw [← HT.out, HS.out, decide_eq_true (by omega : lo ≤ x), decide_eq_true (by omega : x ≤ 20)]; rfl
          have HN := Lib.hid hn; clear hn
          go_wp2
          go_roundw
          case rel => exact ⟨k + 1, x + 1, by go_num, rfl, by omega, by omega, by omega, HN, trivial⟩
          case measure => simp [intOf]; omega
    · obtain rfl : k = l.length := by omega
      have ht : risesB 20 1 l = true := by rw [← HT.out, List.drop_length]; rfl
      have hf : goodK l = (decide (1 ≤ l.length) && decide (l.length ≤ 5)) := by simp [goodK, ht]
      have HF := Lib.hid hf; clear hf ht
      by_cases q1 : 1 ≤ (l.length : Int)
      · by_cases q2 : (l.length : Int) ≤ 5
        · have e : goodK l = true := by rw [HF.out]; simp; omega
          have HE := Lib.hid e; clear e
          go_wp2
          go_ret
          exact ⟨ret_bool (by rw [HE.out]), Below.refl _ _⟩
        · have e : goodK l = false := by rw [HF.out]; simp; omega
          have HE := Lib.hid e; clear e
          go_wp2
          go_ret
          exact ⟨ret_bool (by rw [HE.out]), Below.refl _ _⟩
      · have e : goodK l = false := by rw [HF.out]; simp; omega
        have HE := Lib.hid e; clear e
        go_wp2
        go_ret
        exact ⟨ret_bool (by rw [HE.out]), Below.refl _ _⟩

/-- What the model looks at in element k: the one before. -/
def befR (l : List Int) (k : Nat) (lo : Int) : Prop := (k = 0 ∧ lo = 1) ∨ (0 < k ∧ lo = l.getD (k - 1) 0 + 1 ∧ 1 ≤ lo)

set_option maxHeartbeats 3200000 in
theorem l1Rising_any (l : List Int) (a : Option Addr) (c : Nat) (w : World) (hl : (l.length : Int) ≤ 1000000000000) (h : Reads w a (ints l)) :
    Calls Tryd.prog 63 #[.slice a l.length c, .int .i64 1, .int .i64 20] w fun e w' => e = .returned (.bool (risesB 20 1 l)) ∧ Below w.heap.size w w' := by
  have HR := Lib.hid h; clear h
  go_enter Tryd.func63, Tryd.ntmps63
  go_wp2_with fail
  go_loopw [11] (fun i wr => ∃ (k : Nat) (lo : Int), i = .int .i64 k ∧ k ≤ l.length ∧ Hid (befR l k lo) ∧ lo ≤ 21 ∧ Hid (risesB 20 lo (l.drop k) = risesB 20 1 l) ∧ wr = w) (fun i _ => l.length - (intOf i).toNat)
  case atStart => exact ⟨0, 1, rfl, Nat.zero_le _, Lib.hid (.inl ⟨rfl, rfl⟩), by omega, Lib.hid rfl, rfl⟩
  case round =>
    obtain ⟨k, lo, rfl, hk, HB, h2, HT, rfl⟩ := hrel
    by_cases hlt : k < l.length
    · obtain ⟨b, off, rfl, _, hc⟩ := cells_of_reads HR.out (by omega)
      have c0 := hc k hlt
      have b1 : (k : Int) < (l.length : Int) := by omega
      have hst := rises_step (hi := 20) (lo := lo) hlt
      have HS := Lib.hid hst; clear hst
      cases hin : inR (l.getD k 0) 1 20
      · have hf : risesB 20 1 l = false := by
          rw [← HT.out, HS.out]
          rcases HB.out with ⟨_, rfl⟩ | ⟨_, _, h1⟩
          · simp [inR] at hin ⊢; intro h3 h4; omega
          · simp [inR] at hin ⊢; intro h3 h4; omega
        have HF := Lib.hid hf
        have HI := Lib.hid hin; clear hf hin hc
        generalize l.getD k 0 = x at *
        go_wp2_with fail
        refine (l1In_any _ _ _ _).mono ?_; rintro e w1 ⟨rfl, rfl⟩
        rw [HI.out]
        go_wp2_with fail
        go_ret
        exact ⟨ret_bool (by rw [HF.out]), Below.refl _ _⟩
      · have hxb : 1 ≤ l.getD k 0 ∧ l.getD k 0 ≤ 20 := by simpa [inR] using hin
        have HI := Lib.hid hin; clear hin
        rcases HB.out with ⟨rfl, rfl⟩ | ⟨h0, hlo, h1⟩
        · have hn : risesB 20 (l.getD 0 0 + 1) (l.drop (0 + 1)) = risesB 20 1 l := by
            rw [← HT.out, HS.out, decide_eq_true hxb.1, decide_eq_true hxb.2]; rfl
          have HN := Lib.hid hn; clear hn
          have hb : Hid (befR l 1 (l.getD 0 0 + 1)) := .inr ⟨by omega, rfl, by omega⟩
          clear hc HB
          simp only [Nat.add_zero] at c0
          generalize l.getD 0 0 = x at *
          go_wp2_with fail
          refine (l1In_any _ _ _ _).mono ?_; rintro e w1 ⟨rfl, rfl⟩
          rw [HI.out]
          go_wp2_with fail
          go_roundw
          case rel => exact ⟨1, x + 1, by go_num, by omega, hb, by omega, HN, trivial⟩
          case measure => simp [intOf]; omega
        · obtain ⟨j, rfl⟩ : ∃ j, k = j + 1 := ⟨k - 1, by omega⟩
          have cp := hc j (by omega)
          rw [show j + 1 - 1 = j by omega] at hlo
          have hk1 : (((j + 1 : Nat) : Int) - 1) = (j : Int) := by omega
          have hk2 : ((j : Int) + 1 - 1) = (j : Int) := by omega
          have b2 : (j : Int) < (l.length : Int) := by omega
          have hpos : (0 : Int) < (j : Int) + 1 := by omega
          clear hc HB
          by_cases q : l.getD (j + 1) 0 ≤ l.getD j 0
          · have hf : risesB 20 1 l = false := by
              rw [← HT.out, HS.out, decide_eq_false (by omega : ¬ lo ≤ l.getD (j + 1) 0)]; rfl
            have HF := Lib.hid hf; clear hf
            generalize l.getD (j + 1) 0 = x at *
            generalize l.getD j 0 = y at *
            rw [show (((j + 1 : Nat)) : Int) = (j : Int) + 1 from rfl] at *
            go_wp2_with fail
            refine (l1In_any _ _ _ _).mono ?_; rintro e w1 ⟨rfl, rfl⟩
            rw [HI.out]
            go_wp2_with fail
            go_ret
            exact ⟨ret_bool (by rw [HF.out]), Below.refl _ _⟩
          · have q' : ¬ l.getD (j + 1) 0 ≤ l.getD j 0 := q
            clear q
            have hn : risesB 20 (l.getD (j + 1) 0 + 1) (l.drop (j + 1 + 1)) = risesB 20 1 l := by
              rw [← HT.out, HS.out, decide_eq_true (by omega : lo ≤ l.getD (j + 1) 0), decide_eq_true hxb.2]; rfl
            have HN := Lib.hid hn; clear hn
            have hb : Hid (befR l (j + 1 + 1) (l.getD (j + 1) 0 + 1)) := .inr ⟨by omega, rfl, by omega⟩
            generalize l.getD (j + 1) 0 = x at *
            generalize l.getD j 0 = y at *
            rw [show (((j + 1 : Nat)) : Int) = (j : Int) + 1 from rfl] at *
            go_wp2_with fail
            refine (l1In_any _ _ _ _).mono ?_; rintro e w1 ⟨rfl, rfl⟩
            rw [HI.out]
            go_wp2_with fail
            go_roundw
            case rel => exact ⟨j + 1 + 1, x + 1, by go_num, by omega, hb, by omega, HN, trivial⟩
            case measure => simp [intOf]; omega
    · obtain rfl : k = l.length := by omega
      have ht : risesB 20 1 l = true := by rw [← HT.out, List.drop_length]; rfl
      have HF := Lib.hid ht; clear ht
      go_wp2_with fail
      go_ret
      exact ⟨ret_bool (by rw [HF.out]), Below.refl _ _⟩

set_option maxHeartbeats 800000 in
theorem goKinds_any (l : List Int) (a : Option Addr) (c : Nat) (w : World) (hl : (l.length : Int) ≤ 1000000000000) (h : Reads w a (ints l)) :
    Calls Tryd.prog 36 #[.slice a l.length c] w fun e w' => e = .returned (.bool (goodK l)) ∧ Below w.heap.size w w' := by
  have HR := Lib.hid h; clear h
  have hg : goodK l = (inR (l.length : Nat) 1 5 && risesB 20 1 l) := by
    simp only [goodK, inR]
    congr 2
    · rw [decide_eq_decide]; omega
    · rw [decide_eq_decide]; omega
  cases hin : inR (l.length : Nat) 1 5
  · have e : goodK l = false := by rw [hg, hin]; rfl
    have HE := Lib.hid e
    have HI := Lib.hid hin; clear hg hin e
    go_enter Tryd.func36, Tryd.ntmps36
    go_wp2_with fail
    refine (l1In_any _ _ _ _).mono ?_; rintro e w1 ⟨rfl, rfl⟩
    rw [HI.out]
    go_wp2_with fail
    go_ret
    exact ⟨ret_bool (by rw [HE.out]), Below.refl _ _⟩
  · have e : goodK l = risesB 20 1 l := by rw [hg, hin]; rfl
    have HE := Lib.hid e
    have HI := Lib.hid hin; clear hg hin e
    go_enter Tryd.func36, Tryd.ntmps36
    go_wp2_with fail
    refine (l1In_any _ _ _ _).mono ?_; rintro e w1 ⟨rfl, rfl⟩
    rw [HI.out]
    go_wp2_with fail
    refine (l1Rising_any l _ _ _ hl HR.out).mono ?_; rintro e w1 ⟨rfl, b1⟩
    go_wp2_with fail
    go_ret
    exact ⟨ret_bool (by rw [HE.out]), b1⟩

end Go.Proofs.YtgkkjlpfkoplhaaDoor
