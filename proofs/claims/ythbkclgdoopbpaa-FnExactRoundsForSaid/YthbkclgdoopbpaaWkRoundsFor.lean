/- What the exact law of RoundsFor does, step by step. -/
import Derived.Test.YthbkclgdoopbpaaRnSide
namespace Go.Proofs.Ythbkclgdoopbpaa.ExRoundsFor
open Go.RowKit
set_option linter.unusedVariables false
set_option linter.unusedSimpArgs false

set_option maxHeartbeats 3200000 in
theorem law_of (t : Int) (E : List (List (List Int))) (o : Bool) (hE : SmallE E)
    (hs : ∀ w : World, Calls Try.prog 26 #[.int .i64 t] w (RoundsR E o w))
    (hi : ∀ w : World, Calls Try.prog 27 #[.int .i64 t] w (RoundsR E o w)) (w : World) :
    Calls Try.prog 8 #[.int .i64 t] w fun e w' => e = .returned (.bool true) ∧ Below w.heap.size w w' := by
  have HS := Lib.hid hs; clear hs
  have HI := Lib.hid hi; clear hi
  have HD := Lib.hid hE; clear hE
  have hoo : (o != o) = false := by cases o <;> rfl
  go_enter Try.func8, Try.ntmps8
  go_wp2_with fail
  refine (HS.out _).mono ?_; rintro e w2 ⟨v2, rfl, rd2, b2⟩
  obtain ⟨a2, c2, rfl⟩ := rd2.slice
  have RD := Lib.hid rd2
  have B2 := Lib.hid b2; clear rd2 b2
  go_wp2_with fail
  refine (HI.out _).mono ?_; rintro e w4 ⟨v4, rfl, fd4, b4⟩
  obtain ⟨a4, c4, rfl⟩ := fd4.slice
  have C4 := Lib.hid b4
  have FC4 := Lib.hid fd4; clear fd4 b4
  go_wp2_with fail
  refine (eqSSS E HD.out _ _ _ _ _ FC4.out (RD.out.keep C4.out)).mono ?_; rintro e w5 ⟨rfl, b5⟩
  have C5 := Lib.hid (C4.out.trans (b5.mono C4.out.size))
  have FC5 := Lib.hid (FC4.out.keep b5); clear b5 FC4 C4
  go_wp2_with fail
  refine (markSSS E HD.out (B0 := w2.heap.size) (Nat.le_refl _) _ _ _ FC5.out).mono ?_; rintro e w10 ⟨rfl, mk, b10⟩
  have C10 := Lib.hid (C5.out.trans b10)
  have MK := Lib.hid mk; clear mk b10 C5 FC5
  have HSS := Lib.hid (fun (w' : World) (hm : Mk3 E 1 (.slice a4 E.length c4) w') => heldSSS E HD.out a4 c4 w' hm)
  have k2 : ((1 : Int) + ((offE E E.length : Nat) : Int) < 0) = False := by simp; omega
  have k3 : ((1 : Int) + ((offE E E.length : Nat) : Int) != 1 + ((offE E E.length : Nat) : Int)) = false := by simp
  generalize offE E E.length = T at *
  go_wp2_with fail
  refine (HSS.out _ MK.out).mono ?_; rintro e w11 ⟨rfl, rfl⟩
  go_wp2_with fail
  refine (HI.out _).mono ?_; rintro e w13 ⟨v13, rfl, fd13, b13⟩
  obtain ⟨a13, c13, rfl⟩ := fd13.slice
  have C13 := Lib.hid (C10.out.trans (b13.mono C10.out.size))
  have R13 := Lib.hid (And.intro fd13 (MK.out.keep b13)); clear b13 fd13 MK C10
  go_wp2_with fail
  refine (eqSSS E HD.out _ _ _ _ _ R13.out.1 (RD.out.keep C13.out)).mono ?_; rintro e w14 ⟨rfl, b14⟩
  have C14 := Lib.hid (C13.out.trans (b14.mono C13.out.size))
  have R14 := Lib.hid (R13.out.2.keep b14); clear b14 R13 C13
  go_wp2_with fail
  refine (HSS.out _ R14.out).mono ?_; rintro e w15 ⟨rfl, rfl⟩
  go_wp2_with fail
  go_ret
  exact ⟨rfl, B2.out.trans (C14.out.mono B2.out.size)⟩

theorem walk (t : Int) (w : World) :
    Calls Try.prog 8 #[.int .i64 t] w fun e w' => e = .returned (.bool true) ∧ Below w.heap.size w w' := by
  cases hg : goodT t
  · exact law_of t [] false ⟨by decide, fun i hi => absurd hi (Nat.not_lt_zero _)⟩ (fun w => specRounds_bad t hg w) (fun w => implRounds_bad t hg w) w
  · have hb : 2 ≤ t ∧ t ≤ 8 ∧ t % 2 = 0 := by simpa [goodT] using hg
    obtain ⟨T, rfl⟩ : ∃ T : Nat, t = T := ⟨t.toNat, by omega⟩
    obtain ⟨n, rfl⟩ : ∃ n, T = n + 1 := ⟨T - 1, by omega⟩
    obtain ⟨h, hh⟩ : ∃ h, n + 1 = h + h := ⟨(n + 1) / 2, by omega⟩
    exact law_of _ (roundsT n h n) true (rounds_small n h n (by omega) (by omega) (by omega)) (fun w => specRounds_good (n + 1) n h rfl (by omega) (by omega) hh w) (fun w => implRounds_good (n + 1) n h rfl (by omega) (by omega) hh w) w
end Go.Proofs.Ythbkclgdoopbpaa.ExRoundsFor
