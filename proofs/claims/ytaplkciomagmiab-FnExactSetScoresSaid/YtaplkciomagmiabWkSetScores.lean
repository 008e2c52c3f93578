/- What the exact law of SetScores does, step by step. -/
import Derived.Test.YtaplkciomagmiabTsSc
namespace Go.Proofs.Ytaplkciomagmiab.ExSetScores
open Go.RowKit
set_option linter.unusedVariables false
set_option linter.unusedSimpArgs false

set_option maxHeartbeats 3200000 in
theorem law_of (D : List (List Int)) (hD : SmallD D) (hs3 : ∀ j, j < D.length → (D.getD j []).length ≤ 3)
    (hs : ∀ w : World, Calls Try.prog 7 #[] w fun e w' => ∃ v, e = .returned v ∧ FrC w.heap.size D v w' ∧ Below w.heap.size w w')
    (hi : ∀ w : World, Calls Try.prog 8 #[] w fun e w' => ∃ v, e = .returned v ∧ FrC w.heap.size D v w' ∧ Below w.heap.size w w') (w : World) :
    Calls Try.prog 3 #[] w fun e w' => e = .returned (.bool true) ∧ Below w.heap.size w w' := by
  have HS := Lib.hid hs; clear hs
  have HI := Lib.hid hi; clear hi
  have HD := Lib.hid (And.intro hD hs3); clear hD hs3
  go_enter Try.func3, Try.ntmps3
  go_wp2_with fail
  refine (HS.out _).mono ?_; rintro e w2 ⟨v2, rfl, fc2, b2⟩
  have rd2 := fc2.rd HD.out.2
  clear fc2
  obtain ⟨a2, c2, rfl⟩ := rd2.slice
  have RD := Lib.hid rd2
  have B2 := Lib.hid b2; clear rd2 b2
  go_wp2_with fail
  refine (HI.out _).mono ?_; rintro e w4 ⟨v4, rfl, fd4, b4⟩
  obtain ⟨a4, c4, rfl⟩ := fd4.slice
  have C4 := Lib.hid b4
  have FC4 := Lib.hid fd4; clear fd4 b4
  go_wp2_with fail
  refine (eqSS D HD.out.1 _ _ _ _ _ (FC4.out.rd HD.out.2) (RD.out.keep C4.out)).mono ?_; rintro e w5 ⟨rfl, b5⟩
  have C5 := Lib.hid (C4.out.trans (b5.mono C4.out.size))
  have FC5 := Lib.hid (FC4.out.keep b5); clear b5 FC4 C4
  go_wp2_with fail
  refine (markSS D HD.out.1 HD.out.2 (B0 := w2.heap.size) (Nat.le_refl _) _ _ _ FC5.out).mono ?_; rintro e w10 ⟨rfl, mk, b10⟩
  have C10 := Lib.hid (C5.out.trans b10)
  have MK := Lib.hid mk; clear mk b10 C5 FC5
  have HSS := Lib.hid (fun (w' : World) (hm : MkD D 1 (.slice a4 D.length c4) w') => heldSS D HD.out.1 a4 c4 w' hm)
  have k2 : ((1 : Int) + ((offs D D.length : Nat) : Int) < 0) = False := by simp; omega
  have k3 : ((1 : Int) + ((offs D D.length : Nat) : Int) != 1 + ((offs D D.length : Nat) : Int)) = false := by simp
  generalize offs D D.length = T at *
  go_wp2_with fail
  refine (HSS.out _ MK.out).mono ?_; rintro e w11 ⟨rfl, rfl⟩
  go_wp2_with fail
  refine (HI.out _).mono ?_; rintro e w13 ⟨v13, rfl, fd13, b13⟩
  obtain ⟨a13, c13, rfl⟩ := fd13.slice
  have C13 := Lib.hid (C10.out.trans (b13.mono C10.out.size))
  have R13 := Lib.hid (And.intro fd13 (MK.out.keep b13)); clear b13 fd13 MK C10
  go_wp2_with fail
  refine (eqSS D HD.out.1 _ _ _ _ _ (R13.out.1.rd HD.out.2) (RD.out.keep C13.out)).mono ?_; rintro e w14 ⟨rfl, b14⟩
  have C14 := Lib.hid (C13.out.trans (b14.mono C13.out.size))
  have R14 := Lib.hid (R13.out.2.keep b14); clear b14 R13 C13
  go_wp2_with fail
  refine (HSS.out _ R14.out).mono ?_; rintro e w15 ⟨rfl, rfl⟩
  go_wp2_with fail
  go_ret
  exact ⟨rfl, B2.out.trans (C14.out.mono B2.out.size)⟩

theorem walk (w : World) :
    Calls Try.prog 3 #[] w fun e w' => e = .returned (.bool true) ∧ Below w.heap.size w w' :=
  law_of (rows2 scA) sc_ok.1 sc_ok.2 (fun w => (specScores_any w).mono fun e w' ⟨v, h1, h2, h3⟩ => ⟨v, h1, h2.c, h3⟩) (fun w => (implScores_any w).mono fun e w' ⟨v, h1, h2, h3⟩ => ⟨v, h1, h2.c, h3⟩) w
end Go.Proofs.Ytaplkciomagmiab.ExSetScores
