/- What the exact law of FirstFinish does, step by step. -/
import Derived.Test.YtaplkciomagmiaaDnFirstL
namespace Go.Proofs.Ytaplkciomagmiaa.ExFirstFinish
open Go.RowKit
set_option linter.unusedVariables false
set_option linter.unusedSimpArgs false

theorem own_block {a : Option Addr} {n c : Nat} : (Value.slice a n c).ownBlock = blockOf a := by
  match a with
  | none => rfl
  | some ⟨_, _, _⟩ => rfl
theorem owns_ge {w : World} {T base n size : Nat} {v : Value} {xs : List Value} (ho : w.ownsRow base T size v n xs) {g : Nat} (e : v.ownBlock = some g) : base ≤ g ∧ g < w.heap.size := by
  obtain ⟨hl, ⟨rfl, h2⟩ | ⟨g', cap, cur, rfl, hb, hh, r⟩⟩ := ho
  · simp [Value.ownBlock] at e
  · simp [Value.ownBlock] at e
    subst e
    exact ⟨hb, (Array.getElem?_eq_some_iff.1 hh).1⟩
theorem eq_same (L : List (Int × Int)) (a a' : Option Addr) (c c' : Nat) (w : World) (hl : (L.length : Int) ≤ 1048576) (h : Reads w a (darts L)) (h' : Reads w a' (darts L)) :
    Calls Try.prog 24 #[.slice a L.length c, .slice a' L.length c'] w fun e w' => e = .returned (.bool true) ∧ Below w.heap.size w w' := by
  have := eqDartS_any L L a a' c c' w (by omega) (by omega) h h'
  rw [show SameD L L = true from by simp [SameD]] at this
  exact this

set_option maxHeartbeats 3200000 in
theorem law_of (a : Int) (b : Int) (L : List (Int × Int)) (o : Bool) (hL : (L.length : Int) ≤ 1048576) (hs : (∀ w : World, Calls Try.prog 22 #[.int .i64 a, .int .i64 b] w fun e w' => RowD L o w e w')) (hi : (∀ w : World, Calls Try.prog 23 #[.int .i64 a, .int .i64 b] w fun e w' => RowD L o w e w')) (w : World) :
    Calls Try.prog 6 #[.int .i64 a, .int .i64 b] w fun e w' => e = .returned (.bool true) ∧ Below w.heap.size w w' := by
  have HS := Lib.hid hs; clear hs
  have HI := Lib.hid hi; clear hi
  have q1 : (o != o) = false := by simp
  go_enter Try.func6, Try.ntmps6
  go_wp2_with fail
  refine (HS.out _).mono ?_; rintro e w2 ⟨v2, rfl, o2, b2⟩
  obtain ⟨a2, c2, rfl, r2, -, -, n2⟩ := Reads.own o2
  have lt2 : ∀ b, blockOf a2 = some b → b < w2.heap.size := fun b e => (owns_ge o2 (own_block.trans e)).2
  have R2 := Lib.hid (And.intro r2 (And.intro lt2 b2)); clear r2 lt2 n2 b2 o2
  go_wp2_with fail
  refine (HI.out _).mono ?_; rintro e w4 ⟨v4, rfl, o4, b4⟩
  obtain ⟨a4, c4, rfl, r4, -, -, n4⟩ := Reads.own o4
  have H4 := Lib.hid (And.intro o4 (And.intro n4 (R2.out.2.2.trans (b4.mono R2.out.2.2.size))))
  have R24 := Lib.hid (R2.out.1.old b4); clear o4 n4 b4
  go_wp2_with fail
  refine (eq_same L _ _ _ _ _ hL r4 R24.out).mono ?_; rintro e w9 ⟨rfl, b9⟩
  have B9 := Lib.hid (H4.out.2.2.trans (b9.mono H4.out.2.2.size))
  have O9 := Lib.hid (owns_below H4.out.1 b9)
  have R29 := Lib.hid (R24.out.old b9); clear b9 r4 R24
  go_wp2_with fail
  have wr9 := Writable.own O9.out
  refine (markDartS_any L.length _ _ 1 _ (by omega) (by omega) (by omega) wr9).mono ?_; rintro e w10 ⟨rfl, hw10⟩
  have B10 : Hid (Below w.heap.size w w10) := by rw [hw10]; exact Below.writeAt B9.out (fun b e => by have h1 := H4.out.2.1 b e; have h2 := R2.out.2.2.size; omega) _
  have R4m : Hid (Reads w10 a4 (intsD (marks 1 (L.length * 2)))) := by
    rw [hw10]; exact Reads.written (by rw [intsD_len, marks_len]; exact wr9)
  have R210 : Hid (Reads w10 a2 (darts L)) := by
    rw [hw10]; exact R29.out.write_other (fun b e e2 => by have h1 := R2.out.2.1 b e; have h2 := H4.out.2.1 b e2; omega) _
  clear hw10 wr9 O9 R29 B9
  have HHD := Lib.hid (fun (a : Option Addr) (c : Nat) (w : World) (h : Reads w a (intsD (marks 1 (L.length * 2)))) => heldDartS_any L.length a c 1 w (by omega) (by omega) (by omega) h)
  have HL2 := Lib.hid hL
  generalize hM : (((L.length * 2) : Nat) : Int) = M at *
  have hM0 : 0 ≤ M := by omega
  have k2 : ((1 : Int) + M < 0) = False := by simp; omega
  have k3 : ((1 : Int) + M != 1 + M) = false := by simp
  have HM := Lib.hid hM; clear hM
  try rw [HM.out] at HHD
  go_wp2_with fail
  refine (HHD.out _ _ _ R4m.out).mono ?_; rintro e w11 ⟨rfl, rfl⟩
  go_wp2_with fail
  refine (HI.out _).mono ?_; rintro e w13 ⟨v13, rfl, o13, b13⟩
  obtain ⟨a13, c13, rfl, r13, -, -, -⟩ := Reads.own o13
  have B13 := Lib.hid (B10.out.trans (b13.mono B10.out.size))
  have R13 := Lib.hid (And.intro r13 (And.intro (R4m.out.old b13) (R210.out.old b13))); clear r13 b13 o13
  go_wp2_with fail
  refine (eq_same L _ _ _ _ _ (by have := HL2.out; have := HM.out; omega) R13.out.1 R13.out.2.2).mono ?_; rintro e w14 ⟨rfl, b14⟩
  have B14 := Lib.hid (B13.out.trans (b14.mono B13.out.size))
  have R14 := Lib.hid (R13.out.2.1.old b14); clear b14
  go_wp2_with fail
  refine (HHD.out _ _ _ R14.out).mono ?_; rintro e w15 ⟨rfl, rfl⟩
  go_wp2_with fail
  go_ret
  exact ⟨rfl, B14.out⟩

theorem walk (a : Int) (b : Int) (w : World) :
    Calls Try.prog 6 #[.int .i64 a, .int .i64 b] w fun e w' => e = .returned (.bool true) ∧ Below w.heap.size w w' :=
  law_of a b (fsL a b) (fsO a b) (by have := fsL_len a b; omega) (fun w => specFirstFinish_any a b w) (fun w => implFirstFinish_any a b w) w
end Go.Proofs.Ytaplkciomagmiaa.ExFirstFinish
