/- What the exact law of ParseRolls does, step by step. -/
import Derived.Test.YtgkkjlpfkoplhaaDoorPrSpec
namespace Go.Proofs.YtgkkjlpfkoplhaaDoor.ExParseRolls
open Go.RowKit Go.ChangeShapes Go.WideShapes Go.Deep
set_option linter.unusedVariables false
set_option linter.unusedSimpArgs false

set_option maxHeartbeats 3200000 in
theorem law_of (f : Int) (s : ByteArray) (L : List Int) (o : Bool) (hL : (L.length : Int) ≤ 1000)
    (hs : ∀ w : World, Calls Tryd.prog 6 #[.int .i64 f, .string s] w (RowQ L o w))
    (hi : ∀ w : World, Calls Tryd.prog 7 #[.int .i64 f, .string s] w (RowQ L o w)) (w : World) (hl : ¬ (1048576 : Int) < (s.size : Int)) :
    Calls Tryd.prog 3 #[.int .i64 f, .string s] w fun e w' => e = .returned (.bool true) ∧ Below w.heap.size w w' := by
  have HS := Lib.hid hs; clear hs
  have HI := Lib.hid hi; clear hi
  have q1 : (o != o) = false := by simp
  go_enter Tryd.func3, Tryd.ntmps3
  go_wp2_with fail
  refine (HS.out _).mono ?_; rintro e w2 ⟨v2, rfl, o2, b2⟩
  obtain ⟨a2, c2, rfl, r2, -, -, n2⟩ := Reads.own o2
  have lt2 : ∀ b, blockOf a2 = some b → b < w2.heap.size := fun b e => (owns_in o2 (own_blockQ.trans e)).2
  have R2 := Lib.hid (And.intro r2 (And.intro lt2 b2)); clear r2 lt2 n2 b2 o2
  go_wp2_with fail
  refine (HI.out _).mono ?_; rintro e w4 ⟨v4, rfl, o4, b4⟩
  obtain ⟨a4, c4, rfl, r4, -, -, n4⟩ := Reads.own o4
  have H4 := Lib.hid (And.intro o4 (And.intro n4 (R2.out.2.2.trans (b4.mono R2.out.2.2.size))))
  have R24 := Lib.hid (R2.out.1.old b4); clear o4 n4 b4
  go_wp2_with fail
  refine (eq_sameQ L _ _ _ _ _ (by omega) r4 R24.out).mono ?_; rintro e w5 ⟨rfl, b5⟩
  have B5 := Lib.hid (H4.out.2.2.trans (b5.mono H4.out.2.2.size))
  have O5 := Lib.hid (owns_below H4.out.1 b5)
  have R25 := Lib.hid (R24.out.old b5); clear b5 r4 R24
  go_wp2_with fail
  have wr9 := Writable.own O5.out
  rw [Nat.mul_one] at wr9
  refine (markIntS_any L.length _ _ 1 _ (by omega) (by omega) (by omega) wr9).mono ?_; rintro e w10 ⟨rfl, hw10⟩
  have B10 : Hid (Below w.heap.size w w10) := by rw [hw10]; exact Below.writeAt B5.out (fun b e => by have h1 := H4.out.2.1 b e; have h2 := R2.out.2.2.size; omega) _
  have R4m : Hid (Reads w10 a4 (ints (marks 1 L.length))) := by
    rw [hw10]; exact Reads.written (by rw [ints_len, marks_len]; exact wr9)
  have R210 : Hid (Reads w10 a2 (ints L)) := by
    rw [hw10]; exact R25.out.write_other (fun b e e2 => by have h1 := R2.out.2.1 b e; have h2 := H4.out.2.1 b e2; omega) _
  clear hw10 wr9 O5 R25 B5
  have k2 : ((1 : Int) + (L.length : Int) < 0) = False := by simp; omega
  have k3 : ((1 : Int) + (L.length : Int) != 1 + (L.length : Int)) = false := by simp
  go_wp2_with fail
  refine (heldIntS_any L.length _ _ 1 _ (by omega) (by omega) (by omega) R4m.out).mono ?_; rintro e w11 ⟨rfl, rfl⟩
  go_wp2_with fail
  refine (HI.out _).mono ?_; rintro e w13 ⟨v13, rfl, o13, b13⟩
  obtain ⟨a13, c13, rfl, r13, -, -, -⟩ := Reads.own o13
  have B13 := Lib.hid (B10.out.trans (b13.mono B10.out.size))
  have R13 := Lib.hid (And.intro r13 (And.intro (R4m.out.old b13) (R210.out.old b13))); clear r13 b13 o13
  go_wp2_with fail
  refine (eq_sameQ L _ _ _ _ _ (by omega) R13.out.1 R13.out.2.2).mono ?_; rintro e w14 ⟨rfl, b14⟩
  have B14 := Lib.hid (B13.out.trans (b14.mono B13.out.size))
  have R14 := Lib.hid (R13.out.2.1.old b14); clear b14
  go_wp2_with fail
  refine (heldIntS_any L.length _ _ 1 _ (by omega) (by omega) (by omega) R14.out).mono ?_; rintro e w15 ⟨rfl, rfl⟩
  go_wp2_with fail
  go_ret
  exact ⟨rfl, B14.out⟩

set_option maxHeartbeats 400000 in
theorem law_long (f : Int) (s : ByteArray) (w : World) (hl : (1048576 : Int) < (s.size : Int)) :
    Calls Tryd.prog 3 #[.int .i64 f, .string s] w fun e w' => e = .returned (.bool true) ∧ Below w.heap.size w w' := by
  go_enter Tryd.func3, Tryd.ntmps3
  go_wp2
  go_ret
  exact ⟨rfl, Below.refl _ _⟩

theorem walk (f : Int) (s : ByteArray) (w : World) :
    Calls Tryd.prog 3 #[.int .i64 f, .string s] w fun e w' => e = .returned (.bool true) ∧ Below w.heap.size w w' := by
  by_cases hl : (1048576 : Int) < (s.size : Int)
  · exact law_long f s w hl
  · obtain ⟨o, ho⟩ := PrIs.some_of f s.toList
    exact law_of f s (o.getD []) o.isSome (by have := ho.len; omega) (fun w => specParseRolls_any f s (by omega) o ho w) (fun w => implParseRolls_any f s (by omega) o ho w) w hl
end Go.Proofs.YtgkkjlpfkoplhaaDoor.ExParseRolls
