/-
  Tennis: the model's play of a race.
-/
import Derived.Test.YtgkkjlpfkoplhaaGreatDoorTnSide
import Derived.IntWalk
import Derived.WalkSmall
namespace Go.Proofs.YtgkkjlpfkoplhaaGreatDoor
open Go.RowKit
set_option linter.unusedVariables false
set_option linter.unusedSimpArgs false

theorem calmCall {P : Program} {f : FuncId} {args : Array Value} {w : World} {n : Nat} {v : Value} (c : ∀ W : World, Calls P f args W fun e w' => e = .returned v ∧ W = w') :
    Calls P f args (w.drewN n) fun e w' => e = .returned v ∧ ∃ m, w' = w.drewN m := (c _).mono fun _ _ h => ⟨h.1, n, h.2.symm⟩

def playV (x : Int × Int × Nat × Bool) : Value := .tuple #[.int .i64 x.1, .int .i64 x.2.1, .int .i64 x.2.2.1, .bool x.2.2.2]
def addN (n : Nat) (x : Int × Int × Nat × Bool) : Int × Int × Nat × Bool := (x.1, x.2.1, x.2.2.1 + n, x.2.2.2)
theorem play_go {to a b : Int} {c : UInt8} {r : List UInt8} (h : overR to (a + upA c) (b + upB c) = false) : playS to a b (c :: r) = addN 1 (playS to (a + upA c) (b + upB c) r) := by
  rw [playS, if_neg (by simp [h])]; rfl
theorem play_end {to a b : Int} {c : UInt8} {r : List UInt8} (h : overR to (a + upA c) (b + upB c) = true) : playS to a b (c :: r) = (a + upA c, b + upB c, 1, true) := by
  rw [playS, if_pos h]
theorem addN_add (m n : Nat) (x : Int × Int × Nat × Bool) : addN m (addN n x) = addN (m + n) x := by simp [addN]; omega

set_option maxHeartbeats 3200000 in
theorem tnPlay_any (to : Int) (s : ByteArray) (from_ : Nat) (w : World) (hs : (s.size : Int) ≤ 1000000000000) (hf : from_ ≤ s.size) :
    Calls Tryz.prog 56 #[.agg #[.int .i64 to, .int .i64 2], .string s, .int .i64 from_] w fun e w' => e = .returned (playV (playS to 0 0 (s.data.toList.drop from_))) ∧ Below w.heap.size w w' := by
  have hp0 := Pair.new w to 2 78
  have hb0 : Below w.heap.size w (w.alloc (.cells #[.int .i64 to, .int .i64 2] 78)) := (Below.refl _ _).alloc (Nat.le_refl _) _
  have HP0 := Lib.hid (And.intro hp0 hb0); clear hp0 hb0
  generalize hg : w.heap.size = g at *
  have HG := Lib.hid hg; clear hg
  generalize hR : playS to 0 0 (s.data.toList.drop from_) = R
  have HR := Lib.hid hR; clear hR
  go_enter Tryz.func56, Tryz.ntmps56
  go_wp2_with fail
  rw [HG.out]
  go_loopw [10, 11, 12] (fun p q i wr => ∃ (k : Nat) (a b : Int), i = .int .i64 k ∧ p = .int .i64 a ∧ q = .int .i64 b ∧ from_ ≤ k ∧ k ≤ s.size ∧ 0 ≤ a ∧ a ≤ k ∧ 0 ≤ b ∧ b ≤ k ∧ Pair wr g to 2 ∧ addN (k - from_) (playS to a b (s.data.toList.drop k)) = R ∧ Below g w wr) (fun _ _ i _ => s.size - (intOf i).toNat)
  case atStart => exact ⟨from_, 0, 0, rfl, rfl, rfl, Nat.le_refl _, hf, by omega, by omega, by omega, by omega, HP0.out.1, by rw [Nat.sub_self, HR.out]; rfl, HP0.out.2⟩
  case round =>
    obtain ⟨k, a, b, rfl, rfl, rfl, hfk, hk, a1, a2, b1, b2, hp, ht, hbel⟩ := hrel
    have HT := Lib.hid ht; clear ht
    obtain ⟨z, c0, c1, f0, f1⟩ := hp
    have HP := Lib.hid (show Pair wr g to 2 from ⟨z, c0, c1, f0, f1⟩); clear f0 f1
    by_cases hlt : k < s.size
    · have hd := drop_cons s k hlt
      have HD := Lib.hid hd; clear hd
      have hov : overR to (a + upA s[k]) (b + upB s[k]) = (decide (to ≤ maxI (a + upA s[k]) (b + upB s[k])) && decide (2 ≤ maxI (a + upA s[k] - (b + upB s[k])) (-(a + upA s[k] - (b + upB s[k]))))) := rfl
      have HO := Lib.hid hov; clear hov
      by_cases hc : s[k] = 97
      · have e : ((s[k].toNat : Int) == 97) = true := by rw [b97]; simp [hc]
        have hu : upA s[k] = 1 ∧ upB s[k] = 0 := by rw [hc]; exact ⟨rfl, rfl⟩
        have HC := Lib.hid hu; clear hu hc
        rw [HC.out.1, HC.out.2, Int.add_zero] at HO
        by_cases m1 : to ≤ maxI (a + 1) (b)
        · by_cases m2 : 2 ≤ maxI (a + 1 - (b)) (-(a + 1 - (b)))
          · have hv : R = (a + 1, b, k - from_ + 1, true) := by
              rw [← HT.out, HD.out, play_end (by rw [HC.out.1, HC.out.2, Int.add_zero, HO.out]; simp [m1, m2]), HC.out.1, HC.out.2, Int.add_zero]; simp [addN]; omega
            have HV := Lib.hid hv; clear hv
            have t1 : IntKind.i64.wrap (a + 1 - (b)) = a + 1 - (b) := IntWalk.i64_in _ (by omega)
            go_wp2_with fail
            go_quiet ((first | (go_at_call 75; exact calmCall (fun W => l1Most_any _ _ W)) | (go_at_call 76; exact calmCall (fun W => l1Abs_any _ (by omega) (by omega) W))))
            clear t1
            go_wp2
            refine bodyPost_ret (v := .tuple #[.int .i64 (a + 1), .int .i64 (b), .int .i64 ((k : Int) + 1 - from_), .bool true]) (by simp [results, Tryz.results56, go_sem]) rfl ⟨by rw [HV.out]; simp [playV]; omega, below_drewN hbel _⟩
          · have hv : addN (k + 1 - from_) (playS to (a + 1) (b) (s.data.toList.drop (k + 1))) = R := by
              have := HT.out
              rw [HD.out, play_go (by rw [HC.out.1, HC.out.2, Int.add_zero, HO.out]; simp; intro _; omega), HC.out.1, HC.out.2, Int.add_zero, addN_add] at this
              rw [← this, show k - from_ + 1 = k + 1 - from_ from by omega]
            have HV := Lib.hid hv; clear hv
            have m2' : decide (2 ≤ maxI (a + 1 - (b)) (-(a + 1 - (b)))) = false := by simpa using m2
            have t1 : IntKind.i64.wrap (a + 1 - (b)) = a + 1 - (b) := IntWalk.i64_in _ (by omega)
            go_wp2_with fail
            go_quiet ((first | (go_at_call 75; exact calmCall (fun W => l1Most_any _ _ W)) | (go_at_call 76; exact calmCall (fun W => l1Abs_any _ (by omega) (by omega) W))))
            clear t1
            go_wp2
            go_roundw
            case rel => exact ⟨k + 1, _, _, by go_num, rfl, rfl, by omega, by omega, by omega, by omega, by omega, by omega, HP.out, HV.out, below_drewN hbel _⟩
            case measure => simp [intOf]; omega
        · have hv : addN (k + 1 - from_) (playS to (a + 1) (b) (s.data.toList.drop (k + 1))) = R := by
            have := HT.out
            rw [HD.out, play_go (by rw [HC.out.1, HC.out.2, Int.add_zero, HO.out]; simp; intro h; omega), HC.out.1, HC.out.2, Int.add_zero, addN_add] at this
            rw [← this, show k - from_ + 1 = k + 1 - from_ from by omega]
          have HV := Lib.hid hv; clear hv
          have m1' : decide (to ≤ maxI (a + 1) (b)) = false := by simpa using m1
          go_wp2_with fail
          go_quiet ((first | (go_at_call 75; exact calmCall (fun W => l1Most_any _ _ W)) | (go_at_call 76; exact calmCall (fun W => l1Abs_any _ (by omega) (by omega) W))))
          go_wp2
          go_roundw
          case rel => exact ⟨k + 1, _, _, by go_num, rfl, rfl, by omega, by omega, by omega, by omega, by omega, by omega, HP.out, HV.out, below_drewN hbel _⟩
          case measure => simp [intOf]; omega
      · have e : ((s[k].toNat : Int) == 97) = false := by rw [b97]; simpa using hc
        have hu : upA s[k] = 0 ∧ upB s[k] = 1 := by simp [upA, upB, hc]
        have HC := Lib.hid hu; clear hu hc
        rw [HC.out.1, HC.out.2, Int.add_zero] at HO
        by_cases m1 : to ≤ maxI (a) (b + 1)
        · by_cases m2 : 2 ≤ maxI (a - (b + 1)) (-(a - (b + 1)))
          · have hv : R = (a, b + 1, k - from_ + 1, true) := by
              rw [← HT.out, HD.out, play_end (by rw [HC.out.1, HC.out.2, Int.add_zero, HO.out]; simp [m1, m2]), HC.out.1, HC.out.2, Int.add_zero]; simp [addN]; omega
            have HV := Lib.hid hv; clear hv
            have t1 : IntKind.i64.wrap (a - (b + 1)) = a - (b + 1) := IntWalk.i64_in _ (by omega)
            go_wp2_with fail
            go_quiet ((first | (go_at_call 75; exact calmCall (fun W => l1Most_any _ _ W)) | (go_at_call 76; exact calmCall (fun W => l1Abs_any _ (by omega) (by omega) W))))
            clear t1
            go_wp2
            refine bodyPost_ret (v := .tuple #[.int .i64 (a), .int .i64 (b + 1), .int .i64 ((k : Int) + 1 - from_), .bool true]) (by simp [results, Tryz.results56, go_sem]) rfl ⟨by rw [HV.out]; simp [playV]; omega, below_drewN hbel _⟩
          · have hv : addN (k + 1 - from_) (playS to (a) (b + 1) (s.data.toList.drop (k + 1))) = R := by
              have := HT.out
              rw [HD.out, play_go (by rw [HC.out.1, HC.out.2, Int.add_zero, HO.out]; simp; intro _; omega), HC.out.1, HC.out.2, Int.add_zero, addN_add] at this
              rw [← this, show k - from_ + 1 = k + 1 - from_ from by omega]
            have HV := Lib.hid hv; clear hv
            have m2' : decide (2 ≤ maxI (a - (b + 1)) (-(a - (b + 1)))) = false := by simpa using m2
            have t1 : IntKind.i64.wrap (a - (b + 1)) = a - (b + 1) := IntWalk.i64_in _ (by omega)
            go_wp2_with fail
            go_quiet ((first | (go_at_call 75; exact calmCall (fun W => l1Most_any _ _ W)) | (go_at_call 76; exact calmCall (fun W => l1Abs_any _ (by omega) (by omega) W))))
            clear t1
            go_wp2
            go_roundw
            case rel => exact ⟨k + 1, _, _, by go_num, rfl, rfl, by omega, by omega, by omega, by omega, by omega, by omega, HP.out, HV.out, below_drewN hbel _⟩
            case measure => simp [intOf]; omega
        · have hv : addN (k + 1 - from_) (playS to (a) (b + 1) (s.data.toList.drop (k + 1))) = R := by
            have := HT.out
            rw [HD.out, play_go (by rw [HC.out.1, HC.out.2, Int.add_zero, HO.out]; simp; intro h; omega), HC.out.1, HC.out.2, Int.add_zero, addN_add] at this
            rw [← this, show k - from_ + 1 = k + 1 - from_ from by omega]
          have HV := Lib.hid hv; clear hv
          have m1' : decide (to ≤ maxI (a) (b + 1)) = false := by simpa using m1
          go_wp2_with fail
          go_quiet ((first | (go_at_call 75; exact calmCall (fun W => l1Most_any _ _ W)) | (go_at_call 76; exact calmCall (fun W => l1Abs_any _ (by omega) (by omega) W))))
          go_wp2
          go_roundw
          case rel => exact ⟨k + 1, _, _, by go_num, rfl, rfl, by omega, by omega, by omega, by omega, by omega, by omega, HP.out, HV.out, below_drewN hbel _⟩
          case measure => simp [intOf]; omega
    · obtain rfl : k = s.size := by omega
      have hv : R = (a, b, s.size - from_, false) := by rw [← HT.out, drop_all]; simp [playS, addN]
      have HV := Lib.hid hv; clear hv
      go_wp2
      refine bodyPost_ret (v := .tuple #[.int .i64 a, .int .i64 b, .int .i64 ((s.size : Int) - from_), .bool false]) (by simp [results, Tryz.results56, go_sem]) rfl ⟨by rw [HV.out]; simp [playV]; omega, hbel⟩

end Go.Proofs.YtgkkjlpfkoplhaaGreatDoor
