/-
  The greatest divisor of two numbers: the program's.
-/
import Derived.Test.YthlkndloggmehaaGoLaw
import Derived.IntWalk
import Derived.WalkSmall
namespace Go.Proofs.Ythlkndloggmehaa
open Go.RowKit
set_option linter.unusedVariables false
set_option linter.unusedSimpArgs false

set_option maxHeartbeats 1600000 in
theorem commonDivisor_any (n d : Nat) (hn : n ≤ 1000000000000) (hd : d ≤ 1000000000000) (w : World) :
    Calls Try.prog 125 #[.int .i64 n, .int .i64 d] w fun e w' => e = .returned (.int .i64 (Nat.gcd n d : Nat)) ∧ Below w.heap.size w w' := by
  go_enter Try.func125, Try.ntmps125
  go_wp2_with fail
  go_loopw [0, 1] (fun q i wr2 => ∃ (e p : Nat), q = .int .i64 e ∧ i = .int .i64 p ∧ e ≤ 1000000000000 ∧ p ≤ 1000000000000 ∧ Hid (Nat.gcd e p = Nat.gcd n d) ∧ Hid (Below w.heap.size w wr2)) (fun _ i _ => (intOf i).toNat)
  case atStart => exact ⟨n, d, rfl, rfl, hn, hd, Lib.hid rfl, Lib.hid (Below.refl _ _)⟩
  case round =>
    obtain ⟨e, p, rfl, rfl, he, hp, hE, hB2⟩ := hrel
    by_cases hp0 : 0 < p
    · have q1 : (0 : Int) < (p : Int) := by omega
      have q2 : ((p : Int) == 0) = false := by simp; omega
      have q3 : ((e : Int)).tmod (p : Int) = ((e % p : Nat) : Int) := by rw [Int.tmod_eq_emod_of_nonneg (by omega)]; push_cast; rfl
      have hm := Nat.mod_lt e hp0
      have hgc : Nat.gcd p (e % p) = Nat.gcd n d := by rw [← hE.out, Nat.gcd_comm e p, Nat.gcd_rec p e, Nat.gcd_comm]
      have HGC := Lib.hid hgc; clear hgc hE
      generalize e % p = r at *
      have q4 : IntKind.i64.wrap (r : Int) = (r : Int) := IntWalk.i64_in _ (by omega)
      go_wp2_with fail
      go_quiet (fail)
      go_wp2_with fail
      go_roundw
      case rel => exact ⟨p, r, rfl, rfl, by omega, by omega, HGC, Lib.hid (below_drewN hB2.out _)⟩
      case measure => simp [intOf]; omega
    · obtain rfl : p = 0 := by omega
      have he2 : e = Nat.gcd n d := by rw [← hE.out, Nat.gcd_zero_right]
      have HE2 := Lib.hid he2; clear he2 hE
      have q1 : ¬ (0 : Int) < ((0 : Nat) : Int) := by omega
      have q2 : ¬ (0 : Int) < (0 : Int) := by omega
      go_wp2_with fail
      go_ret
      exact ⟨ret_int (by rw [HE2.out]), hB2.out⟩

end Go.Proofs.Ythlkndloggmehaa
