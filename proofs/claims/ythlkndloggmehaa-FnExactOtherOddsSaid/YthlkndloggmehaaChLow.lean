/-
  Chances: lowest terms: the model and the program.
-/
import Derived.Test.YthlkndloggmehaaChSpec
namespace Go.Proofs.Ythlkndloggmehaa
open Go.RowKit
set_option linter.unusedVariables false
set_option linter.unusedSimpArgs false

/-- What the machine reckons with a greatest divisor. -/
structure DivD (n d g : Nat) : Prop where
  z : ((g : Int) == 0) = false
  a1 : Int.tdiv (n : Int) (g : Int) = (lowA n d : Nat)
  a2 : (n : Int) / (g : Int) = (lowA n d : Nat)
  b1 : Int.tdiv (d : Int) (g : Int) = (lowB n d : Nat)
  b2 : (d : Int) / (g : Int) = (lowB n d : Nat)
  la : lowA n d ≤ n
  lb : lowB n d ≤ d
  g1 : 1 ≤ g
  gd : g ≤ d
theorem divD {n d : Nat} (hd : 0 < d) : DivD n d (Nat.gcd n d) := by
  have hg : 0 < Nat.gcd n d := Nat.gcd_pos_of_pos_right n hd
  exact ⟨by simp; omega, by rw [Int.tdiv_eq_ediv_of_nonneg (by omega)]; unfold lowA; push_cast; rfl, by unfold lowA; push_cast; rfl, by rw [Int.tdiv_eq_ediv_of_nonneg (by omega)]; unfold lowB; push_cast; rfl, by unfold lowB; push_cast; rfl, Nat.div_le_self _ _, Nat.div_le_self _ _, hg, Nat.gcd_le_right n hd⟩

set_option maxHeartbeats 1600000 in
theorem commonDivisor_any (n d : Nat) (hn : n ≤ 1000000000000) (hd : d ≤ 1000000000000) (w : World) :
    Calls Try.prog 125 #[.int .i64 n, .int .i64 d] w fun e w' => e = .returned (.int .i64 (Nat.gcd n d : Nat)) ∧ Below w.heap.size w w' := by
  go_enter Try.func125, Try.ntmps125
  go_wp2_with fail
  go_loopw [0, 1] (fun q i wr2 => ∃ (e p : Nat), q = .int .i64 e ∧ i = .int .i64 p ∧ e ≤ 1000000000000 ∧ p ≤ 1000000000000 ∧ Hid (Nat.gcd e p = Nat.gcd n d) ∧ Hid (Below w.heap.size w wr2)) (fun _ i _ => (intOf i).toNat)
  case atStart => exact ⟨n, d, rfl, rfl, hn, hd, Lib.hid rfl, Lib.hid (Below.refl _ _)⟩
  case round =>
    obtain ⟨e, p, rfl, rfl, he, hp, hE, hB2⟩ := hrel
    by_cases hp0 : 0 < p
    · have q1 : (0 : Int) < (p : Int) := by omega
      have q2 : ((p : Int) == 0) = false := by simp; omega
      have q3 : ((e : Int)).tmod (p : Int) = ((e % p : Nat) : Int) := by rw [Int.tmod_eq_emod_of_nonneg (by omega)]; push_cast; rfl
      have hm := Nat.mod_lt e hp0
      have hgc : Nat.gcd p (e % p) = Nat.gcd n d := by rw [← hE.out, Nat.gcd_comm e p, Nat.gcd_rec p e, Nat.gcd_comm]
      have HGC := Lib.hid hgc; clear hgc hE
      generalize e % p = r at *
      have q4 : IntKind.i64.wrap (r : Int) = (r : Int) := IntWalk.i64_in _ (by omega)
      go_wp2_with fail
      go_quiet (fail)
      go_wp2_with fail
      go_roundw
      case rel => exact ⟨p, r, rfl, rfl, by omega, by omega, HGC, Lib.hid (below_drewN hB2.out _)⟩
      case measure => simp [intOf]; omega
    · obtain rfl : p = 0 := by omega
      have he2 : e = Nat.gcd n d := by rw [← hE.out, Nat.gcd_zero_right]
      have HE2 := Lib.hid he2; clear he2 hE
      have q1 : ¬ (0 : Int) < ((0 : Nat) : Int) := by omega
      have q2 : ¬ (0 : Int) < (0 : Int) := by omega
      go_wp2_with fail
      go_ret
      exact ⟨ret_int (by rw [HE2.out]), hB2.out⟩

set_option maxHeartbeats 1600000 in
theorem lowestTerms_any (n d : Nat) (h0 : 0 < d) (hn : n ≤ 1000000000000) (hd : d ≤ 1000000000000) (w : World) :
    Calls Try.prog 92 #[.int .i64 n, .int .i64 d] w fun e w' => e = .returned (.tuple #[.int .i64 (lowA n d : Nat), .int .i64 (lowB n d : Nat), .bool true]) ∧ Below w.heap.size w w' := by
  have HC := Lib.hid (fun w => commonDivisor_any n d hn hd w)
  obtain ⟨z, a1, a2, b1, b2, la, lb, g1, gd⟩ := divD (n := n) h0
  generalize lowA n d = x at *
  generalize lowB n d = y at *
  generalize Nat.gcd n d = g at *
  have wx : IntKind.i64.wrap (x : Int) = (x : Int) := IntWalk.i64_in _ (by omega)
  have wy : IntKind.i64.wrap (y : Int) = (y : Int) := IntWalk.i64_in _ (by omega)
  go_enter Try.func92, Try.ntmps92
  go_wp2_with fail
  refine (HC.out _).mono ?_; rintro e w1 ⟨rfl, b1x⟩
  have HB := Lib.hid b1x; clear b1x
  go_wp2_with fail
  go_quiet (fail)
  go_wp2
  refine bodyPost_ret (v := .tuple #[.int .i64 x, .int .i64 y, .bool true]) (by simp [results, Try.results92, go_sem]) rfl ⟨rfl, below_drewN HB.out _⟩

set_option maxHeartbeats 1600000 in
theorem chLow_any (n d : Nat) (h0 : 0 < d) (hn : n ≤ 1000000000000) (hd : d ≤ 1000000000000) (w : World) :
    Calls Try.prog 87 #[.int .i64 n, .int .i64 d] w fun e w' => e = .returned (.tuple #[.int .i64 (lowA n d : Nat), .int .i64 (lowB n d : Nat)]) ∧ Below w.heap.size w w' := by
  have hD := Lib.hid (divD (n := n) h0)
  go_enter Try.func87, Try.ntmps87
  go_wp2_with fail
  go_loopw [6, 7] (fun q i wr2 => ∃ (e p : Nat), q = .int .i64 e ∧ i = .int .i64 p ∧ e ≤ 1000000000000 ∧ p ≤ 1000000000000 ∧ Hid (Nat.gcd e p = Nat.gcd n d) ∧ Hid (Below w.heap.size w wr2)) (fun _ i _ => (intOf i).toNat)
  case atStart => exact ⟨n, d, rfl, rfl, hn, hd, Lib.hid rfl, Lib.hid (Below.refl _ _)⟩
  case round =>
    obtain ⟨e, p, rfl, rfl, he, hp, hE, hB2⟩ := hrel
    by_cases hp0 : 0 < p
    · have q1 : (0 : Int) < (p : Int) := by omega
      have q2 : ((p : Int) == 0) = false := by simp; omega
      have q3 : ((e : Int)).tmod (p : Int) = ((e % p : Nat) : Int) := by rw [Int.tmod_eq_emod_of_nonneg (by omega)]; push_cast; rfl
      have hm := Nat.mod_lt e hp0
      have hgc : Nat.gcd p (e % p) = Nat.gcd n d := by rw [← hE.out, Nat.gcd_comm e p, Nat.gcd_rec p e, Nat.gcd_comm]
      have HGC := Lib.hid hgc; clear hgc hE
      generalize e % p = r at *
      have q4 : IntKind.i64.wrap (r : Int) = (r : Int) := IntWalk.i64_in _ (by omega)
      go_wp2_with fail
      go_quiet (fail)
      go_wp2_with fail
      go_roundw
      case rel => exact ⟨p, r, rfl, rfl, by omega, by omega, HGC, Lib.hid (below_drewN hB2.out _)⟩
      case measure => simp [intOf]; omega
    · obtain rfl : p = 0 := by omega
      have he2 : e = Nat.gcd n d := by rw [← hE.out, Nat.gcd_zero_right]
      obtain ⟨z, a1, a2, b1, b2, la, lb, g1, gd⟩ := hD.out
      rw [← he2] at z a1 a2 b1 b2 g1 gd
      clear he2 hE hD
      generalize hx : lowA n d = x at *
      generalize hy : lowB n d = y at *
      have HXY := Lib.hid (And.intro hx hy); clear hx hy
      have wx : IntKind.i64.wrap (x : Int) = (x : Int) := IntWalk.i64_in _ (by omega)
      have wy : IntKind.i64.wrap (y : Int) = (y : Int) := IntWalk.i64_in _ (by omega)
      have q1 : ¬ (0 : Int) < ((0 : Nat) : Int) := by omega
      have q2 : ¬ (0 : Int) < (0 : Int) := by omega
      go_wp2_with fail
      go_quiet (fail)
      go_wp2
      refine bodyPost_ret (v := .tuple #[.int .i64 x, .int .i64 y]) (by simp [results, Try.results87, go_sem]) rfl ⟨by rw [HXY.out.1, HXY.out.2], below_drewN hB2.out _⟩
end Go.Proofs.Ythlkndloggmehaa
