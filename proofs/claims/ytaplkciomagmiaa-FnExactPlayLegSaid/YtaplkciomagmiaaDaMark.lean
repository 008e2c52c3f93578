/-
  Slices of darts in the laws: marked, held.
-/
import Derived.Test.YtaplkciomagmiaaDaSliceEq
namespace Go.Proofs.Ytaplkciomagmiaa
open Go.RowKit
set_option linter.unusedVariables false
set_option linter.unusedSimpArgs false

def intsD (l : List Int) : List Value := l.map (Value.int .i64)
theorem intsD_len (l : List Int) : (intsD l).length = l.length := by simp [intsD]
theorem intsD_get (l : List Int) (j : Nat) (h : j < l.length) : (intsD l)[j]? = some (.int .i64 (l.getD j 0)) := by simp [intsD, h]
theorem marks_twoD (k0 : Int) (k : Nat) : intsD (marks k0 (k * 2)) ++ [.int .i64 (k0 + ((k * 2 : Nat) : Int)), .int .i64 (k0 + ((k * 2 : Nat) : Int) + 1)] = intsD (marks k0 ((k + 1) * 2)) := by
  rw [show (k + 1) * 2 = k * 2 + 1 + 1 from by omega]
  simp only [marks_succ, intsD, List.map_append, List.map_cons, List.map_nil, List.append_assoc, List.cons_append, List.nil_append]
  rw [show k0 + ((k * 2 + 1 : Nat) : Int) = k0 + ((k * 2 : Nat) : Int) + 1 from by omega]
theorem set_twoD (w : World) (b off : Nat) (vs : List Value) (x0 x1 : Value) :
    ((w.setCells b off vs).setCell ⟨b, off + vs.length, none⟩ x0).setCell ⟨b, off + vs.length + 1, none⟩ x1 = w.setCells b off (vs ++ [x0, x1]) := by
  rw [setCells_snoc b x0 vs off w]
  have e1 := setCells_snoc b x1 (vs ++ [x0]) off w
  simp only [List.length_append, List.length_cons, List.length_nil, Nat.zero_add, ← Nat.add_assoc] at e1
  rw [e1]
  simp

set_option maxHeartbeats 1600000 in
theorem markDartS_any (n : Nat) (a : Option Addr) (c : Nat) (k0 : Int) (w : World) (hn : (n : Int) ≤ 1000000000000) (h0 : 0 ≤ k0) (h1 : k0 ≤ 1000000000000) (h : Writable w a (n * 2)) :
    Calls Try.prog 25 #[.slice a n c, .int .i64 k0] w fun e w' => e = .returned (.int .i64 (k0 + ((n * 2 : Nat) : Int))) ∧ w' = writeAt w a (intsD (marks k0 (n * 2))) := by
  rcases h with h | ⟨b, off, rfl, hlt, hc⟩
  · obtain rfl : n = 0 := by omega
    have hw : writeAt w a (intsD (marks k0 (0 * 2))) = w := by
      match a with
      | none => rfl
      | some ⟨_, _, _⟩ => rfl
    rw [hw]; clear hw
    go_enter Try.func25, Try.ntmps25
    go_wp2_with fail
    refine wp_loop_rounds 1 ?_
    rw [rounds_succ]
    go_wp2
    go_ret
    exact ⟨ret_int (by simp), rfl⟩
  · have HC := Lib.hid hc; clear hc
    go_enter Try.func25, Try.ntmps25
    go_wp2_with fail
    go_loopw [1, 5] (fun q i wr => ∃ k : Nat, i = .int .i64 k ∧ k ≤ n ∧ q = .int .i64 (k0 + ((k * 2 : Nat) : Int)) ∧ wr = w.setCells b off (intsD (marks k0 (k * 2)))) (fun _ i _ => n - (intOf i).toNat)
    case atStart => exact ⟨0, rfl, Nat.zero_le _, by simp, rfl⟩
    case round =>
      obtain ⟨k, rfl, hk, rfl, hw⟩ := hrel
      by_cases hlt : k < n
      · have hsz := intsD_len (marks k0 (k * 2))
        rw [marks_len] at hsz
        have cellOf : ∀ d, d < 2 → ∃ v, wr.cell? ⟨b, off + k * 2 + d, none⟩ = some v := by
          intro d hd
          have hcell := World.cell?_setCells_out b (intsD (marks k0 (k * 2))) off w ⟨b, off + k * 2 + d, none⟩ (fun _ _ => .inr (by simp only; omega))
          obtain ⟨v, hv⟩ := Option.isSome_iff_exists.1 (HC.out (k * 2 + d) (by omega)).1
          rw [← Nat.add_assoc] at hv
          rw [← hw, hv] at hcell
          exact ⟨v, hcell⟩
        have frOf : ∀ d, d < 2 → wr.frozen? ⟨b, off + k * 2 + d, none⟩ = false := by
          intro d hd
          have hf := World.frozen?_setCells b (intsD (marks k0 (k * 2))) off w ⟨b, off + k * 2 + d, none⟩
          have h2 := (HC.out (k * 2 + d) (by omega)).2
          rw [← Nat.add_assoc] at h2
          rw [← hw, h2] at hf
          exact hf
        obtain ⟨v0, hv0⟩ := cellOf 0 (by omega)
        obtain ⟨v1, hv1⟩ := cellOf 1 (by omega)
        have f0 := frOf 0 (by omega)
        have f1 := frOf 1 (by omega)
        rw [Nat.add_zero] at hv0 f0
        clear cellOf frOf
        generalize hK : k0 + ((k * 2 : Nat) : Int) = K
        have hs := set_twoD w b off (intsD (marks k0 (k * 2))) (.int .i64 K) (.int .i64 (K + 1))
        rw [hsz, ← hw, ← hK, marks_twoD, hK] at hs
        have HS := Lib.hid hs; clear hs
        have HW := Lib.hid hw; clear hw hsz
        have hb : (k : Int) < (n : Int) := by omega
        have HK := Lib.hid hK; have hK0 : 0 ≤ K ∧ K ≤ 10000000000000 := by omega
        clear hK
        go_wp2
        go_roundw
        case rel => exact ⟨k + 1, by go_num, by omega, by have := HK.out; go_num, HS.out⟩
        case measure => simp [intOf]; omega
      · obtain rfl : k = n := by omega
        have HW := Lib.hid hw; clear hw
        go_wp2
        go_ret
        exact ⟨rfl, HW.out⟩

set_option maxHeartbeats 1600000 in
theorem heldDartS_any (n : Nat) (a : Option Addr) (c : Nat) (k0 : Int) (w : World) (hn : (n : Int) ≤ 1000000000000) (h0 : 0 ≤ k0) (h1 : k0 ≤ 1000000000000) (h : Reads w a (intsD (marks k0 (n * 2)))) :
    Calls Try.prog 26 #[.slice a n c, .int .i64 k0] w fun e w' => e = .returned (.int .i64 (k0 + ((n * 2 : Nat) : Int))) ∧ w' = w := by
  by_cases hz : n = 0
  · subst hz
    clear h
    go_enter Try.func26, Try.ntmps26
    go_wp2_with fail
    refine wp_loop_rounds 1 ?_
    rw [rounds_succ]
    go_wp2
    go_ret
    exact ⟨ret_int (by simp), rfl⟩
  · rcases h with h | ⟨b, off, rfl, _, hc⟩
    · have := congrArg List.length h; rw [intsD_len, marks_len] at this; simp at this; omega
    have HC := Lib.hid hc; clear hc hz
    go_enter Try.func26, Try.ntmps26
    go_wp2_with fail
    go_loop [1, 5] (fun q i => ∃ k : Nat, i = .int .i64 k ∧ k ≤ n ∧ q = .int .i64 (k0 + ((k * 2 : Nat) : Int))) (fun _ i => n - (intOf i).toNat)
    case atStart => exact ⟨0, rfl, Nat.zero_le _, by simp⟩
    case round =>
      obtain ⟨k, rfl, hk, rfl⟩ := hrel
      by_cases hlt : k < n
      · have cellOf : ∀ d : Nat, d < 2 → w.cell? ⟨b, off + k * 2 + d, none⟩ = some (.int .i64 (k0 + ((k * 2 : Nat) : Int) + (d : Int))) := by
          intro d hd
          have hcell := HC.out (k * 2 + d) (by rw [intsD_len, marks_len]; omega)
          rw [intsD_get _ _ (by rw [marks_len]; omega), marks_get _ _ _ (by omega)] at hcell
          rw [Nat.add_assoc, hcell]
          congr 2; omega
        have c0 := cellOf 0 (by omega)
        have c1 := cellOf 1 (by omega)
        rw [Nat.add_zero] at c0
        clear cellOf
        simp only [Int.natCast_zero, Int.add_zero, Int.natCast_one, Int.cast_ofNat_Int] at c0 c1
        generalize hK : k0 + ((k * 2 : Nat) : Int) = K at *
        have hb : (k : Int) < (n : Int) := by omega
        have HK := Lib.hid hK; have hK0 : 0 ≤ K ∧ K ≤ 10000000000000 := by omega
        clear hK
        have q0 : (K != K) = false := by simp
        have q1 : (K + 1 != K + 1) = false := by simp
        go_wp2
        go_round
        case rel => exact ⟨k + 1, by go_num, by omega, by have := HK.out; go_num⟩
        case measure => simp [intOf]; omega
      · obtain rfl : k = n := by omega
        go_wp2
        go_ret
        exact ⟨rfl, rfl⟩
end Go.Proofs.Ytaplkciomagmiaa
