/-
  The model reads numbers.
-/
import Derived.Test.YtbgdngfjeikheaaDoorLgTxI
namespace Go.Proofs.YtbgdngfjeikheaaDoor
open Go.RowKit
set_option linter.unusedVariables false

def digs : Int → List UInt8 → Int
  | n, [] => n
  | n, c :: cs => if 48 ≤ c.toNat ∧ c.toNat ≤ 57 then digs (10 * n + ((c.toNat : Int) - 48)) cs else -1
def readL (l : List UInt8) : Int :=
  if l.length = 0 ∨ 6 < l.length then -1 else if l.head? = some 48 ∧ 1 < l.length then -1 else digs 0 l

theorem rdrop_cons (s : ByteArray) (k : Nat) (h : k < s.size) : s.data.toList.drop k = s[k] :: s.data.toList.drop (k + 1) := by
  rw [List.drop_eq_getElem_cons (by simpa using h)]; rfl
theorem rdrop_all (s : ByteArray) : s.data.toList.drop s.size = [] := List.drop_of_length_le (by simp)
theorem rhead (s : ByteArray) (h : 0 < s.size) : s.data.toList.head? = some s[0] := by
  have := rdrop_cons s 0 h
  rw [List.drop_zero] at this; rw [this]; rfl
theorem rlen (s : ByteArray) : s.data.toList.length = s.size := by simp
theorem beq48 (c : UInt8) : ((c.toNat : Int) == 48) = decide (c = 48) := by
  rw [Bool.eq_iff_iff]; simp only [beq_iff_eq, decide_eq_true_eq]
  constructor
  · intro h
    have h2 : c.toNat = (48 : UInt8).toNat := by simp; omega
    exact UInt8.toNat_inj.1 h2
  · intro h; rw [h]; rfl
theorem rindex (s : ByteArray) (k : Nat) (h : k < s.size) (w : World) : (Instr.index 9 (.string s) (.int .i64 (k : Int))).run Tryd.prog w = .ok (.int .u8 ((s[k]'h).toNat : Int)) w := by
  rw [run_index_string w _ _ _ _ Tryd.underlying9]
  simp [h]

theorem pow6 {k : Nat} (h : k ≤ 6) : (10 : Int) ^ k ≤ 1000000 := by
  have : ∀ m, m ≤ 6 → (10 : Int) ^ m ≤ 1000000 := by decide
  exact this k h

set_option maxHeartbeats 1600000 in
set_option maxRecDepth 100000 in
theorem l1Read_any (s : ByteArray) (hz : (s.size : Int) ≤ 1000000000) (w : World) :
    Calls Tryd.prog 89 #[.string s] w fun e w' => e = .returned (.int .i64 (readL s.data.toList)) ∧ w = w' := by
  cases hin : inR (s.size : Int) 1 6
  · have hr : readL s.data.toList = -1 := by
      unfold readL; rw [rlen, if_pos (by unfold inR at hin; simp at hin; omega)]
    rw [hr]
    have HI := Lib.hid hin; clear hin hr
    go_enter Tryd.func89, Tryd.ntmps89
    go_wp2_with fail
    refine (l1In_any _ _ _ _).mono ?_; rintro e w' ⟨rfl, rfl⟩
    rw [HI.out]
    go_wp2_with fail
    go_ret
    exact ⟨rfl, rfl⟩
  · have h16 : 1 ≤ s.size ∧ s.size ≤ 6 := by unfold inR at hin; simp at hin; omega
    have HI := Lib.hid hin; clear hin
    have hix0 := rindex s 0 (by omega)
    rw [show ((0 : Nat) : Int) = 0 from rfl] at hix0
    have e48 := beq48 (s[0]'(by omega))
    have h6 : (s.size : Int) ≤ 6 := by omega
    have hh := rhead s (by omega)
    by_cases hc : s[0]'(by omega) = 48
    · rw [decide_eq_true hc] at e48
      by_cases h1 : (1 : Int) < s.size
      · have hr : readL s.data.toList = -1 := by
          unfold readL; rw [rlen, if_neg (by omega), if_pos ⟨by rw [hh, hc], by omega⟩]
        rw [hr]
        clear hr hh hc
        go_enter Tryd.func89, Tryd.ntmps89
        go_wp2_with fail
        refine (l1In_any _ _ _ _).mono ?_; rintro e w' ⟨rfl, rfl⟩
        rw [HI.out]
        go_wp2_with fail
        go_ret
        exact ⟨rfl, rfl⟩
      · have hr : readL s.data.toList = digs 0 s.data.toList := by
          unfold readL; rw [rlen, if_neg (by omega), if_neg (fun h => by omega)]
        generalize hR : readL s.data.toList = R at *
        have HR := Lib.hid (show digs 0 (s.data.toList.drop 0) = R by rw [List.drop_zero]; exact hr.symm)
        clear hr hh hc
        go_enter Tryd.func89, Tryd.ntmps89
        go_wp2_with fail
        refine (l1In_any _ _ _ _).mono ?_; rintro e w' ⟨rfl, rfl⟩
        rw [HI.out]
        go_wp2_with fail
        go_loop [3, 4] (fun q i => ∃ (k : Nat) (n : Int), k ≤ s.size ∧ i = .int .i64 k ∧ q = .int .i64 n ∧ 0 ≤ n ∧ n + 1 ≤ (10 : Int) ^ k ∧ digs n (s.data.toList.drop k) = R) (fun _ i => s.size - (intOf i).toNat)
        case atStart => exact ⟨0, 0, Nat.zero_le _, rfl, rfl, by omega, by decide, HR.out⟩
        case round =>
          obtain ⟨k, n, hk, rfl, rfl, hn0, hn1, hd⟩ := hrel
          have hq : (10 : Int) ^ k ≤ 1000000 := pow6 (by omega)
          have hps : (10 : Int) ^ (k + 1) = 10 * 10 ^ k := by rw [Int.pow_succ]; omega
          by_cases hlt : k < s.size
          · rw [rdrop_cons s k hlt] at hd
            have hix := rindex s k hlt
            have hu : (s[k].toNat : Int) < 256 := by have := s[k].toNat_lt; omega
            by_cases c1 : (s[k].toNat : Int) < 48
            · have hv : R = -1 := by rw [← hd, digs, if_neg (by omega)]
              have HV := Lib.hid hv; clear hv hd hps hq hn1
              go_wp2
              go_ret
              exact ⟨ret_int HV.out.symm, rfl⟩
            · by_cases c2 : 57 < (s[k].toNat : Int)
              · have hv : R = -1 := by rw [← hd, digs, if_neg (by omega)]
                have HV := Lib.hid hv; clear hv hd hps hq hn1
                go_wp2
                go_ret
                exact ⟨ret_int HV.out.symm, rfl⟩
              · have hv : digs (10 * n + ((s[k].toNat : Int) - 48)) (s.data.toList.drop (k + 1)) = R := by rw [← hd, digs, if_pos (by omega)]
                have hn1' : 10 * n + ((s[k].toNat : Int) - 48) + 1 ≤ (10 : Int) ^ (k + 1) := by rw [hps]; omega
                have hn2 : n ≤ 1000000 := by omega
                have HV := Lib.hid (And.intro hv hn1'); clear hv hd hps hq hn1 hn1'
                go_wp2
                go_round
                case rel => exact ⟨k + 1, _, by omega, by go_num, rfl, by omega, HV.out.2, HV.out.1⟩
                case measure => simp [intOf]; omega
          · obtain rfl : k = s.size := by omega
            rw [rdrop_all] at hd
            have HV := Lib.hid hd; clear hd hps hq hn1
            go_wp2
            go_ret
            exact ⟨ret_int HV.out, rfl⟩
    · rw [decide_eq_false hc] at e48
      have hr : readL s.data.toList = digs 0 s.data.toList := by
        unfold readL; rw [rlen, if_neg (by omega), if_neg (fun h => by rw [hh] at h; exact hc (by simpa using h.1))]
      generalize hR : readL s.data.toList = R at *
      have HR := Lib.hid (show digs 0 (s.data.toList.drop 0) = R by rw [List.drop_zero]; exact hr.symm)
      clear hr hh hc
      go_enter Tryd.func89, Tryd.ntmps89
      go_wp2_with fail
      refine (l1In_any _ _ _ _).mono ?_; rintro e w' ⟨rfl, rfl⟩
      rw [HI.out]
      go_wp2_with fail
      go_loop [3, 4] (fun q i => ∃ (k : Nat) (n : Int), k ≤ s.size ∧ i = .int .i64 k ∧ q = .int .i64 n ∧ 0 ≤ n ∧ n + 1 ≤ (10 : Int) ^ k ∧ digs n (s.data.toList.drop k) = R) (fun _ i => s.size - (intOf i).toNat)
      case atStart => exact ⟨0, 0, Nat.zero_le _, rfl, rfl, by omega, by decide, HR.out⟩
      case round =>
        obtain ⟨k, n, hk, rfl, rfl, hn0, hn1, hd⟩ := hrel
        have hq : (10 : Int) ^ k ≤ 1000000 := pow6 (by omega)
        have hps : (10 : Int) ^ (k + 1) = 10 * 10 ^ k := by rw [Int.pow_succ]; omega
        by_cases hlt : k < s.size
        · rw [rdrop_cons s k hlt] at hd
          have hix := rindex s k hlt
          have hu : (s[k].toNat : Int) < 256 := by have := s[k].toNat_lt; omega
          by_cases c1 : (s[k].toNat : Int) < 48
          · have hv : R = -1 := by rw [← hd, digs, if_neg (by omega)]
            have HV := Lib.hid hv; clear hv hd hps hq hn1
            go_wp2
            go_ret
            exact ⟨ret_int HV.out.symm, rfl⟩
          · by_cases c2 : 57 < (s[k].toNat : Int)
            · have hv : R = -1 := by rw [← hd, digs, if_neg (by omega)]
              have HV := Lib.hid hv; clear hv hd hps hq hn1
              go_wp2
              go_ret
              exact ⟨ret_int HV.out.symm, rfl⟩
            · have hv : digs (10 * n + ((s[k].toNat : Int) - 48)) (s.data.toList.drop (k + 1)) = R := by rw [← hd, digs, if_pos (by omega)]
              have hn1' : 10 * n + ((s[k].toNat : Int) - 48) + 1 ≤ (10 : Int) ^ (k + 1) := by rw [hps]; omega
              have hn2 : n ≤ 1000000 := by omega
              have HV := Lib.hid (And.intro hv hn1'); clear hv hd hps hq hn1 hn1'
              go_wp2
              go_round
              case rel => exact ⟨k + 1, _, by omega, by go_num, rfl, by omega, HV.out.2, HV.out.1⟩
              case measure => simp [intOf]; omega
        · obtain rfl : k = s.size := by omega
          rw [rdrop_all] at hd
          have HV := Lib.hid hd; clear hd hps hq hn1
          go_wp2
          go_ret
          exact ⟨ret_int HV.out, rfl⟩

end Go.Proofs.YtbgdngfjeikheaaDoor
