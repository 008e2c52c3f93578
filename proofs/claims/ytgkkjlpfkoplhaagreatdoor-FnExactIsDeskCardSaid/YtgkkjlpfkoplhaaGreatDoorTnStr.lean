/-
  Tennis: points and games as texts: the model's looks.
-/
import Derived.Test.YtgkkjlpfkoplhaaGreatDoorTnPlayMath
import Derived.Lib.Strings
namespace Go.Proofs.YtgkkjlpfkoplhaaGreatDoor
open Go.RowKit

theorem drop_cons (s : ByteArray) (k : Nat) (h : k < s.size) : s.data.toList.drop k = s[k] :: s.data.toList.drop (k + 1) := by
  rw [List.drop_eq_getElem_cons (by simpa using h)]; rfl
theorem take_snoc (s : ByteArray) (k : Nat) (h : k < s.size) : s.data.toList.take (k + 1) = s.data.toList.take k ++ [s[k]] := by
  rw [List.take_succ_eq_append_getElem (by simpa using h)]; rfl
theorem drop_all (s : ByteArray) : s.data.toList.drop s.size = [] := List.drop_of_length_le (by simp)
theorem take_all (s : ByteArray) : s.data.toList.take s.size = s.data.toList := List.take_of_length_le (by simp)
theorem len_list (s : ByteArray) : s.data.toList.length = s.size := by simp
theorem byte_eq {c : UInt8} (n : Nat) (hn : n < 256) : ((c.toNat : Int) == (n : Int)) = decide (c = UInt8.ofNat n) := by
  rw [Bool.eq_iff_iff]; simp only [beq_iff_eq, decide_eq_true_eq]
  constructor
  · intro h
    have : c.toNat = n := by omega
    rw [← this]; simp
  · intro h; rw [h]; simp; omega
theorem b97 (c : UInt8) : ((c.toNat : Int) == 97) = decide (c = 97) := byte_eq 97 (by decide)
theorem b98 (c : UInt8) : ((c.toNat : Int) == 98) = decide (c = 98) := byte_eq 98 (by decide)
theorem n97 (c : UInt8) : ((c.toNat : Int) != 97) = !decide (c = 97) := by rw [bne, b97]
theorem n98 (c : UInt8) : ((c.toNat : Int) != 98) = !decide (c = 98) := by rw [bne, b98]
theorem cntA_bd (l : List UInt8) : 0 ≤ cntA l ∧ cntA l ≤ l.length := by
  unfold cntA; exact ⟨by omega, by have := List.count_le_length (a := (97 : UInt8)) (l := l); omega⟩
theorem cntA_snoc (l : List UInt8) (c : UInt8) : cntA (l ++ [c]) = cntA l + upA c := by
  unfold cntA upA; rw [List.count_append]; by_cases h : c = 97 <;> simp [h]

def ptsB (s : ByteArray) : Bool := decide (s.data.toList.length ≤ 300) && abL s.data.toList
set_option maxHeartbeats 400000 in
theorem tnPoints_any (s : ByteArray) (w : World) (hs : (s.size : Int) ≤ 1000000000000) :
    Calls Tryz.prog 32 #[.string s] w fun e w' => e = .returned (.bool (ptsB s)) ∧ w = w' := by
  by_cases hm : (300 : Int) < (s.size : Int)
  · have hp : ptsB s = false := by unfold ptsB; rw [len_list]; simp; intro h; omega
    rw [hp]; clear hp
    go_enter Tryz.func32, Tryz.ntmps32
    go_wp2
    go_ret
    exact ⟨rfl, rfl⟩
  · have hp : ptsB s = abL s.data.toList := by unfold ptsB; rw [len_list]; simp; intro _; omega
    rw [hp]; clear hp
    go_enter Tryz.func32, Tryz.ntmps32
    go_wp2
    go_loop [3] (fun i => ∃ k : Nat, k ≤ s.size ∧ i = .int .i64 k ∧ abL (s.data.toList.drop k) = abL s.data.toList) (fun i => s.size - (intOf i).toNat)
    case atStart => exact ⟨0, Nat.zero_le _, rfl, rfl⟩
    case round =>
      obtain ⟨k, hk, rfl, ht⟩ := hrel
      by_cases hlt : k < s.size
      · rw [drop_cons s k hlt] at ht
        by_cases hc : s[k] = 97
        · have e : ((s[k].toNat : Int) != 97) = false := by rw [n97]; simp [hc]
          have ht' : abL (s.data.toList.drop (k + 1)) = abL s.data.toList := by rw [← ht]; simp [abL, hc]
          have HT := Lib.hid ht'; clear ht ht' hc
          go_wp2
          go_round
          case rel => exact ⟨k + 1, by omega, by go_num, HT.out⟩
          case measure => simp [intOf]; omega
        · have e1 : ((s[k].toNat : Int) != 97) = true := by rw [n97]; simpa using hc
          by_cases hd : s[k] = 98
          · have e : ((s[k].toNat : Int) != 98) = false := by rw [n98]; simp [hd]
            have ht' : abL (s.data.toList.drop (k + 1)) = abL s.data.toList := by rw [← ht]; simp [abL, hd]
            have HT := Lib.hid ht'; clear ht ht' hc hd
            go_wp2
            go_round
            case rel => exact ⟨k + 1, by omega, by go_num, HT.out⟩
            case measure => simp [intOf]; omega
          · have e2 : ((s[k].toNat : Int) != 98) = true := by rw [n98]; simpa using hd
            have ht' : abL s.data.toList = false := by rw [← ht]; simp [abL, hc, hd]
            have HT := Lib.hid ht'; clear ht ht' hc hd
            go_wp2
            go_ret
            exact ⟨ret_bool HT.out.symm, rfl⟩
      · obtain rfl : k = s.size := by omega
        rw [drop_all] at ht
        have HT := Lib.hid ht; clear ht
        go_wp2
        go_ret
        exact ⟨ret_bool HT.out, rfl⟩

set_option maxHeartbeats 400000 in
theorem l1Most_any (a b : Int) (w : World) : Calls Tryz.prog 75 #[.int .i64 a, .int .i64 b] w fun e w' => e = .returned (.int .i64 (maxI a b)) ∧ w = w' := by
  by_cases h : b < a
  all_goals
    go_enter Tryz.func75, Tryz.ntmps75
    go_wp2
    go_ret
    exact ⟨ret_int (by unfold maxI; omega), rfl⟩
set_option maxHeartbeats 400000 in
theorem l1Abs_any (a : Int) (h0 : -1000000000000 ≤ a) (h1 : a ≤ 1000000000000) (w : World) : Calls Tryz.prog 76 #[.int .i64 a] w fun e w' => e = .returned (.int .i64 (maxI a (-a))) ∧ w = w' := by
  go_enter Tryz.func76, Tryz.ntmps76
  go_wp2_with fail
  refine (l1Most_any _ _ _).mono ?_; rintro e w1 ⟨rfl, rfl⟩
  go_wp2_with fail
  go_ret
  exact ⟨rfl, rfl⟩

set_option maxHeartbeats 800000 in
theorem tnOver_any (a b : Int) (w : World) (h0 : 0 ≤ a) (h1 : a ≤ 1000000000000) (h2 : 0 ≤ b) (h3 : b ≤ 1000000000000) :
    Calls Tryz.prog 53 #[.int .i64 a, .int .i64 b] w fun e w' => e = .returned (.bool (overB a b)) ∧ w = w' := by
  have ho : overB a b = ((decide (6 ≤ maxI a b) && decide (2 ≤ maxI (a - b) (-(a - b)))) || decide (maxI a b = 7)) := rfl
  have HO := Lib.hid ho; clear ho
  by_cases q1 : 6 ≤ maxI a b
  · by_cases q2 : 2 ≤ maxI (a - b) (-(a - b))
    · go_enter Tryz.func53, Tryz.ntmps53
      go_wp2_with fail
      refine (l1Most_any _ _ _).mono ?_; rintro e w1 ⟨rfl, rfl⟩
      go_wp2_with fail
      refine (l1Abs_any _ (by omega) (by omega) _).mono ?_; rintro e w1 ⟨rfl, rfl⟩
      go_wp2_with fail
      go_ret
      exact ⟨ret_bool (by rw [HO.out]; simp [q1, q2]), rfl⟩
    · have hd : overB a b = (maxI a b == 7) := by rw [HO.out]; simp [q1, q2]; rw [Bool.eq_iff_iff]; simp
      have HD := Lib.hid hd; clear hd
      go_enter Tryz.func53, Tryz.ntmps53
      go_wp2_with fail
      refine (l1Most_any _ _ _).mono ?_; rintro e w1 ⟨rfl, rfl⟩
      go_wp2_with fail
      refine (l1Abs_any _ (by omega) (by omega) _).mono ?_; rintro e w1 ⟨rfl, rfl⟩
      go_wp2_with fail
      refine (l1Most_any _ _ _).mono ?_; rintro e w1 ⟨rfl, rfl⟩
      go_wp2_with fail
      go_ret
      exact ⟨ret_bool (by rw [HD.out]; simp; omega), rfl⟩
  · have e7 : (maxI a b == 7) = false := by simp; omega
    go_enter Tryz.func53, Tryz.ntmps53
    go_wp2_with fail
    refine (l1Most_any _ _ _).mono ?_; rintro e w1 ⟨rfl, rfl⟩
    go_wp2_with fail
    refine (l1Most_any _ _ _).mono ?_; rintro e w1 ⟨rfl, rfl⟩
    go_wp2_with fail
    go_ret
    exact ⟨ret_bool (by rw [HO.out]; simp; omega), rfl⟩

end Go.Proofs.YtgkkjlpfkoplhaaGreatDoor
