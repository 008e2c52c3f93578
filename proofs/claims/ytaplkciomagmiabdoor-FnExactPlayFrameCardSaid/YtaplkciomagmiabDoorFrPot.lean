/-
  Frames: the model pots a ball.
-/
import Derived.Test.YtaplkciomagmiabDoorFrStep
import Derived.Lib.Strings
namespace Go.Proofs.YtaplkciomagmiabDoor
open Go.RowKit

theorem drop_cons (s : ByteArray) (k : Nat) (h : k < s.size) : s.data.toList.drop k = s[k] :: s.data.toList.drop (k + 1) := by
  rw [List.drop_eq_getElem_cons (by simpa using h)]; rfl
theorem take_snoc (s : ByteArray) (k : Nat) (h : k < s.size) : s.data.toList.take (k + 1) = s.data.toList.take k ++ [s[k]] := by
  rw [List.take_succ_eq_append_getElem (by simpa using h)]; rfl
theorem drop_all (s : ByteArray) : s.data.toList.drop s.size = [] := List.drop_of_length_le (by simp)
theorem take_all (s : ByteArray) : s.data.toList.take s.size = s.data.toList := List.take_of_length_le (by simp)
theorem byte_beq (a c : UInt8) : ((a.toNat : Int) == (c.toNat : Int)) = (a == c) := by
  rw [Bool.eq_iff_iff]; simp only [beq_iff_eq]
  constructor
  · intro h
    have : a.toNat = c.toNat := by omega
    exact UInt8.toNat_inj.1 this
  · intro h; rw [h]
theorem contains_snoc (l : List UInt8) (a c : UInt8) : (l ++ [a]).contains c = (l.contains c || (a == c)) := by
  rw [Bool.eq_iff_iff]
  simp only [List.contains_iff_mem, List.mem_append, List.mem_singleton, Bool.or_eq_true, beq_iff_eq]
  exact or_congr Iff.rfl eq_comm
theorem next_size (n : Nat) : ((nextS n).size : Int) ≤ 6 := by
  have : (nextS n).size = (nextL n).length := by simp [nextS, ByteArray.size]
  rw [this]; have := next_len_bd n; omega
theorem next_list (n : Nat) : (nextS n).data.toList = nextL n := by simp [nextS]

/-- What the model's frPot hands back. -/
def potV (n : Nat) (c : UInt8) : Value := if c ∈ nextL n then .tuple #[frV (n - 1), .bool true] else .tuple #[frV n, .bool false]

set_option maxHeartbeats 1600000 in
theorem pot_none (r : Int) (cc : Bool) (l : Int) (c : UInt8) (s : ByteArray) (hsz : (s.size : Int) ≤ 6) (hN : ∀ w : World, Calls Tryd.prog 32 #[frW r cc l] w fun e w' => e = .returned (.string s) ∧ Below w.heap.size w w') (hm : s.data.toList.contains c = false) (w : World) :
    Calls Tryd.prog 33 #[frW r cc l, .int .u8 c.toNat] w fun e w' => e = .returned (.tuple #[frW r cc l, .bool false]) ∧ Below w.heap.size w w' := by
  have HN := Lib.hid hN; clear hN
  have HM := Lib.hid hm; clear hm
  go_enter Tryd.func33, Tryd.ntmps33
  go_wp2_with fail
  refine (HN.out _).mono ?_; rintro e w1 ⟨rfl, b1⟩
  obtain ⟨tA, tB⟩ := two_new b1
  obtain ⟨y0, y1, y2, x0, x1, x2⟩ := tA.cells
  obtain ⟨z0, z1, z2, v0, v1, v2⟩ := tB.cells
  have HA := Lib.hid tA; clear tA
  have HB := Lib.hid tB; clear tB
  have HBL := Lib.hid b1; clear b1
  go_wp2_with fail
  go_loop [6, 8] (fun m i => ∃ k : Nat, k ≤ s.size ∧ i = .int .i64 k ∧ m = .bool ((s.data.toList.take k).contains c)) (fun _ i => s.size - (intOf i).toNat)
  case atStart => exact ⟨0, Nat.zero_le _, rfl, rfl⟩
  case round =>
    obtain ⟨k, hk, rfl, rfl⟩ := hrel
    by_cases hlt : k < s.size
    · have hts := take_snoc s k hlt
      cases hb : (s.data.toList.take k).contains c
      · have e1 : ((s[k].toNat : Int) == (c.toNat : Int)) = (s[k] == c) := byte_beq _ _
        have hn : (s.data.toList.take (k + 1)).contains c = (s[k] == c) := by rw [hts, contains_snoc, hb]; rfl
        have HH := Lib.hid hn; clear hn hts hb
        go_wp2
        go_round
        case rel => exact ⟨k + 1, by omega, by go_num, by rw [HH.out]⟩
        case measure => simp [intOf]; omega
      · have hn : (s.data.toList.take (k + 1)).contains c = true := by rw [hts, contains_snoc, hb]; rfl
        have HH := Lib.hid hn; clear hn hts hb
        go_wp2
        go_round
        case rel => exact ⟨k + 1, by omega, by go_num, by rw [HH.out]⟩
        case measure => simp [intOf]; omega
    · obtain rfl : k = s.size := by omega
      rw [take_all, HM.out]
      go_wp2
      obtain ⟨p0, p1, p2⟩ := HB.out.put (.int .i64 r) (.bool cc) (.int .i64 l)
      refine bodyPost_ret (v := .tuple #[frW r cc l, .bool false]) (by simp [results, Tryd.results33, go_sem, p0, p1, p2]) rfl ⟨rfl, ?_⟩
      have b1 := HBL.out
      (repeat (first | exact Below.refl _ _ | exact ‹Below _ _ _› | refine Below.drew ?_ | refine Below.alloc ?_ (by first | omega | (simp; done) | (simp; omega)) _ | refine Below.setCell ?_ (by first | omega | (simp; done) | (simp; omega)) _ | refine Below.trans ?_ (Below.mono ‹Below _ _ _› (by first | omega | (simp; done) | (simp; omega)))))

set_option maxHeartbeats 1600000 in
theorem pot_last (l : Int) (c : UInt8) (s : ByteArray) (hsz : (s.size : Int) ≤ 6) (hN : ∀ w : World, Calls Tryd.prog 32 #[frW 0 false l] w fun e w' => e = .returned (.string s) ∧ Below w.heap.size w w') (hm : s.data.toList.contains c = true) (h0 : 0 ≤ l) (h8 : l ≤ 8) (w : World) :
    Calls Tryd.prog 33 #[frW 0 false l, .int .u8 c.toNat] w fun e w' => e = .returned (.tuple #[frW 0 false (l + 1), .bool true]) ∧ Below w.heap.size w w' := by
  have HN := Lib.hid hN; clear hN
  have HM := Lib.hid hm; clear hm
  go_enter Tryd.func33, Tryd.ntmps33
  go_wp2_with fail
  refine (HN.out _).mono ?_; rintro e w1 ⟨rfl, b1⟩
  obtain ⟨tA, tB⟩ := two_new b1
  obtain ⟨y0, y1, y2, x0, x1, x2⟩ := tA.cells
  obtain ⟨z0, z1, z2, v0, v1, v2⟩ := tB.cells
  have HA := Lib.hid tA; clear tA
  have HB := Lib.hid tB; clear tB
  have HBL := Lib.hid b1; clear b1
  go_wp2_with fail
  go_loop [6, 8] (fun m i => ∃ k : Nat, k ≤ s.size ∧ i = .int .i64 k ∧ m = .bool ((s.data.toList.take k).contains c)) (fun _ i => s.size - (intOf i).toNat)
  case atStart => exact ⟨0, Nat.zero_le _, rfl, rfl⟩
  case round =>
    obtain ⟨k, hk, rfl, rfl⟩ := hrel
    by_cases hlt : k < s.size
    · have hts := take_snoc s k hlt
      cases hb : (s.data.toList.take k).contains c
      · have e1 : ((s[k].toNat : Int) == (c.toNat : Int)) = (s[k] == c) := byte_beq _ _
        have hn : (s.data.toList.take (k + 1)).contains c = (s[k] == c) := by rw [hts, contains_snoc, hb]; rfl
        have HH := Lib.hid hn; clear hn hts hb
        go_wp2
        go_round
        case rel => exact ⟨k + 1, by omega, by go_num, by rw [HH.out]⟩
        case measure => simp [intOf]; omega
      · have hn : (s.data.toList.take (k + 1)).contains c = true := by rw [hts, contains_snoc, hb]; rfl
        have HH := Lib.hid hn; clear hn hts hb
        go_wp2
        go_round
        case rel => exact ⟨k + 1, by omega, by go_num, by rw [HH.out]⟩
        case measure => simp [intOf]; omega
    · obtain rfl : k = s.size := by omega
      rw [take_all, HM.out]
      obtain ⟨q0, q1, q2, -, -, -⟩ := (HA.out.least (l + 1)).cells
      go_wp2
      obtain ⟨p0, p1, p2⟩ := (HB.out.other (h := w.heap.size) (o := 2) (by omega) (.int .i64 (l + 1))).put (.int .i64 0) (.bool false) (.int .i64 (l + 1))
      refine bodyPost_ret (v := .tuple #[frW 0 false (l + 1), .bool true]) (by simp [results, Tryd.results33, go_sem, p0, p1, p2]) rfl ⟨rfl, ?_⟩
      have b1 := HBL.out
      (repeat (first | exact Below.refl _ _ | exact ‹Below _ _ _› | refine Below.drew ?_ | refine Below.alloc ?_ (by first | omega | (simp; done) | (simp; omega)) _ | refine Below.setCell ?_ (by first | omega | (simp; done) | (simp; omega)) _ | refine Below.trans ?_ (Below.mono ‹Below _ _ _› (by first | omega | (simp; done) | (simp; omega)))))

set_option maxHeartbeats 1600000 in
theorem pot_col (r : Nat) (c : UInt8) (s : ByteArray) (hsz : (s.size : Int) ≤ 6) (hN : ∀ w : World, Calls Tryd.prog 32 #[frW r true 2] w fun e w' => e = .returned (.string s) ∧ Below w.heap.size w w') (hm : s.data.toList.contains c = true) (w : World) :
    Calls Tryd.prog 33 #[frW r true 2, .int .u8 c.toNat] w fun e w' => e = .returned (.tuple #[frW r false 2, .bool true]) ∧ Below w.heap.size w w' := by
  have HN := Lib.hid hN; clear hN
  have HM := Lib.hid hm; clear hm
  go_enter Tryd.func33, Tryd.ntmps33
  go_wp2_with fail
  refine (HN.out _).mono ?_; rintro e w1 ⟨rfl, b1⟩
  obtain ⟨tA, tB⟩ := two_new b1
  obtain ⟨y0, y1, y2, x0, x1, x2⟩ := tA.cells
  obtain ⟨z0, z1, z2, v0, v1, v2⟩ := tB.cells
  have HA := Lib.hid tA; clear tA
  have HB := Lib.hid tB; clear tB
  have HBL := Lib.hid b1; clear b1
  go_wp2_with fail
  go_loop [6, 8] (fun m i => ∃ k : Nat, k ≤ s.size ∧ i = .int .i64 k ∧ m = .bool ((s.data.toList.take k).contains c)) (fun _ i => s.size - (intOf i).toNat)
  case atStart => exact ⟨0, Nat.zero_le _, rfl, rfl⟩
  case round =>
    obtain ⟨k, hk, rfl, rfl⟩ := hrel
    by_cases hlt : k < s.size
    · have hts := take_snoc s k hlt
      cases hb : (s.data.toList.take k).contains c
      · have e1 : ((s[k].toNat : Int) == (c.toNat : Int)) = (s[k] == c) := byte_beq _ _
        have hn : (s.data.toList.take (k + 1)).contains c = (s[k] == c) := by rw [hts, contains_snoc, hb]; rfl
        have HH := Lib.hid hn; clear hn hts hb
        go_wp2
        go_round
        case rel => exact ⟨k + 1, by omega, by go_num, by rw [HH.out]⟩
        case measure => simp [intOf]; omega
      · have hn : (s.data.toList.take (k + 1)).contains c = true := by rw [hts, contains_snoc, hb]; rfl
        have HH := Lib.hid hn; clear hn hts hb
        go_wp2
        go_round
        case rel => exact ⟨k + 1, by omega, by go_num, by rw [HH.out]⟩
        case measure => simp [intOf]; omega
    · obtain rfl : k = s.size := by omega
      rw [take_all, HM.out]
      obtain ⟨q0, q1, q2, -, -, -⟩ := (HA.out.col false).cells
      go_wp2
      obtain ⟨p0, p1, p2⟩ := (HB.out.other (h := w.heap.size) (o := 1) (by omega) (.bool false)).put (.int .i64 r) (.bool false) (.int .i64 2)
      refine bodyPost_ret (v := .tuple #[frW r false 2, .bool true]) (by simp [results, Tryd.results33, go_sem, p0, p1, p2]) rfl ⟨rfl, ?_⟩
      have b1 := HBL.out
      (repeat (first | exact Below.refl _ _ | exact ‹Below _ _ _› | refine Below.drew ?_ | refine Below.alloc ?_ (by first | omega | (simp; done) | (simp; omega)) _ | refine Below.setCell ?_ (by first | omega | (simp; done) | (simp; omega)) _ | refine Below.trans ?_ (Below.mono ‹Below _ _ _› (by first | omega | (simp; done) | (simp; omega)))))

set_option maxHeartbeats 1600000 in
theorem pot_red (r : Nat) (c : UInt8) (s : ByteArray) (hsz : (s.size : Int) ≤ 6) (hN : ∀ w : World, Calls Tryd.prog 32 #[frW (r + 1) false 2] w fun e w' => e = .returned (.string s) ∧ Below w.heap.size w w') (hm : s.data.toList.contains c = true) (hr : (r : Int) ≤ 100) (w : World) :
    Calls Tryd.prog 33 #[frW (r + 1) false 2, .int .u8 c.toNat] w fun e w' => e = .returned (.tuple #[frW r true 2, .bool true]) ∧ Below w.heap.size w w' := by
  have HN := Lib.hid hN; clear hN
  have HM := Lib.hid hm; clear hm
  go_enter Tryd.func33, Tryd.ntmps33
  go_wp2_with fail
  refine (HN.out _).mono ?_; rintro e w1 ⟨rfl, b1⟩
  obtain ⟨tA, tB⟩ := two_new b1
  obtain ⟨y0, y1, y2, x0, x1, x2⟩ := tA.cells
  obtain ⟨z0, z1, z2, v0, v1, v2⟩ := tB.cells
  have HA := Lib.hid tA; clear tA
  have HB := Lib.hid tB; clear tB
  have HBL := Lib.hid b1; clear b1
  go_wp2_with fail
  go_loop [6, 8] (fun m i => ∃ k : Nat, k ≤ s.size ∧ i = .int .i64 k ∧ m = .bool ((s.data.toList.take k).contains c)) (fun _ i => s.size - (intOf i).toNat)
  case atStart => exact ⟨0, Nat.zero_le _, rfl, rfl⟩
  case round =>
    obtain ⟨k, hk, rfl, rfl⟩ := hrel
    by_cases hlt : k < s.size
    · have hts := take_snoc s k hlt
      cases hb : (s.data.toList.take k).contains c
      · have e1 : ((s[k].toNat : Int) == (c.toNat : Int)) = (s[k] == c) := byte_beq _ _
        have hn : (s.data.toList.take (k + 1)).contains c = (s[k] == c) := by rw [hts, contains_snoc, hb]; rfl
        have HH := Lib.hid hn; clear hn hts hb
        go_wp2
        go_round
        case rel => exact ⟨k + 1, by omega, by go_num, by rw [HH.out]⟩
        case measure => simp [intOf]; omega
      · have hn : (s.data.toList.take (k + 1)).contains c = true := by rw [hts, contains_snoc, hb]; rfl
        have HH := Lib.hid hn; clear hn hts hb
        go_wp2
        go_round
        case rel => exact ⟨k + 1, by omega, by go_num, by rw [HH.out]⟩
        case measure => simp [intOf]; omega
    · obtain rfl : k = s.size := by omega
      rw [take_all, HM.out]
      have hp : (0 : Int) < (r : Int) + 1 := by omega
      obtain ⟨d0, d1, d2, d3, d4, d5⟩ := (HA.out.reds r).cells
      obtain ⟨q0, q1, q2, -, -, -⟩ := ((HA.out.reds r).col true).cells
      go_wp2
      obtain ⟨p0, p1, p2⟩ := ((HB.out.other (h := w.heap.size) (o := 0) (by omega) (.int .i64 r)).other (h := w.heap.size) (o := 1) (by omega) (.bool true)).put (.int .i64 r) (.bool true) (.int .i64 2)
      refine bodyPost_ret (v := .tuple #[frW r true 2, .bool true]) (by simp [results, Tryd.results33, go_sem, p0, p1, p2]) rfl ⟨rfl, ?_⟩
      have b1 := HBL.out
      (repeat (first | exact Below.refl _ _ | exact ‹Below _ _ _› | refine Below.drew ?_ | refine Below.alloc ?_ (by first | omega | (simp; done) | (simp; omega)) _ | refine Below.setCell ?_ (by first | omega | (simp; done) | (simp; omega)) _ | refine Below.trans ?_ (Below.mono ‹Below _ _ _› (by first | omega | (simp; done) | (simp; omega)))))

theorem frPot_no (n : Nat) (c : UInt8) (hc : c ∉ nextL n) (w : World) :
    Calls Tryd.prog 33 #[frV n, .int .u8 c.toNat] w fun e w' => e = .returned (.tuple #[frV n, .bool false]) ∧ Below w.heap.size w w' :=
  pot_none _ _ _ c (nextS n) (next_size n) (frNext_n n) (by rw [← Bool.not_eq_true, next_list]; simpa using hc) w

theorem frPot_yes (n : Nat) (hn : n ≤ 36) (c : UInt8) (hc : c ∈ nextL (n + 1)) (w : World) :
    Calls Tryd.prog 33 #[frV (n + 1), .int .u8 c.toNat] w fun e w' => e = .returned (.tuple #[frV n, .bool true]) ∧ Below w.heap.size w w' := by
  have hm : (nextS (n + 1)).data.toList.contains c = true := by rw [next_list]; simpa using hc
  have hN := frNext_n (n + 1)
  rcases behind_n n with ⟨_, h6, hv⟩ | ⟨r, hr, hv⟩ | ⟨r, hr, hv⟩
  · rw [hv]
    rw [frV_last h6] at hN ⊢
    exact pot_last _ c _ (next_size _) hN hm (by omega) (by omega) w
  · rw [hv]
    rw [show frV (n + 1) = frW r true 2 from by rw [hr, frV_col]] at hN ⊢
    exact pot_col r c _ (next_size _) hN hm w
  · rw [hv]
    rw [show frV (n + 1) = frW (r + 1) false 2 from by rw [hr, frV_red]] at hN ⊢
    exact pot_red r c _ (next_size _) hN hm (by omega) w
end Go.Proofs.YtaplkciomagmiabDoor
