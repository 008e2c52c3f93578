/- BestArc: the model and the program, and the law over them. -/
import Derived.Test.YtcoagklioofgfabSmall
import Derived.Test.YtcoagklioofgfabDartRing
import Derived.Deep.RegionHeld3
import Derived.IntWalk
import Derived.WalkSmall
namespace Go.Proofs.Ytcoagklioofgfab.ExBestArc
open Go.RowKit

theorem inR_true {n a b : Int} : inR n a b = true ↔ a ≤ n ∧ n ≤ b := by simp [inR]
def arcSum (k : Nat) : Nat → Int | 0 => 0 | m + 1 => arcSum k m + ringAt ((k + m) % 20)
def best (m : Nat) : Nat → Int × Int | 0 => (0, 0) | k + 1 => if (best m k).2 < arcSum k m then (ringAt k, arcSum k m) else best m k

theorem ringAt_bd (k : Nat) (h : k < 20) : 1 ≤ ringAt k ∧ ringAt k ≤ 20 := by
  have : ∀ k, k < 20 → 1 ≤ ringAt k ∧ ringAt k ≤ 20 := by decide
  exact this k h
theorem arcSum_bd (k m : Nat) : 0 ≤ arcSum k m ∧ arcSum k m ≤ 20 * (m : Int) := by
  induction m with
  | zero => simp [arcSum]
  | succ m ih =>
    have := ringAt_bd ((k + m) % 20) (by omega)
    simp only [arcSum]; omega
theorem arcSum_succ (k m : Nat) : arcSum k (m + 1) = arcSum k m + ringAt ((k + m) % 20) := rfl
theorem best_yes {m k : Nat} (h : (best m k).2 < arcSum k m) : best m (k + 1) = (ringAt k, arcSum k m) := by simp [best, h]
theorem best_no {m k : Nat} (h : ¬ (best m k).2 < arcSum k m) : best m (k + 1) = best m k := by simp [best, h]

set_option maxHeartbeats 1600000 in
theorem spec_yes (m : Nat) (hn : inR m 1 20 = true) (w : World) :
    Calls Try.prog 26 #[.int .i64 m] w fun e w' => e = .returned (.tuple #[.int .i64 (best m 20).1, .int .i64 (best m 20).2, .bool true]) ∧ Below w.heap.size w w' := by
  obtain ⟨n1, n2⟩ := inR_true.1 hn
  have HN := Lib.hid hn; clear hn
  go_enter Try.func26, Try.ntmps26
  go_wp2_with fail
  refine (l1In_any _ _ _ _).mono ?_; rintro e w1 ⟨rfl, rfl⟩
  rw [HN.out]
  go_wp2_with fail
  refine (daRing_any _).mono ?_; rintro e w2 ⟨b, rfl, hb1, hb2, hc, bel⟩
  have HC := Lib.hid hc; clear hc
  go_wp2_with fail
  go_loop [5, 6, 17] (fun f s i => ∃ k : Nat, i = .int .i64 k ∧ k ≤ 20 ∧ f = .int .i64 (best m k).1 ∧ s = .int .i64 (best m k).2) (fun _ _ i => 20 - (intOf i).toNat)
  case atStart => exact ⟨0, rfl, Nat.zero_le _, rfl, rfl⟩
  case round =>
    obtain ⟨k, rfl, hk, rfl, rfl⟩ := hrel
    by_cases hlt : k < 20
    · go_wp2_with fail
      go_loop [9, 10] (fun s i => ∃ j : Nat, i = .int .i64 j ∧ j ≤ m ∧ s = .int .i64 (arcSum k j)) (fun _ i => m - (intOf i).toNat)
      case atStart => exact ⟨0, rfl, Nat.zero_le _, rfl⟩
      case round =>
        obtain ⟨j, rfl, hj, rfl⟩ := hrel
        have bd := arcSum_bd k j
        by_cases hjm : j < m
        · have q : (k + j) % 20 < 20 := by omega
          have rb := ringAt_bd ((k + j) % 20) q
          have c1 := HC.out ((k + j) % 20) q
          have hs := arcSum_succ k j
          have HS := Lib.hid hs; clear hs
          go_wp2
          go_round
          case rel => exact ⟨j + 1, by go_num, by omega, by rw [HS.out]⟩
          case measure => simp [intOf]; omega
        · obtain rfl : j = m := by omega
          have c1 := HC.out k hlt
          by_cases hbest : (best j k).2 < arcSum k j
          · have hs := best_yes hbest
            have HS := Lib.hid hs; clear hs
            go_wp2
            go_round
            case rel => exact ⟨k + 1, by go_num, by omega, by rw [HS.out], by rw [HS.out]⟩
            case measure => simp [intOf]; omega
          · have hs := best_no hbest
            have HS := Lib.hid hs; clear hs
            go_wp2
            go_round
            case rel => exact ⟨k + 1, by go_num, by omega, by rw [HS.out], by rw [HS.out]⟩
            case measure => simp [intOf]; omega
    · obtain rfl : k = 20 := by omega
      go_wp2
      refine bodyPost_ret (v := .tuple #[.int .i64 (best m 20).1, .int .i64 (best m 20).2, .bool true]) (by simp [results, Try.results26, go_sem]) rfl ⟨rfl, ?_⟩
      exact bel

set_option maxHeartbeats 1600000 in
theorem impl_yes (m : Nat) (n1 : 1 ≤ (m : Int)) (n2 : (m : Int) ≤ 20) (w : World) :
    Calls Try.prog 27 #[.int .i64 m] w fun e w' => e = .returned (.tuple #[.int .i64 (best m 20).1, .int .i64 (best m 20).2, .bool true]) ∧ Below w.heap.size w w' := by
  have hi : (Try.prog.info? 61).map (·.size) = some 20 := by kernel_rfl
  have h1 : ringC.all (·.oneCell') = true := by kernel_rfl
  have H1 := Lib.hid h1; clear h1
  have HI := Lib.hid hi; clear hi
  go_enter Try.func27, Try.ntmps27
  go_wp2_with fail
  refine (boardRing_any _).mono ?_; rintro e w1 ⟨rfl, bl1⟩
  go_wp2_with (refine wpList_store_row rfl _ _ _ rfl _ ringC rfl rfl _ _ (heap_alloc_last _ _) HI.out rfl H1.out ?_; rw [World.setRow_alloc_new])
  have hcell : ∀ k, k < 20 → (w1.alloc (.cells ringC 61)).cell? ⟨w1.heap.size, k, none⟩ = some (.int .i64 (ringAt k)) := by
    intro k hk
    rw [cell_of_row _ _ k ringC _ _ (heap_alloc_last w1 _)]
    exact ringC_get k hk
  have bel : Below w.heap.size w (w1.alloc (.cells ringC 61)) := by
    have z1 := bl1.size
    (repeat (first | exact Below.refl _ _ | exact ‹Below _ _ _› | refine Below.drew ?_ | refine Below.alloc ?_ (by first | omega | (simp; done) | (simp; omega)) _ | refine Below.setCell ?_ (by first | omega | (simp; done) | (simp; omega)) _ | refine Below.trans ?_ (Below.mono ‹Below _ _ _› (by first | omega | (simp; done) | (simp; omega)))))
  have HC := Lib.hid hcell; clear hcell
  generalize w1.alloc (.cells ringC 61) = w2 at *
  generalize w1.heap.size = b at *
  go_loop [6, 7, 18] (fun f s i => ∃ k : Nat, i = .int .i64 k ∧ k ≤ 20 ∧ f = .int .i64 (best m k).1 ∧ s = .int .i64 (best m k).2) (fun _ _ i => 20 - (intOf i).toNat)
  case atStart => exact ⟨0, rfl, Nat.zero_le _, rfl, rfl⟩
  case round =>
    obtain ⟨k, rfl, hk, rfl, rfl⟩ := hrel
    by_cases hlt : k < 20
    · go_wp2_with fail
      go_loop [9, 22] (fun s i => ∃ j : Nat, i = .int .i64 j ∧ j ≤ m ∧ s = .int .i64 (arcSum k j)) (fun _ i => m - (intOf i).toNat)
      case atStart => exact ⟨0, rfl, Nat.zero_le _, rfl⟩
      case round =>
        obtain ⟨j, rfl, hj, rfl⟩ := hrel
        have bd := arcSum_bd k j
        by_cases hjm : j < m
        · have q : (k + j) % 20 < 20 := by omega
          have rb := ringAt_bd ((k + j) % 20) q
          have c1 := HC.out ((k + j) % 20) q
          have hs := arcSum_succ k j
          have HS := Lib.hid hs; clear hs
          go_wp2
          go_round
          case rel => exact ⟨j + 1, by go_num, by omega, by rw [HS.out]⟩
          case measure => simp [intOf]; omega
        · obtain rfl : j = m := by omega
          have c1 := HC.out k hlt
          by_cases hbest : (best j k).2 < arcSum k j
          · have hs := best_yes hbest
            have HS := Lib.hid hs; clear hs
            go_wp2
            go_round
            case rel => exact ⟨k + 1, by go_num, by omega, by rw [HS.out], by rw [HS.out]⟩
            case measure => simp [intOf]; omega
          · have hs := best_no hbest
            have HS := Lib.hid hs; clear hs
            go_wp2
            go_round
            case rel => exact ⟨k + 1, by go_num, by omega, by rw [HS.out], by rw [HS.out]⟩
            case measure => simp [intOf]; omega
    · obtain rfl : k = 20 := by omega
      go_wp2
      refine bodyPost_ret (v := .tuple #[.int .i64 (best m 20).1, .int .i64 (best m 20).2, .bool true]) (by simp [results, Try.results27, go_sem]) rfl ⟨rfl, ?_⟩
      exact bel

set_option maxHeartbeats 800000 in
theorem spec_no (n : Int) (hn : inR n 1 20 = false) (w : World) :
    Calls Try.prog 26 #[.int .i64 n] w fun e w' => e = .returned (.tuple #[.int .i64 0, .int .i64 0, .bool false]) ∧ Below w.heap.size w w' := by
  have HN := Lib.hid hn; clear hn
  go_enter Try.func26, Try.ntmps26
  go_wp2_with fail
  refine (l1In_any _ _ _ _).mono ?_; rintro e w1 ⟨rfl, rfl⟩
  rw [HN.out]
  go_wp2_with fail
  refine bodyPost_ret (v := .tuple #[.int .i64 0, .int .i64 0, .bool false]) (by simp [results, Try.results26, go_sem]) rfl ⟨rfl, ?_⟩
  (repeat (first | exact Below.refl _ _ | exact ‹Below _ _ _› | refine Below.drew ?_ | refine Below.alloc ?_ (by first | omega | (simp; done) | (simp; omega)) _ | refine Below.setCell ?_ (by first | omega | (simp; done) | (simp; omega)) _ | refine Below.trans ?_ (Below.mono ‹Below _ _ _› (by first | omega | (simp; done) | (simp; omega)))))

set_option maxHeartbeats 800000 in
theorem impl_no (n : Int) (hn : n < 1 ∨ 20 < n) (w : World) :
    Calls Try.prog 27 #[.int .i64 n] w fun e w' => e = .returned (.tuple #[.int .i64 0, .int .i64 0, .bool false]) ∧ Below w.heap.size w w' := by
  by_cases h1 : n < 1 <;> by_cases h2 : 20 < n
  all_goals try (exfalso; omega)
  all_goals
    clear hn
    go_enter Try.func27, Try.ntmps27
    go_wp2_with fail
    refine bodyPost_ret (v := .tuple #[.int .i64 0, .int .i64 0, .bool false]) (by simp [results, Try.results27, go_sem]) rfl ⟨rfl, ?_⟩
    (repeat (first | exact Below.refl _ _ | exact ‹Below _ _ _› | refine Below.drew ?_ | refine Below.alloc ?_ (by first | omega | (simp; done) | (simp; omega)) _ | refine Below.setCell ?_ (by first | omega | (simp; done) | (simp; omega)) _ | refine Below.trans ?_ (Below.mono ‹Below _ _ _› (by first | omega | (simp; done) | (simp; omega)))))

set_option maxHeartbeats 800000 in
theorem walk (n : Int) (w : World) :
    Calls Try.prog 7 #[.int .i64 n] w fun e w' => e = .returned (.bool true) ∧ Below w.heap.size w w' := by
  cases h : inR n 1 20
  · have h' : n < 1 ∨ 20 < n := by simp [inR] at h; omega
    go_enter Try.func7, Try.ntmps7
    go_wp2_with fail
    refine (spec_no n h _).mono ?_; rintro e w1 ⟨rfl, bl1⟩
    go_wp2_with fail
    refine (impl_no n h' _).mono ?_; rintro e w2 ⟨rfl, bl2⟩
    have z1 := bl1.size
    clear h h'
    go_wp2_with fail
    go_ret
    refine ⟨rfl, ?_⟩
    (repeat (first | exact Below.refl _ _ | exact ‹Below _ _ _› | refine Below.drew ?_ | refine Below.alloc ?_ (by first | omega | (simp; done) | (simp; omega)) _ | refine Below.setCell ?_ (by first | omega | (simp; done) | (simp; omega)) _ | refine Below.trans ?_ (Below.mono ‹Below _ _ _› (by first | omega | (simp; done) | (simp; omega)))))
  · obtain ⟨n1, n2⟩ := inR_true.1 h
    obtain ⟨m, rfl⟩ := Int.eq_ofNat_of_zero_le (a := n) (by omega)
    have h1 : ((best m 20).1 != (best m 20).1) = false := by simp
    have h2 : ((best m 20).2 != (best m 20).2) = false := by simp
    go_enter Try.func7, Try.ntmps7
    go_wp2_with fail
    refine (spec_yes m h _).mono ?_; rintro e w1 ⟨rfl, bl1⟩
    go_wp2_with fail
    refine (impl_yes m n1 n2 _).mono ?_; rintro e w2 ⟨rfl, bl2⟩
    have z1 := bl1.size
    clear h
    go_wp2_with fail
    go_ret
    refine ⟨rfl, ?_⟩
    (repeat (first | exact Below.refl _ _ | exact ‹Below _ _ _› | refine Below.drew ?_ | refine Below.alloc ?_ (by first | omega | (simp; done) | (simp; omega)) _ | refine Below.setCell ?_ (by first | omega | (simp; done) | (simp; omega)) _ | refine Below.trans ?_ (Below.mono ‹Below _ _ _› (by first | omega | (simp; done) | (simp; omega)))))

end Go.Proofs.Ytcoagklioofgfab.ExBestArc
