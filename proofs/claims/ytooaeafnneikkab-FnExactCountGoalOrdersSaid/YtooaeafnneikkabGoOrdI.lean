/-
  Goals: CountGoalOrders: the program's helpers.
-/
import Derived.Test.YtooaeafnneikkabGoOrdM
import Derived.Test.YtooaeafnneikkabGoTabP
import Derived.Test.YtooaeafnneikkabGoLawS
namespace Go.Proofs.Ytooaeafnneikkab
open Go.RowKit
set_option linter.unusedVariables false
set_option linter.unusedSimpArgs false

/-- A row of numbers that is read, and two captured variables: the row and the score. -/
structure OrdC (w : World) (T : List Int) (s : Int) (go gr : Nat) : Prop where
  row : ∃ g cap, w.cell? ⟨go, 0, none⟩ = some (.slice (some ⟨g, 0, none⟩) T.length cap) ∧ ∀ j, j < T.length → w.cell? ⟨g, j, none⟩ = some (.int .i64 (T.getD j 0))
  at' : w.cell? ⟨gr, 0, none⟩ = some (.int .i64 s)

set_option maxHeartbeats 800000 in
theorem numberAt_any (T : List Int) (g cap : Nat) (i : Int) (hi : i < (T.length : Int)) (w : World) (hc : ∀ j, j < T.length → w.cell? ⟨g, j, none⟩ = some (.int .i64 (T.getD j 0))) :
    Calls Try.prog 63 #[.slice (some ⟨g, 0, none⟩) T.length cap, .int .i64 i] w fun e w' => e = .returned (.int .i64 (atO T i)) ∧ w' = w := by
  unfold atO
  by_cases q : i < 0
  · rw [if_pos q]
    clear hc
    go_enter Try.func63, Try.ntmps63
    go_wp2
    go_ret
    exact ⟨rfl, rfl⟩
  · rw [if_neg q]
    obtain ⟨n, rfl⟩ : ∃ n : Nat, i = (n : Int) := ⟨i.toNat, by omega⟩
    have c0 := hc n (by omega)
    rw [Int.toNat_natCast]
    have q' : ¬ (n : Int) < 0 := q
    clear hc q
    generalize T.getD n 0 = t at *
    generalize T.length = len at *
    go_enter Try.func63, Try.ntmps63
    go_wp2
    go_ret
    exact ⟨rfl, rfl⟩

set_option maxHeartbeats 800000 in
theorem ord1_any (T : List Int) (s p : Int) (go gr : Nat) (hs : 0 ≤ s) (hs2 : s ≤ 1000) (hp : 1 ≤ p) (hp2 : p ≤ 20) (hl : s ≤ (T.length : Int)) (w : World) (h : OrdC w T s go gr) :
    Calls Try.prog 62 #[.int .i64 p, .pointer (some ⟨go, 0, none⟩), .pointer (some ⟨gr, 0, none⟩)] w fun e w' => e = .returned (.int .i64 (atO T (s - p))) ∧ w' = w := by
  obtain ⟨⟨g, cap, c0, hc⟩, c1⟩ := h
  have HN := Lib.hid (numberAt_any T g cap (s - p) (by omega) w hc); clear hc
  have wn : IntKind.i64.wrap (s - p) = s - p := IntWalk.i64_in _ (by omega)
  generalize T.length = len at *
  go_enter Try.func62, Try.ntmps62
  go_wp2_with fail
  refine HN.out.mono ?_; rintro r w3 ⟨rfl, rfl⟩
  go_wp2_with fail
  go_ret
  exact ⟨rfl, rfl⟩

theorem atO_bd (T : List Int) (hT : ∀ j : Nat, 0 ≤ T.getD j 0 ∧ T.getD j 0 ≤ capG) (i : Int) : 0 ≤ atO T i ∧ atO T i ≤ capG := by
  unfold atO
  split
  · unfold capG; omega
  · exact hT _

set_option maxHeartbeats 1600000 in
theorem sumOrd_any (ks : List Int) (hk : ∀ x ∈ ks, 1 ≤ x ∧ x ≤ 20) (hl5 : ks.length ≤ 5) (T : List Int) (hT : ∀ j : Nat, 0 ≤ T.getD j 0 ∧ T.getD j 0 ≤ capG) (s : Int) (go gr : Nat) (hs : 0 ≤ s) (hs2 : s ≤ 1000) (hl : s ≤ (T.length : Int)) (a : Option Addr) (c : Nat) (w : World) (h : OrdC w T s go gr) (hr : Reads w a (ints ks)) :
    Calls Try.prog 61 #[.slice a ks.length c, .func (.func 62) #[] #[.pointer (some ⟨go, 0, none⟩), .pointer (some ⟨gr, 0, none⟩)]] w fun e w' => e = .returned (.int .i64 (sumO T s ks 0)) ∧ w' = w := by
  have HC := Lib.hid (fun p (hp : 1 ≤ p ∧ p ≤ 20) => ord1_any T s p go gr hs hs2 hp.1 hp.2 hl w h); clear h
  have HK := Lib.hid hk; clear hk
  have HT := Lib.hid (atO_bd T hT); clear hT
  have HR := Lib.hid hr; clear hr
  go_enter Try.func61, Try.ntmps61
  go_wp2_with fail
  go_loopw [5, 10] (fun q i wr => ∃ (k : Nat) (m : Int), i = .int .i64 k ∧ q = .int .i64 m ∧ k ≤ ks.length ∧ 0 ≤ m ∧ m ≤ 1000000000000001 * k ∧ Hid (sumO T s (ks.drop k) m = sumO T s ks 0) ∧ wr = w) (fun _ i _ => ks.length - (intOf i).toNat)
  case atStart => exact ⟨0, 0, rfl, rfl, Nat.zero_le _, by omega, by omega, Lib.hid rfl, rfl⟩
  case round =>
    obtain ⟨k, m, rfl, rfl, hk, m0, m1, hF, rfl⟩ := hrel
    by_cases hkn : k < ks.length
    · have b1 : (k : Int) < (ks.length : Int) := by omega
      obtain ⟨b, off, rfl, _, hc⟩ := cells_of_reads HR.out (by omega)
      have c0 := hc k hkn
      have hp := HK.out (ks.getD k 0) (by simp [hkn])
      have hfd := hF.out
      unfold sumO at hfd
      rw [foldl_drop _ hkn] at hfd
      have HCA := Lib.hid (HC.out _ hp)
      have hd := HT.out (s - ks.getD k 0)
      have HF2 := Lib.hid hfd; clear hF hfd hc
      unfold capG at hd
      generalize ks.getD k 0 = p at *
      generalize atO T (s - p) = d at *
      have wn : IntKind.i64.wrap (m + d) = m + d := IntWalk.i64_in _ (by omega)
      go_wp2_with fail
      refine HCA.out.mono ?_; rintro r w3 ⟨rfl, rfl⟩
      go_wp2_with fail
      go_roundw
      case rel => exact ⟨k + 1, m + d, by go_num, rfl, by omega, by omega, by omega, HF2, trivial⟩
      case measure => simp [intOf]; omega
    · obtain rfl : k = ks.length := by omega
      have hend : m = sumO T s ks 0 := by rw [← hF.out, List.drop_length]; rfl
      have HE := Lib.hid hend; clear hend
      go_wp2_with fail
      go_ret
      exact ⟨by rw [HE.out]; rfl, rfl⟩

set_option maxHeartbeats 400000 in
theorem limitGames_any (x : Int) (w : World) :
    Calls Try.prog 64 #[.int .i64 x, .int .i64 1000000000000000] w fun e w' => e = .returned (.tuple #[.int .i64 (if x ≤ 1000000000000000 then x else 0), .bool (decide (x ≤ 1000000000000000))]) ∧ w' = w := by
  by_cases q : x ≤ 1000000000000000
  · have q' : ¬ 1000000000000000 < x := by omega
    rw [if_pos q, decide_eq_true q]
    clear q
    go_enter Try.func64, Try.ntmps64
    go_wp2
    go_ret2
    exact ⟨rfl, rfl⟩
  · have q' : 1000000000000000 < x := by omega
    rw [if_neg q, decide_eq_false q]
    clear q
    go_enter Try.func64, Try.ntmps64
    go_wp2
    go_ret2
    exact ⟨rfl, rfl⟩
end Go.Proofs.Ytooaeafnneikkab
