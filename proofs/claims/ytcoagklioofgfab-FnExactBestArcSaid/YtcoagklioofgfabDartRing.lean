/-
  The ring of numbers: the model's slice, the program's array, and the place of a number in them.
-/
import Derived.Test.YtcoagklioofgfabDartGood
import Derived.Deep.RegionWith
import Derived.Deep.LoopGhost
import Derived.Deep.WholeRow
import Derived.Deep.DeepMust
namespace Go.Proofs.Ytcoagklioofgfab
open Go.RowKit

def ring : List Int := [20, 1, 18, 4, 13, 6, 10, 15, 2, 17, 3, 19, 7, 16, 8, 11, 14, 9, 12, 5]
def ringAt (k : Nat) : Int := ring.getD k 0
def placeN (n : Int) : Nat := ring.idxOf n

theorem ring_block (w : World) (T : TypeId) : ∀ k, k < 20 → (w.alloc (.cells #[.int .i64 20, .int .i64 1, .int .i64 18, .int .i64 4, .int .i64 13, .int .i64 6, .int .i64 10, .int .i64 15, .int .i64 2, .int .i64 17, .int .i64 3, .int .i64 19, .int .i64 7, .int .i64 16, .int .i64 8, .int .i64 11, .int .i64 14, .int .i64 9, .int .i64 12, .int .i64 5] T)).cell? ⟨w.heap.size, k, none⟩ = some (.int .i64 (ringAt k)) := by
  intro k hk
  rw [World.cell?_alloc_at _ _ _ _ rfl]
  have : k = 0 ∨ k = 1 ∨ k = 2 ∨ k = 3 ∨ k = 4 ∨ k = 5 ∨ k = 6 ∨ k = 7 ∨ k = 8 ∨ k = 9 ∨ k = 10 ∨ k = 11 ∨ k = 12 ∨ k = 13 ∨ k = 14 ∨ k = 15 ∨ k = 16 ∨ k = 17 ∨ k = 18 ∨ k = 19 := by omega
  rcases this with rfl | rfl | rfl | rfl | rfl | rfl | rfl | rfl | rfl | rfl | rfl | rfl | rfl | rfl | rfl | rfl | rfl | rfl | rfl | rfl <;> rfl

def RingBack (w : World) (e : Ending) (w' : World) : Prop :=
  ∃ b, e = .returned (.slice (some ⟨b, 0, none⟩) 20 20) ∧ w.heap.size ≤ b ∧ b < w'.heap.size ∧ (∀ k, k < 20 → w'.cell? ⟨b, k, none⟩ = some (.int .i64 (ringAt k))) ∧ Below w.heap.size w w'

set_option maxHeartbeats 400000 in
theorem daRing_any (w : World) : Calls Try.prog 39 #[] w (RingBack w) := by
  go_enter Try.func39, Try.ntmps39
  go_wp2
  go_ret
  exact ⟨_, rfl, Nat.le_refl _, by simp, ring_block w _, (Below.refl _ _).alloc (Nat.le_refl _) _⟩

theorem place_facts (n : Int) (h1 : 1 ≤ n) (h2 : n ≤ 20) : placeN n < 20 ∧ ringAt (placeN n) = n ∧ (∀ j, j < placeN n → ringAt j ≠ n) ∧ ∀ j, j < 20 → ringAt j = n → j = placeN n := by
  have : n = 1 ∨ n = 2 ∨ n = 3 ∨ n = 4 ∨ n = 5 ∨ n = 6 ∨ n = 7 ∨ n = 8 ∨ n = 9 ∨ n = 10 ∨ n = 11 ∨ n = 12 ∨ n = 13 ∨ n = 14 ∨ n = 15 ∨ n = 16 ∨ n = 17 ∨ n = 18 ∨ n = 19 ∨ n = 20 := by omega
  rcases this with rfl | rfl | rfl | rfl | rfl | rfl | rfl | rfl | rfl | rfl | rfl | rfl | rfl | rfl | rfl | rfl | rfl | rfl | rfl | rfl <;> decide

set_option maxHeartbeats 400000 in
theorem daPlace_any (n : Int) (h1 : 1 ≤ n) (h2 : n ≤ 20) (w : World) :
    Calls Try.prog 38 #[.int .i64 n] w fun e w' => e = .returned (.int .i64 (placeN n)) ∧ Below w.heap.size w w' := by
  obtain ⟨p1, p2, p3, _⟩ := place_facts n h1 h2
  have P2 := Lib.hid p2; clear p2
  have P3 := Lib.hid p3; clear p3
  go_enter Try.func38, Try.ntmps38
  go_wp2_with fail
  go_loopw [3] (fun i wr => ∃ k : Nat, i = .int .i64 k ∧ k ≤ placeN n ∧ Below w.heap.size w wr) (fun i _ => 20 - (intOf i).toNat)
  case atStart => exact ⟨0, rfl, Nat.zero_le _, Below.refl _ _⟩
  case round =>
    obtain ⟨k, rfl, hk, hbel⟩ := hrel
    have hk20 : (k : Int) < 20 := by omega
    have hk0 : (0 : Int) ≤ (k : Int) := by omega
    go_wp2_with fail
    refine (daRing_any _).mono ?_; rintro e w1 ⟨b, rfl, hb1, hb2, hc, bel⟩
    have hck := hc k (by omega)
    clear hc
    have hbel2 : Below w.heap.size w w1 := hbel.trans (bel.mono hbel.size)
    by_cases hlt : k < placeN n
    · have hne : (ringAt k != n) = true := by rw [bne_iff_ne]; exact P3.out k hlt
      go_wp2_with fail
      go_roundw
      case rel => exact ⟨k + 1, by go_num, by omega, hbel2⟩
      case measure => simp [intOf]; omega
    · obtain rfl : k = placeN n := by omega
      have hne : (ringAt (placeN n) != n) = false := by rw [P2.out]; simp
      go_wp2_with fail
      go_ret
      exact ⟨rfl, hbel2⟩

def ringC : Array Value := #[.int .i64 20, .int .i64 1, .int .i64 18, .int .i64 4, .int .i64 13, .int .i64 6, .int .i64 10, .int .i64 15, .int .i64 2, .int .i64 17, .int .i64 3, .int .i64 19, .int .i64 7, .int .i64 16, .int .i64 8, .int .i64 11, .int .i64 14, .int .i64 9, .int .i64 12, .int .i64 5]

def ringV : Value := .agg ringC

theorem ringC_get (k : Nat) (hk : k < 20) : ringC[k]? = some (.int .i64 (ringAt k)) := by
  have : k = 0 ∨ k = 1 ∨ k = 2 ∨ k = 3 ∨ k = 4 ∨ k = 5 ∨ k = 6 ∨ k = 7 ∨ k = 8 ∨ k = 9 ∨ k = 10 ∨ k = 11 ∨ k = 12 ∨ k = 13 ∨ k = 14 ∨ k = 15 ∨ k = 16 ∨ k = 17 ∨ k = 18 ∨ k = 19 := by omega
  rcases this with rfl | rfl | rfl | rfl | rfl | rfl | rfl | rfl | rfl | rfl | rfl | rfl | rfl | rfl | rfl | rfl | rfl | rfl | rfl | rfl <;> rfl

set_option maxHeartbeats 400000 in
theorem daRing_exact (w : World) : Calls Try.prog 39 #[] w fun e w' => e = .returned (.slice (some ⟨w.heap.size, 0, none⟩) 20 20) ∧ w' = w.alloc (.cells ringC 3) := by
  go_enter Try.func39, Try.ntmps39
  go_wp2
  go_ret
  exact ⟨rfl, rfl⟩

theorem infoInt : (Try.prog.info? 3).map (fun i => (i.zero, i.size, i.bytes)) = some (some (.int .i64 0), 1, 8) := by kernel_rfl

theorem ringV_index (k : Nat) (hk : k < 20) (w : World) : (Instr.index 61 ringV (.int .i64 k)).run Try.prog w = .ok (.int .i64 (ringAt k)) w := by
  unfold ringV ringC
  obtain ⟨i0, hi, _, _, _⟩ := info_parts infoInt
  refine run_index_agg _ Try.underlying61 hk hi (by kernel_rfl) (by kernel_rfl) ?_ w
  have : k = 0 ∨ k = 1 ∨ k = 2 ∨ k = 3 ∨ k = 4 ∨ k = 5 ∨ k = 6 ∨ k = 7 ∨ k = 8 ∨ k = 9 ∨ k = 10 ∨ k = 11 ∨ k = 12 ∨ k = 13 ∨ k = 14 ∨ k = 15 ∨ k = 16 ∨ k = 17 ∨ k = 18 ∨ k = 19 := by omega
  rcases this with rfl | rfl | rfl | rfl | rfl | rfl | rfl | rfl | rfl | rfl | rfl | rfl | rfl | rfl | rfl | rfl | rfl | rfl | rfl | rfl <;> rfl

set_option maxHeartbeats 400000 in
theorem boardRing_any (w : World) : Calls Try.prog 41 #[] w fun e w' => e = .returned ringV ∧ Below w.heap.size w w' := by
  have hi : (Try.prog.info? 61).map (·.size) = some 20 := by kernel_rfl
  have h1 : ringC.all (·.oneCell') = true := by kernel_rfl
  have H1 := Lib.hid h1; clear h1
  have HI := Lib.hid hi; clear hi
  go_enter Try.func41, Try.ntmps41
  go_wp2_with (refine wpList_build_to rfl _ _ rfl _ rfl ringC (by as_aux_lemma => kernel_rfl) ?_; refine wpList_store_row rfl _ _ _ rfl _ ringC rfl rfl _ _ (heap_alloc_last _ _) HI.out rfl H1.out ?_; rw [World.setRow_alloc_new])
  refine bodyPost_ret (v := ringV) (results_cell_row Try.results41 _ _ _ _ ringC _ _ rfl (heap_alloc_last _ _) Try.underlying61 rfl HI.out) rfl ⟨rfl, ?_⟩
  (repeat (first | exact Below.refl _ _ | exact ‹Below _ _ _› | refine Below.drew ?_ | refine Below.alloc ?_ (by first | omega | (simp; done) | (simp; omega)) _ | refine Below.setCell ?_ (by first | omega | (simp; done) | (simp; omega)) _ | refine Below.trans ?_ (Below.mono ‹Below _ _ _› (by first | omega | (simp; done) | (simp; omega)))))

set_option maxHeartbeats 400000 in
theorem placeOnBoard_any (n : Int) (h1 : 1 ≤ n) (h2 : n ≤ 20) (w : World) :
    Calls Try.prog 42 #[.int .i64 n] w fun e w' => e = .returned (.int .i64 (placeN n)) ∧ Below w.heap.size w w' := by
  obtain ⟨p1, p2, p3, p4⟩ := place_facts n h1 h2
  have P2 := Lib.hid p2; clear p2
  have P3 := Lib.hid p3; clear p3
  have P4 := Lib.hid p4; clear p4
  go_enter Try.func42, Try.ntmps42
  go_wp2_with fail
  refine (boardRing_any _).mono ?_; rintro e w1 ⟨rfl, b1⟩
  go_wp2_with fail
  go_loop [3, 7] (fun p i => ∃ k : Nat, i = .int .i64 k ∧ k ≤ 20 ∧ p = .int .i64 (if placeN n < k then (placeN n : Int) else 0)) (fun _ i => 20 - (intOf i).toNat)
  case atStart => exact ⟨0, rfl, Nat.zero_le _, rfl⟩
  case round =>
    obtain ⟨k, rfl, hk, rfl⟩ := hrel
    by_cases hlt : k < 20
    · have hix := ringV_index k hlt
      by_cases he : k = placeN n
      · subst he
        have hq : (ringAt (placeN n) == n) = true := by rw [P2.out]; simp
        have hif : (if placeN n < placeN n then (placeN n : Int) else 0) = 0 := if_neg (by omega)
        have hif2 : (if placeN n < placeN n + 1 then (placeN n : Int) else 0) = placeN n := if_pos (by omega)
        have H2 := Lib.hid hif2; clear hif2
        rw [hif]; clear hif
        go_wp2
        go_round
        case rel => exact ⟨placeN n + 1, by go_num, by omega, by rw [H2.out]⟩
        case measure => simp [intOf]; omega
      · have hq : (ringAt k == n) = false := by rw [beq_eq_false_iff_ne]; exact fun h => he (P4.out k hlt h)
        have hif2 : (if placeN n < k + 1 then (placeN n : Int) else 0) = (if placeN n < k then (placeN n : Int) else 0) := by
          by_cases h : placeN n < k
          · rw [if_pos h, if_pos (by omega)]
          · rw [if_neg h, if_neg (by omega)]
        have H2 := Lib.hid hif2; clear hif2
        generalize (if placeN n < k then (placeN n : Int) else 0) = q at *
        go_wp2
        go_round
        case rel => exact ⟨k + 1, by go_num, by omega, by rw [H2.out]⟩
        case measure => simp [intOf]; omega
    · obtain rfl : k = 20 := by omega
      rw [if_pos p1]
      go_wp2
      go_ret
      exact ⟨rfl, b1⟩

end Go.Proofs.Ytcoagklioofgfab
