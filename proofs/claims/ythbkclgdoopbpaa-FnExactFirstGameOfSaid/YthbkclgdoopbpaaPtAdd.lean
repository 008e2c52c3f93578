/-
  Pins: the model: rows of totals are added.
-/
import Derived.Test.YthbkclgdoopbpaaPtRow
namespace Go.Proofs.Ythbkclgdoopbpaa
open Go.RowKit
set_option linter.unusedVariables false
set_option linter.unusedSimpArgs false

/-- Only the block g has been written. -/
def OnlyG (g : Nat) (w w' : World) : Prop := w'.heap.size = w.heap.size ∧ (∀ k, k ≠ g → w'.heap[k]? = w.heap[k]?) ∧ ∀ (B : Nat) (w0 : World), B ≤ g → Below B w0 w → Below B w0 w'
theorem OnlyG.refl (g : Nat) (w : World) : OnlyG g w w := ⟨rfl, fun _ _ => rfl, fun _ _ _ h => h⟩
theorem OnlyG.one (g o : Nat) (w : World) (v : Value) : OnlyG g w (w.setCell ⟨g, o, none⟩ v) :=
  ⟨by simp, fun k h => Below.heap_setCell _ _ _ _ h, fun B w0 hB hb => hb.setCell hB _⟩
theorem OnlyG.trans {g : Nat} {w w1 w2 : World} (h : OnlyG g w w1) (h' : OnlyG g w1 w2) : OnlyG g w w2 :=
  ⟨h'.1.trans h.1, fun k e => (h'.2.1 k e).trans (h.2.1 k e), fun B w0 hB hb => h'.2.2 B w0 hB (h.2.2 B w0 hB hb)⟩
theorem OnlyG.drew {g : Nat} {w w' : World} (h : OnlyG g w w') : OnlyG g w w'.drew := ⟨h.1, h.2.1, fun B w0 hB hb => (h.2.2 B w0 hB hb).drew⟩
theorem RowAt.only {w w' : World} {g g' : Nat} {e : TypeId} {cs : List Int} (h : RowAt w g e cs) (ho : OnlyG g' w w') (hne : g ≠ g') : RowAt w' g e cs := by
  unfold RowAt at *; rw [ho.2.1 g hne]; exact h
theorem ObAt.only {w w' : World} {g g' : Nat} {T : TypeId} {cs : Array Value} (h : ObAt w g T cs) (ho : OnlyG g' w w') (hne : g ≠ g') : ObAt w' g T cs := by
  unfold ObAt at *; rw [ho.2.1 g hne]; exact h

theorem boState_any (a b : Nat) (w : World) (ha : a ≤ 10) (hb : b ≤ 10) : Calls Try.prog 81 #[.int .i64 a, .int .i64 b] w fun e w' => e = .returned (.int .i64 ((if a = 0 then 0 else a + b : Nat) : Nat)) ∧ w = w' := by
  by_cases h : a = 0
  · subst h
    rw [if_pos rfl]
    go_enter Try.func81, Try.ntmps81
    go_wp2
    go_ret
    exact ⟨rfl, rfl⟩
  · rw [if_neg h]
    have h1 : ¬ ((a : Int) = 0) := by omega
    have h2 : IntKind.i64.wrap ((a : Int) + (b : Int)) = (a : Int) + (b : Int) := by rw [IntKind.wrap_i64]; omega
    go_enter Try.func81, Try.ntmps81
    go_wp2
    go_ret
    exact ⟨by push_cast; rfl, rfl⟩

/-- The first k totals of a row are added. -/
def addK (F G : Nat → Nat) (b k n : Nat) : Nat := F n + (if b ≤ n ∧ n - b < k then G (n - b) else 0)
theorem addK_zero (F G : Nat → Nat) (b : Nat) : addK F G b 0 = F := by funext n; unfold addK; rw [if_neg (by omega)]; rfl
def addS (F G : Nat → Nat) (b n : Nat) : Nat := F n + (if b ≤ n then G (n - b) else 0)
theorem addK_end (F G : Nat → Nat) (b : Nat) {n : Nat} (hn : n < 301) : addK F G b 301 n = addS F G b n := by
  unfold addK addS
  by_cases h : b ≤ n
  · rw [if_pos ⟨h, by omega⟩, if_pos h]
  · rw [if_neg (fun q => h q.1), if_neg h]
theorem addK_zeroG (F G : Nat → Nat) (b k : Nat) (h0 : G k = 0) : addK F G b k = addK F G b (k + 1) := by
  funext n; unfold addK
  by_cases h : b ≤ n ∧ n - b < k
  · rw [if_pos h, if_pos ⟨h.1, by omega⟩]
  · by_cases h2 : b ≤ n ∧ n - b < k + 1
    · rw [if_neg h, if_pos h2, show n - b = k by omega, h0]
    · rw [if_neg h, if_neg h2]
theorem addK_other (F G : Nat → Nat) (b k n : Nat) (h : n ≠ b + k) : addK F G b k n = addK F G b (k + 1) n := by
  unfold addK
  by_cases h1 : b ≤ n ∧ n - b < k
  · rw [if_pos h1, if_pos ⟨h1.1, by omega⟩]
  · rw [if_neg h1, if_neg (by omega)]
theorem addK_at (F G : Nat → Nat) (b k : Nat) : addK F G b k (b + k) = F (b + k) ∧ addK F G b (k + 1) (b + k) = F (b + k) + G k := by
  unfold addK
  exact ⟨by rw [if_neg (by omega)]; rfl, by rw [if_pos (by omega), show b + k - b = k by omega]⟩

set_option maxRecDepth 100000 in
set_option maxHeartbeats 3200000 in
theorem boAdd_any (F G : Nat → Nat) (b gt gf : Nat) (hne : gt ≠ gf) (hb : b ≤ 1000) (hfit : ∀ n, F n ≤ 9000000000000000000 ∧ addS F G b n ≤ 9000000000000000000) (w : World) (ht : RowAt w gt 3 (rowN301 F)) (hf : RowAt w gf 3 (rowN301 G)) :
    Calls Try.prog 63 #[.slice (some ⟨gt, 0, none⟩) 301 301, .slice (some ⟨gf, 0, none⟩) 301 301, .int .i64 b] w fun e w' => e = .returned (.tuple #[]) ∧ RowAt w' gt 3 (rowN301 (addS F G b)) ∧ OnlyG gt w w' := by
  have H0 : Hid (RowAt w gt 3 (rowN301 (addK F G b 0)) ∧ OnlyG gt w w) := Lib.hid ⟨by rw [addK_zero]; exact ht, OnlyG.refl _ _⟩
  have HF := Lib.hid hf
  have HB := Lib.hid hfit; clear ht hf hfit
  go_enter Try.func63, Try.ntmps63
  go_wp2_with fail
  go_loopw [10] (fun i wr => ∃ k : Nat, i = .int .i64 k ∧ k ≤ 301 ∧ Hid (RowAt wr gt 3 (rowN301 (addK F G b k)) ∧ OnlyG gt w wr)) (fun i _ => 301 - (intOf i).toNat)
  case atStart => exact ⟨0, rfl, Nat.zero_le _, H0⟩
  case round =>
    clear H0
    obtain ⟨k, rfl, hk, hH⟩ := hrel
    by_cases hlt : k < 301
    · have b1 : (k : Int) < 301 := by omega
      have hfr := HF.out.only hH.out.2 (Ne.symm hne)
      have c1 := hfr.cell (j := k) (by rw [rowN301_len]; exact hlt)
      rw [rowN301_get _ hlt] at c1
      clear hfr
      by_cases h0 : G k = 0
      · have H7 := hH
        rw [addK_zeroG F G b k h0] at H7
        rw [h0] at c1
        clear h0 hH
        rw [show (((0 : Nat) : Int)) = 0 from rfl] at c1
        go_wp2_with fail
        go_roundw
        case rel => exact ⟨k + 1, by go_num, by omega, H7⟩
        case measure => simp [intOf]; omega
      · have e0 : (0 : Int) < ((G k : Nat) : Int) := by omega
        have ew : IntKind.i64.wrap ((k : Int) + (b : Int)) = (k : Int) + (b : Int) := by rw [IntKind.wrap_i64]; omega
        by_cases hin : b + k < 301
        · obtain ⟨a1, a2⟩ := addK_at F G b k
          have hbd := (HB.out (b + k)).2
          unfold addS at hbd
          rw [if_pos (by omega), show b + k - b = k by omega, ← a1] at hbd
          have q1 := hH.out.1.cell (j := b + k) (by rw [rowN301_len]; omega)
          rw [rowN301_get _ hin] at q1
          have q2 := hH.out.1.free (b + k)
          have hset : (rowN301 (addK F G b k)).set (b + k) (((addK F G b k (b + k) : Nat) : Int) + ((G k : Nat) : Int)) = rowN301 (addK F G b (k + 1)) :=
            rowN301_set hin (by rw [a2, a1]; push_cast; rfl) (fun i hi hne => addK_other F G b k i hne)
          have hp := hH.out.1.put (j := b + k) (by rw [rowN301_len]; omega) (((addK F G b k (b + k) : Nat) : Int) + ((G k : Nat) : Int))
          rw [hset] at hp
          have H7 := Lib.hid (And.intro hp (hH.out.2.trans (OnlyG.one gt (b + k) wr (.int .i64 (((addK F G b k (b + k) : Nat) : Int) + ((G k : Nat) : Int))))))
          clear hset hp hH a1 a2 h0
          rw [show b + k = k + b by omega] at *
          generalize addK F G b k (k + b) = A at *
          generalize G k = X at *
          have e1 : IntKind.i64.wrap ((A : Int) + (X : Int)) = (A : Int) + (X : Int) := by rw [IntKind.wrap_i64]; omega
          have b3 : (k : Int) + (b : Int) < 301 := by omega
          have hp0 : (0 : Int) ≤ (k : Int) + (b : Int) := by omega
          clear hbd
          go_wp2_with fail
          go_roundw
          case rel => exact ⟨k + 1, by go_num, by omega, H7⟩
          case measure => simp [intOf]; omega
        · have b3 : ¬ ((k : Int) + (b : Int) < 301) := by omega
          have H7 : Hid (RowAt wr gt 3 (rowN301 (addK F G b (k + 1))) ∧ OnlyG gt w wr) := Lib.hid ⟨by rw [rowN301_congr (F := addK F G b (k + 1)) (G := addK F G b k) (fun i hi => (addK_other F G b k i (by omega)).symm)]; exact hH.out.1, hH.out.2⟩
          have b4 : (301 : Int) ≤ (k : Int) + (b : Int) := by omega
          clear hH h0 hin b3
          generalize G k = X at *
          go_wp2_with fail
          go_roundw
          case rel => exact ⟨k + 1, by go_num, by omega, H7⟩
          case measure => simp [intOf]; omega
    · obtain rfl : k = 301 := by omega
      go_wp2_with fail
      refine bodyPost_end (v := .tuple #[]) (by simp [results, Try.results63, go_sem]) rfl ?_
      have h := hH.out
      exact ⟨rfl, by rw [← rowN301_congr (fun i hi => addK_end F G b hi)]; exact h.1, h.2⟩
end Go.Proofs.Ythbkclgdoopbpaa
