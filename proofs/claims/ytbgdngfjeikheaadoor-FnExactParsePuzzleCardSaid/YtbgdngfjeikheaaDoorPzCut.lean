/-
  Puzzles: a part of the clues, its room told to end there.
-/
import Derived.Test.YtbgdngfjeikheaaDoorPzConc
import Derived.Test.YtbgdngfjeikheaaDoorPzGood
namespace Go.Proofs.YtbgdngfjeikheaaDoor
open Go.RowKit
set_option linter.unusedVariables false
set_option linter.unusedSimpArgs false

/-- Where a part of clues begins. -/
def cutA (ad : Option Addr) (i j : Nat) : Option Addr := if j = i then ad else ad.map (·.add (i * 3))
def partL (l : List Cl) (i j : Nat) : List Cl := (l.take j).drop i
theorem partL_len {l : List Cl} {i j : Nat} (h : j ≤ l.length) : (partL l i j).length = j - i := by simp [partL]; omega
theorem partL_all (l : List Cl) : partL l 0 l.length = l := by simp [partL]
theorem partL_upto (l : List Cl) (k : Nat) : partL l 0 k = l.take k := by simp [partL]
theorem partL_from (l : List Cl) (k : Nat) : partL l k l.length = l.drop k := by simp [partL]
theorem clus_take (l : List Cl) (k : Nat) (hk : k ≤ l.length) : clus (l.take k) = (clus l).take (3 * k) := by
  have h : clus l = clus (l.take k) ++ clus (l.drop k) := by rw [← clus_append, List.take_append_drop]
  have hn : (clus (l.take k)).length = 3 * k := by rw [clus_len, List.length_take]; omega
  rw [h]; exact (List.take_left' hn).symm
theorem clus_drop (l : List Cl) (k : Nat) (hk : k ≤ l.length) : clus (l.drop k) = (clus l).drop (3 * k) := by
  have h : clus l = clus (l.take k) ++ clus (l.drop k) := by rw [← clus_append, List.take_append_drop]
  have hn : (clus (l.take k)).length = 3 * k := by rw [clus_len, List.length_take]; omega
  rw [h]; exact (List.drop_left' hn).symm
theorem clus_nil {l : List Cl} (h : clus l = []) : l = [] := by
  have := congrArg List.length h; rw [clus_len] at this; simp at this
  exact List.length_eq_zero_iff.1 (by omega)
theorem reads_cut {w : World} {ad : Option Addr} {l : List Cl} (h : Reads w ad (clus l)) {i j : Nat} (hi : i ≤ j) (hj : j ≤ l.length) : Reads w (cutA ad i j) (clus (partL l i j)) := by
  by_cases e : j = i
  · subst e; left; simp [partL, clus, flatC, ints]
  · rcases h with h | ⟨b, off, rfl, hlt, hc⟩
    · rw [clus_nil h] at hj; simp at hj; omega
    · unfold cutA
      rw [if_neg e]
      refine .inr ⟨b, off + i * 3, by simp [Addr.add], hlt, fun q hq => ?_⟩
      have hl := clus_len l
      rw [clus_len, partL_len hj] at hq
      unfold partL
      rw [clus_drop _ _ (by rw [List.length_take]; omega), clus_take _ _ hj, List.getElem?_drop, List.getElem?_take_of_lt (by omega), ← hc (3 * i + q) (by omega)]
      congr 2
      omega
theorem cutA_some {ad : Option Addr} {i j : Nat} (h : ad ≠ none) : cutA ad i j ≠ none := by
  unfold cutA; split
  · exact h
  · cases ad with
    | none => exact absurd rfl h
    | some a => simp

theorem run_cut (ad : Option Addr) (n c i j : Nat) (hi : i ≤ j) (hj : j ≤ c) (W : World) :
    (Instr.slice 22 (.slice ad n c) (some (.int .i64 (i : Int))) (some (.int .i64 (j : Int))) (some (.int .i64 (j : Int)))).run Tryd.prog W = .ok (.slice (cutA ad i j) (j - i) (j - i)) W := by
  obtain ⟨i0, hi0, -, -, -⟩ := info_parts infoClue
  have h1 := run_sizeOf (P := Tryd.prog) (w := W) hi0
  rw [show Tryd.prog.cellsOf 75 = 3 from by kernel_rfl] at h1
  have e1 : (0 : Int) ≤ (i : Int) := by omega
  have e2 : (0 : Int) ≤ (j : Int) := by omega
  have e3 : (i : Int) ≤ (j : Int) := by omega
  have e4 : (j : Int) ≤ (c : Int) := by omega
  simp [Instr.slice, run_underlying Tryd.underlying22, Instr.sliceBounds, run_sliceBound, h1, e1, e2, e3, e4, hi, hj, cutA]

set_option maxHeartbeats 1600000 in
set_option maxRecDepth 100000 in
theorem cut_any (p : Int) (ad : Option Addr) (n c i j : Nat) (w : World) (hi : i ≤ j) (hj : j ≤ n) (hn : n ≤ c) :
    Calls Tryd.prog 108 #[.agg #[.int .i64 p, .slice ad n c], .int .i64 i, .int .i64 j] w fun e w' => e = .returned (.agg #[.int .i64 p, .slice (cutA ad i j) (j - i) (j - i)]) ∧ Below w.heap.size w w' := by
  have hb1 := Below.ofNew (w := w) (.cells #[.int .i64 p, .slice ad n c] 24)
  have A1 := ObAt.new w 24 #[.int .i64 p, .slice ad n c]
  have A2 := A1.old (.cells #[.int .i64 0, .slice none 0 0] 24)
  have A3 := ObAt.new (w.alloc (.cells #[.int .i64 p, .slice ad n c] 24)) 24 #[.int .i64 0, .slice none 0 0]
  have hb2 := hb1.alloc hb1.size (.cells #[.int .i64 0, .slice none 0 0] 24)
  rw [World.size_alloc] at A3
  obtain ⟨p0, p1, -, -⟩ := A2.two
  obtain ⟨q0, q1, f0, f1⟩ := A3.two
  have HB := Lib.hid (fun u0 u1 : Value => (hb2.setCell (p := ⟨w.heap.size + 1, 0, none⟩) (by simp only; omega) u0).setCell (p := ⟨w.heap.size + 1, 1, none⟩) (by simp only; omega) u1)
  clear hb1 hb2 A1 A2 A3
  generalize hW1 : (w.alloc (.cells #[.int .i64 p, .slice ad n c] 24)).alloc (.cells #[.int .i64 0, .slice none 0 0] 24) = W1 at *
  have HW := Lib.hid hW1; clear hW1
  have hs := run_cut ad n c i j hi (by omega)
  generalize cutA ad i j = ad' at *
  have hij : (i : Int) ≤ (j : Int) := by omega
  have hjc : (j : Int) ≤ (c : Int) := by omega
  have hi0 : (0 : Int) ≤ (i : Int) := by omega
  go_enter Tryd.func108, Tryd.ntmps108
  go_wp2_with fail
  rw [HW.out]
  go_still_tail 9, (by kernel_rfl)
  go_wp2_with fail
  refine bodyPost_ret (v := .agg #[.int .i64 p, .slice ad' (j - i) (j - i)]) ?_ rfl ⟨rfl, (HB.out _ _).drew⟩
  simp [results, Tryd.results108, go_sem, *]
end Go.Proofs.YtbgdngfjeikheaaDoor
