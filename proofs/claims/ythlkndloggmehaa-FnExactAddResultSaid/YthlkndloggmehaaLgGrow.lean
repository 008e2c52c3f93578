/-
  Leagues: slices.Grow of no results; results appended to a row of the call's own.
-/
import Derived.Test.YthlkndloggmehaaLgOwn
import Derived.Lib.AppendZeros
namespace Go.Proofs.Ythlkndloggmehaa
open Go.RowKit
set_option linter.unusedVariables false
set_option linter.unusedSimpArgs false

set_option maxHeartbeats 1600000 in
theorem grow_any (n : Nat) (w : World) (h0 : 0 < n) (hn : n ≤ 100000) :
    Calls Try.prog 136 #[.slice none 0 0, .int .i64 n] w fun e w' => ∃ c, e = .returned (.slice (some ⟨w.heap.size, 0, none⟩) 0 c) ∧ w'.ownsRow w.heap.size 66 4 (.slice (some ⟨w.heap.size, 0, none⟩) 0 c) 0 [] ∧ Below w.heap.size w w' := by
  obtain ⟨i0, hi, hz0, hz1, hz2⟩ := info_parts infoResult
  have hrun : ∀ ty, (Builtin.append_ #[60, 3] ty #[.slice none 0 0, .int .i64 n]).run Try.prog w = .ok (.slice (some ⟨w.heap.size, 0, none⟩) n (grownCap w n 0 66)) (w.drew.alloc (.cells (Builtin.zeroCells (Value.agg #[.int .i64 0, .int .i64 0, .int .i64 0, .int .i64 0]).cells n ++ Builtin.zeroCells (Value.agg #[.int .i64 0, .int .i64 0, .int .i64 0, .int .i64 0]).cells (grownCap w n 0 66 - n)) 66)) := fun ty =>
    Lib.run_append_nil_zeros w 60 3 ty 66 i0 _ .i64 .i64 Try.underlying60 Try.underlying3 hi hz0 n h0 (by rw [hz1]; decide) (by omega) (by rw [hz2]; omega)
  have hG : n ≤ grownCap w n 0 66 := grownCap_ge w _ _ _
  have hM : grownCap w n 0 66 ≤ maxLen := grownCap_le_maxLen w n 0 66 (by unfold maxLen; omega)
  obtain ⟨G, hGe⟩ : ∃ G, G = grownCap w n 0 66 := ⟨_, rfl⟩
  rw [← hGe] at hrun hG hM
  clear hGe
  generalize hZ : (Builtin.zeroCells (Value.agg #[.int .i64 0, .int .i64 0, .int .i64 0, .int .i64 0]).cells n ++ Builtin.zeroCells (Value.agg #[.int .i64 0, .int .i64 0, .int .i64 0, .int .i64 0]).cells (G - n)) = Z at hrun
  have hZs : Z.size = G * 4 := by rw [← hZ]; simp [size_zeroCells, Value.cells]; omega
  clear hZ hi hz0 hz1 hz2
  have HR := Lib.hid hrun; clear hrun
  have HF : Hid ((w.drew.alloc (.cells Z 66)).ownsRow w.heap.size 66 4 (.slice (some ⟨w.heap.size, 0, none⟩) 0 G) 0 [] ∧ Below w.heap.size w (w.drew.alloc (.cells Z 66))) :=
    ⟨⟨by simp, .inr ⟨w.heap.size, G, Z, rfl, Nat.le_refl _, heap_alloc_last w.drew _, Nat.zero_le _, hM, hZs, by simp⟩⟩, (Below.drew (Below.refl _ _)).alloc (Nat.le_refl _) _⟩
  have hG63 : G ≤ 9223372036854775807 := by unfold maxLen at hM; omega
  have b1 : (n : Int) > 0 := by omega
  have b0 : ¬ ((n : Int) < 0) := by omega
  clear hM hZs
  go_enter Try.func136, Try.ntmps136
  go_wp2_with (at_builtin; refine Lib.wpList_append_run _ rfl _ _ _ _ rfl _ _ rfl rfl _ _ (HR.out _) ?_)
  go_wp2
  go_ret
  exact ⟨G, rfl, HF.out.1, HF.out.2⟩

set_option maxHeartbeats 1600000 in
theorem grow_zero (w : World) :
    Calls Try.prog 136 #[.slice none 0 0, .int .i64 0] w fun e w' => e = .returned (.slice none 0 0) ∧ w' = w := by
  go_enter Try.func136, Try.ntmps136
  go_wp2
  go_ret
  exact ⟨rfl, rfl⟩
end Go.Proofs.Ythlkndloggmehaa
