/-
  Tennis: errors.As of a stray point at a variable of its type: the walk.
-/
import Derived.Test.YtgkkjlpfkoplhaaGreatDoorTnErrAs2
namespace Go.Proofs.YtgkkjlpfkoplhaaGreatDoor
open Go.RowKit Go.Extern.Stop Go.Stop Go.Extern
set_option linter.unusedVariables false
set_option linter.unusedSimpArgs false

/-- The worlds of the walk. -/
def asW2 (w : World) (tb : Nat) : World := (w.alloc (.cells #[.pointer (some ⟨tb, 0, none⟩)] 110)).alloc (.cells #[.pointer (some ⟨4, 110, none⟩), .pointer (some ⟨w.heap.size, 0, none⟩), .int .u64 150] 134)
def asW3 (w : World) (tb : Nat) : World := (asW2 w tb).alloc (.cells #[.pointer (some ⟨4, 110, none⟩), .pointer (some ⟨w.heap.size, 0, none⟩), .int .u64 150] 134)
def asW4 (w : World) (tb : Nat) (k : Int) (a : Addr) : World := (asW3 w tb).alloc (.cells #[.int .i64 k, .iface 167 (.pointer (some a))] 107)
theorem asW2_below (w : World) (tb : Nat) : Below w.heap.size w (asW2 w tb) := ((Below.refl _ _).alloc (Nat.le_refl _) _).alloc (by simp) _
theorem asW3_below (w : World) (tb : Nat) : Below w.heap.size w (asW3 w tb) := (asW2_below w tb).alloc (asW2_below w tb).size _
theorem asW4_below (w : World) (tb : Nat) (k : Int) (a : Addr) : Below w.heap.size w (asW4 w tb k a) := (asW3_below w tb).alloc (asW3_below w tb).size _
theorem asW2_own (w : World) (tb : Nat) : (asW2 w tb).cell? ⟨w.heap.size, 0, none⟩ = some (.pointer (some ⟨tb, 0, none⟩)) := cell_of_row _ _ 0 _ _ _ (heap_alloc2_old w _ _)
theorem asW2_size (w : World) (tb : Nat) : (asW2 w tb).heap.size = w.heap.size + 2 := by simp [asW2]
theorem asW3_size (w : World) (tb : Nat) : (asW3 w tb).heap.size = w.heap.size + 3 := by simp [asW3, asW2]
theorem asW3_own (w : World) (tb : Nat) : (asW3 w tb).cell? ⟨w.heap.size, 0, none⟩ = some (.pointer (some ⟨tb, 0, none⟩)) := by
  rw [asW3, World.cell?_alloc_lt _ _ ⟨w.heap.size, 0, none⟩ (show w.heap.size < (asW2 w tb).heap.size by rw [asW2_size]; omega)]; exact asW2_own w tb

set_option maxHeartbeats 4000000 in
theorem as_hit (k : Int) (a : Addr) (tb : Nat) (old : Array Value) (w : World) (hg : w.cell? ⟨1, 0, none⟩ = some (.iface 150 (.agg #[.pointer (some ⟨4, 104, none⟩)]))) (ht : w.heap[tb]? = some (.cells old 107 (0, 0))) (ho : old.size = 2) :
    Calls Tryz.prog 68 #[.iface 107 (.agg #[.int .i64 k, .iface 167 (.pointer (some a))]), .iface 110 (.pointer (some ⟨tb, 0, none⟩))] w fun ev w' => ev = .returned (.bool true) ∧ w' = (asW4 w tb k a).setRow tb #[.int .i64 k, .iface 167 (.pointer (some a))] := by
  have zg := World.block_lt_of_cell? w _ hg
  have zt : tb < w.heap.size := (Array.getElem?_eq_some_iff.1 ht).1
  have h90 := @run_callFunc_extern Tryz.prog 88 _ (ReflectliteValue.method (ReflectliteValue.valueError "reflectlite.Value.IsNil" 0) ReflectliteValue.isNil) Tryz.func88 (by kernel_rfl) (by kernel_rfl) (by kernel_rfl) (by kernel_rfl)
  have h100 := @run_callFunc_extern Tryz.prog 97 _ (ReflectliteValue.method (ReflectliteValue.valueError "reflectlite.Value.Elem" 0) ReflectliteValue.elem) Tryz.func97 (by kernel_rfl) (by kernel_rfl) (by kernel_rfl) (by kernel_rfl)
  have h101 := @run_callFunc_extern Tryz.prog 98 _ ReflectliteValue.set Tryz.func98 (by kernel_rfl) (by kernel_rfl) (by kernel_rfl) (by kernel_rfl)
  have n8 : (callFunc 88 #[.agg #[.pointer (some ⟨4, 110, none⟩), .pointer (some ⟨w.heap.size, 0, none⟩), .int .u64 150]]).run Tryz.prog (asW2 w tb) = .ok (.value (.bool false)) (asW2 w tb) := by
    rw [h90, asIsNil _ _ _ (asW2_own w tb)]; rfl
  have el : (callFunc 97 #[.agg #[.pointer (some ⟨4, 110, none⟩), .pointer (some ⟨w.heap.size, 0, none⟩), .int .u64 150]]).run Tryz.prog (asW3 w tb) = .ok (.value (.agg #[.pointer (some ⟨4, 107, none⟩), .pointer (some ⟨tb, 0, none⟩), .int .u64 409])) (asW3 w tb) := by
    rw [h100, asElemV _ _ _ (asW3_own w tb)]; rfl
  have st : (callFunc 98 #[.agg #[.pointer (some ⟨4, 107, none⟩), .pointer (some ⟨tb, 0, none⟩), .int .u64 409], .agg #[.pointer (some ⟨4, 107, none⟩), .pointer (some ⟨w.heap.size + 3, 0, none⟩), .int .u64 153]]).run Tryz.prog (asW4 w tb k a)
      = .ok (.value (.tuple #[])) ((asW4 w tb k a).setRow tb #[.int .i64 k, .iface 167 (.pointer (some a))]) := by
    rw [h101, asSet tb (w.heap.size + 3) old _ _ _ (by rw [← asW3_size w tb]; exact heap_alloc_last _ _) (by rw [← ht]; exact (asW4_below w tb k a).block _ zt) ho (by simp [Value.oneCell'])]; rfl
  have hg2 : (asW2 w tb).cell? ⟨1, 0, none⟩ = some (.iface 150 (.agg #[.pointer (some ⟨4, 104, none⟩)])) := by
    rw [(asW2_below w tb).cell (p := ⟨1, 0, none⟩) zg]; exact hg
  clear h90 h100 h101 hg ht ho
  unfold asW4 asW3 at *
  unfold asW2 at *
  have v1 := asVal
  have v2 := asType
  have v3 := asMethodKind
  have v4 := asMethodElem
  have v5 := asMethodImplements
  have v6 := asMethodAssignable
  have v7 := asKindP
  have v8 := asKindS
  have v9 := asElem
  have v10 := asImplements
  have v11 := asTypeOf
  have v12 := asAssignable
  have v13 := asValS
  go_enter Tryz.func68, Tryz.ntmps68
  go_wp2
  refine wp_loop_rounds 1 ?_
  rw [rounds_succ]
  go_wp2
  go_ret
  exact ⟨rfl, rfl⟩

end Go.Proofs.YtgkkjlpfkoplhaaGreatDoor
