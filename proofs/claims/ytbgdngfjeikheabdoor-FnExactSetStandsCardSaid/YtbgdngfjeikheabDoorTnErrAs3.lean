/-
  Tennis: errors.As of a stray point at a variable of its type: the walk.
-/
import Derived.Test.YtbgdngfjeikheabDoorTnErrAs2
namespace Go.Proofs.YtbgdngfjeikheabDoor
open Go.RowKit Go.Extern.Stop Go.Stop Go.Extern
set_option linter.unusedVariables false
set_option linter.unusedSimpArgs false

/-- The worlds of the walk. -/
def asW2 (w : World) (tb : Nat) : World := (w.alloc (.cells #[.pointer (some ⟨tb, 0, none⟩)] 116)).alloc (.cells #[.pointer (some ⟨7, 116, none⟩), .pointer (some ⟨w.heap.size, 0, none⟩), .int .u64 150] 127)
def asW3 (w : World) (tb : Nat) : World := (asW2 w tb).alloc (.cells #[.pointer (some ⟨7, 116, none⟩), .pointer (some ⟨w.heap.size, 0, none⟩), .int .u64 150] 127)
def asW4 (w : World) (tb : Nat) (k : Int) (a : Addr) : World := (asW3 w tb).alloc (.cells #[.int .i64 k, .iface 169 (.pointer (some a))] 111)
theorem asW2_below (w : World) (tb : Nat) : Below w.heap.size w (asW2 w tb) := ((Below.refl _ _).alloc (Nat.le_refl _) _).alloc (by simp) _
theorem asW3_below (w : World) (tb : Nat) : Below w.heap.size w (asW3 w tb) := (asW2_below w tb).alloc (asW2_below w tb).size _
theorem asW4_below (w : World) (tb : Nat) (k : Int) (a : Addr) : Below w.heap.size w (asW4 w tb k a) := (asW3_below w tb).alloc (asW3_below w tb).size _
theorem asW2_own (w : World) (tb : Nat) : (asW2 w tb).cell? ⟨w.heap.size, 0, none⟩ = some (.pointer (some ⟨tb, 0, none⟩)) := cell_of_row _ _ 0 _ _ _ (heap_alloc2_old w _ _)
theorem asW2_size (w : World) (tb : Nat) : (asW2 w tb).heap.size = w.heap.size + 2 := by simp [asW2]
theorem asW3_size (w : World) (tb : Nat) : (asW3 w tb).heap.size = w.heap.size + 3 := by simp [asW3, asW2]
theorem asW3_own (w : World) (tb : Nat) : (asW3 w tb).cell? ⟨w.heap.size, 0, none⟩ = some (.pointer (some ⟨tb, 0, none⟩)) := by
  rw [asW3, World.cell?_alloc_lt _ _ ⟨w.heap.size, 0, none⟩ (show w.heap.size < (asW2 w tb).heap.size by rw [asW2_size]; omega)]; exact asW2_own w tb

set_option maxHeartbeats 4000000 in
theorem as_hit (k : Int) (a : Addr) (tb : Nat) (old : Array Value) (w : World) (hg : w.cell? ⟨3, 0, none⟩ = some (.iface 143 (.agg #[.pointer (some ⟨7, 59, none⟩)]))) (ht : w.heap[tb]? = some (.cells old 111 (0, 0))) (ho : old.size = 2) :
    Calls Tryd.prog 112 #[.iface 111 (.agg #[.int .i64 k, .iface 169 (.pointer (some a))]), .iface 116 (.pointer (some ⟨tb, 0, none⟩))] w fun ev w' => ev = .returned (.bool true) ∧ w' = (asW4 w tb k a).setRow tb #[.int .i64 k, .iface 169 (.pointer (some a))] := by
  have zg := World.block_lt_of_cell? w _ hg
  have zt : tb < w.heap.size := (Array.getElem?_eq_some_iff.1 ht).1
  have h90 := @run_callFunc_extern Tryd.prog 121 _ (ReflectliteValue.method (ReflectliteValue.valueError "reflectlite.Value.IsNil" 0) ReflectliteValue.isNil) Tryd.func121 (by kernel_rfl) (by kernel_rfl) (by kernel_rfl) (by kernel_rfl)
  have h100 := @run_callFunc_extern Tryd.prog 133 _ (ReflectliteValue.method (ReflectliteValue.valueError "reflectlite.Value.Elem" 0) ReflectliteValue.elem) Tryd.func133 (by kernel_rfl) (by kernel_rfl) (by kernel_rfl) (by kernel_rfl)
  have h101 := @run_callFunc_extern Tryd.prog 134 _ ReflectliteValue.set Tryd.func134 (by kernel_rfl) (by kernel_rfl) (by kernel_rfl) (by kernel_rfl)
  have n8 : (callFunc 121 #[.agg #[.pointer (some ⟨7, 116, none⟩), .pointer (some ⟨w.heap.size, 0, none⟩), .int .u64 150]]).run Tryd.prog (asW2 w tb) = .ok (.value (.bool false)) (asW2 w tb) := by
    rw [h90, asIsNil _ _ _ (asW2_own w tb)]; rfl
  have el : (callFunc 133 #[.agg #[.pointer (some ⟨7, 116, none⟩), .pointer (some ⟨w.heap.size, 0, none⟩), .int .u64 150]]).run Tryd.prog (asW3 w tb) = .ok (.value (.agg #[.pointer (some ⟨7, 111, none⟩), .pointer (some ⟨tb, 0, none⟩), .int .u64 409])) (asW3 w tb) := by
    rw [h100, asElemV _ _ _ (asW3_own w tb)]; rfl
  have st : (callFunc 134 #[.agg #[.pointer (some ⟨7, 111, none⟩), .pointer (some ⟨tb, 0, none⟩), .int .u64 409], .agg #[.pointer (some ⟨7, 111, none⟩), .pointer (some ⟨w.heap.size + 3, 0, none⟩), .int .u64 153]]).run Tryd.prog (asW4 w tb k a)
      = .ok (.value (.tuple #[])) ((asW4 w tb k a).setRow tb #[.int .i64 k, .iface 169 (.pointer (some a))]) := by
    rw [h101, asSet tb (w.heap.size + 3) old _ _ _ (by rw [← asW3_size w tb]; exact heap_alloc_last _ _) (by rw [← ht]; exact (asW4_below w tb k a).block _ zt) ho (by simp [Value.oneCell'])]; rfl
  have hg2 : (asW2 w tb).cell? ⟨3, 0, none⟩ = some (.iface 143 (.agg #[.pointer (some ⟨7, 59, none⟩)])) := by
    rw [(asW2_below w tb).cell (p := ⟨3, 0, none⟩) zg]; exact hg
  clear h90 h100 h101 hg ht ho
  unfold asW4 asW3 at *
  unfold asW2 at *
  have v1 := asVal
  have v2 := asType
  have v3 := asMethodKind
  have v4 := asMethodElem
  have v5 := asMethodImplements
  have v6 := asMethodAssignable
  have v7 := asKindP
  have v8 := asKindS
  have v9 := asElem
  have v10 := asImplements
  have v11 := asTypeOf
  have v12 := asAssignable
  have v13 := asValS
  go_enter Tryd.func112, Tryd.ntmps112
  go_wp2
  refine wp_loop_rounds 1 ?_
  rw [rounds_succ]
  go_wp2
  go_ret
  exact ⟨rfl, rfl⟩

end Go.Proofs.YtbgdngfjeikheabDoor
