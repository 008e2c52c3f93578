/-
  Tennis: errors.As of a stray point at a variable of its type: the entries that touch memory, and the walk.
-/
import Derived.Test.YtgkkjlpfkoplhaaGreatDoorTnErrAs
namespace Go.Proofs.YtgkkjlpfkoplhaaGreatDoor
open Go.RowKit Go.Extern.Stop Go.Stop Go.Extern
set_option linter.unusedVariables false
set_option linter.unusedSimpArgs false

theorem asPartsP (a : Addr) (w : World) : (ReflectliteValue.parts (.agg #[.pointer (some ⟨4, 110, none⟩), .pointer (some a), .int .u64 150])).run Tryz.prog w = .ok (some (110, a, 150)) w := by kernel_rfl
theorem asPartsD (a : Addr) (w : World) : (ReflectliteValue.parts (.agg #[.pointer (some ⟨4, 107, none⟩), .pointer (some a), .int .u64 409])).run Tryz.prog w = .ok (some (107, a, 409)) w := by kernel_rfl
theorem asPartsS (a : Addr) (w : World) : (ReflectliteValue.parts (.agg #[.pointer (some ⟨4, 107, none⟩), .pointer (some a), .int .u64 153])).run Tryz.prog w = .ok (some (107, a, 153)) w := by kernel_rfl
theorem asElemOf (w : World) : (Rtype.elem? 110).run Tryz.prog w = .ok (some 107) w := by kernel_rfl
theorem asMk (p : Addr) (w : World) : (ReflectliteValue.mk 107 p ReflectliteValue.flagAddr).run Tryz.prog w = .ok (.agg #[.pointer (some ⟨4, 107, none⟩), .pointer (some p), .int .u64 409]) w := by kernel_rfl
theorem asDirect (w : World) : (Rtype.directlyAssignable 107 107).run Tryz.prog w = .ok true w := by kernel_rfl
theorem asSize : (Tryz.prog.info? 107).map (·.size) = some 2 := by kernel_rfl

theorem asIsNil (a p : Addr) (W : World) (ha : W.cell? a = some (.pointer (some p))) :
    (ReflectliteValue.method (ReflectliteValue.valueError "reflectlite.Value.IsNil" 0) ReflectliteValue.isNil #[.agg #[.pointer (some ⟨4, 110, none⟩), .pointer (some a), .int .u64 150]]).run Tryz.prog W = .ok (.bool false) W := by
  delta ReflectliteValue.method
  delta ReflectliteValue.method.match_2
  dsimp only
  rw [dif_pos (show Array.size #[_] = 1 from rfl)]
  simp only [Array.getLit, List.getElem_toArray, List.getElem_cons_zero, List.getElem_cons_succ]
  simp only [Sem.run_bind, asPartsP, Result.andThen]
  simp [ReflectliteValue.isNil, loadVar, isAgg, underlying, Tryz.underlying110, ha, Result.andThen]
theorem asElemV (a p : Addr) (W : World) (ha : W.cell? a = some (.pointer (some p))) :
    (ReflectliteValue.method (ReflectliteValue.valueError "reflectlite.Value.Elem" 0) ReflectliteValue.elem #[.agg #[.pointer (some ⟨4, 110, none⟩), .pointer (some a), .int .u64 150]]).run Tryz.prog W
      = .ok (.agg #[.pointer (some ⟨4, 107, none⟩), .pointer (some p), .int .u64 409]) W := by
  delta ReflectliteValue.method
  delta ReflectliteValue.method.match_2
  dsimp only
  rw [dif_pos (show Array.size #[_] = 1 from rfl)]
  simp only [Array.getLit, List.getElem_toArray, List.getElem_cons_zero, List.getElem_cons_succ]
  simp only [Sem.run_bind, asPartsP, Result.andThen]
  simp [ReflectliteValue.elem, loadVar, isAgg, underlying, Tryz.underlying110, ha, Result.andThen, asElemOf, asMk]
theorem asSet (tb bb : Nat) (old : Array Value) (x y : Value) (W : World) (hb : W.heap[bb]? = some (.cells #[x, y] 107 (0, 0))) (ht : W.heap[tb]? = some (.cells old 107 (0, 0))) (ho : old.size = 2) (h1 : (#[x, y] : Array Value).all (·.oneCell') = true) :
    (ReflectliteValue.set #[.agg #[.pointer (some ⟨4, 107, none⟩), .pointer (some ⟨tb, 0, none⟩), .int .u64 409], .agg #[.pointer (some ⟨4, 107, none⟩), .pointer (some ⟨bb, 0, none⟩), .int .u64 153]]).run Tryz.prog W
      = .ok (.tuple #[]) (W.setRow tb #[x, y]) := by
  have hl := run_loadVar_row (P := Tryz.prog) W bb 107 107 #[x, y] (0, 0) _ hb Tryz.underlying107 rfl asSize
  have hst := run_storeVar_row (P := Tryz.prog) W tb 107 107 old #[x, y] ht asSize ho h1
  delta ReflectliteValue.set
  delta ReflectliteValue.set.match_3
  dsimp only
  rw [dif_pos (show Array.size #[_, _] = 2 from rfl)]
  simp only [Array.getLit, List.getElem_toArray, List.getElem_cons_zero, List.getElem_cons_succ]
  simp only [Sem.run_bind, asPartsD, asPartsS, Result.andThen]
  simp [ReflectliteValue.flagAddr, hl, hst, Result.andThen, asDirect]

end Go.Proofs.YtgkkjlpfkoplhaaGreatDoor
