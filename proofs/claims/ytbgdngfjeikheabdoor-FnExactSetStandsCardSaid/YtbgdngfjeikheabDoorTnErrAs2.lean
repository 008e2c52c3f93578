/-
  Tennis: errors.As of a stray point at a variable of its type: the entries that touch memory, and the walk.
-/
import Derived.Test.YtbgdngfjeikheabDoorTnErrAs
namespace Go.Proofs.YtbgdngfjeikheabDoor
open Go.RowKit Go.Extern.Stop Go.Stop Go.Extern
set_option linter.unusedVariables false
set_option linter.unusedSimpArgs false

theorem asPartsP (a : Addr) (w : World) : (ReflectliteValue.parts (.agg #[.pointer (some ⟨7, 116, none⟩), .pointer (some a), .int .u64 150])).run Tryd.prog w = .ok (some (116, a, 150)) w := by kernel_rfl
theorem asPartsD (a : Addr) (w : World) : (ReflectliteValue.parts (.agg #[.pointer (some ⟨7, 111, none⟩), .pointer (some a), .int .u64 409])).run Tryd.prog w = .ok (some (111, a, 409)) w := by kernel_rfl
theorem asPartsS (a : Addr) (w : World) : (ReflectliteValue.parts (.agg #[.pointer (some ⟨7, 111, none⟩), .pointer (some a), .int .u64 153])).run Tryd.prog w = .ok (some (111, a, 153)) w := by kernel_rfl
theorem asElemOf (w : World) : (Rtype.elem? 116).run Tryd.prog w = .ok (some 111) w := by kernel_rfl
theorem asMk (p : Addr) (w : World) : (ReflectliteValue.mk 111 p ReflectliteValue.flagAddr).run Tryd.prog w = .ok (.agg #[.pointer (some ⟨7, 111, none⟩), .pointer (some p), .int .u64 409]) w := by kernel_rfl
theorem asDirect (w : World) : (Rtype.directlyAssignable 111 111).run Tryd.prog w = .ok true w := by kernel_rfl
theorem asSize : (Tryd.prog.info? 111).map (·.size) = some 2 := by kernel_rfl

theorem asIsNil (a p : Addr) (W : World) (ha : W.cell? a = some (.pointer (some p))) :
    (ReflectliteValue.method (ReflectliteValue.valueError "reflectlite.Value.IsNil" 0) ReflectliteValue.isNil #[.agg #[.pointer (some ⟨7, 116, none⟩), .pointer (some a), .int .u64 150]]).run Tryd.prog W = .ok (.bool false) W := by
  delta ReflectliteValue.method
  delta ReflectliteValue.method.match_2
  dsimp only
  rw [dif_pos (show Array.size #[_] = 1 from rfl)]
  simp only [Array.getLit, List.getElem_toArray, List.getElem_cons_zero, List.getElem_cons_succ]
  simp only [Sem.run_bind, asPartsP, Result.andThen]
  simp [ReflectliteValue.isNil, loadVar, isAgg, underlying, Tryd.underlying116, ha, Result.andThen]
theorem asElemV (a p : Addr) (W : World) (ha : W.cell? a = some (.pointer (some p))) :
    (ReflectliteValue.method (ReflectliteValue.valueError "reflectlite.Value.Elem" 0) ReflectliteValue.elem #[.agg #[.pointer (some ⟨7, 116, none⟩), .pointer (some a), .int .u64 150]]).run Tryd.prog W
      = .ok (.agg #[.pointer (some ⟨7, 111, none⟩), .pointer (some p), .int .u64 409]) W := by
  delta ReflectliteValue.method
  delta ReflectliteValue.method.match_2
  dsimp only
  rw [dif_pos (show Array.size #[_] = 1 from rfl)]
  simp only [Array.getLit, List.getElem_toArray, List.getElem_cons_zero, List.getElem_cons_succ]
  simp only [Sem.run_bind, asPartsP, Result.andThen]
  simp [ReflectliteValue.elem, loadVar, isAgg, underlying, Tryd.underlying116, ha, Result.andThen, asElemOf, asMk]
theorem asSet (tb bb : Nat) (old : Array Value) (x y : Value) (W : World) (hb : W.heap[bb]? = some (.cells #[x, y] 111 (0, 0))) (ht : W.heap[tb]? = some (.cells old 111 (0, 0))) (ho : old.size = 2) (h1 : (#[x, y] : Array Value).all (·.oneCell') = true) :
    (ReflectliteValue.set #[.agg #[.pointer (some ⟨7, 111, none⟩), .pointer (some ⟨tb, 0, none⟩), .int .u64 409], .agg #[.pointer (some ⟨7, 111, none⟩), .pointer (some ⟨bb, 0, none⟩), .int .u64 153]]).run Tryd.prog W
      = .ok (.tuple #[]) (W.setRow tb #[x, y]) := by
  have hl := run_loadVar_row (P := Tryd.prog) W bb 111 111 #[x, y] (0, 0) _ hb Tryd.underlying111 rfl asSize
  have hst := run_storeVar_row (P := Tryd.prog) W tb 111 111 old #[x, y] ht asSize ho h1
  delta ReflectliteValue.set
  delta ReflectliteValue.set.match_3
  dsimp only
  rw [dif_pos (show Array.size #[_, _] = 2 from rfl)]
  simp only [Array.getLit, List.getElem_toArray, List.getElem_cons_zero, List.getElem_cons_succ]
  simp only [Sem.run_bind, asPartsD, asPartsS, Result.andThen]
  simp [ReflectliteValue.flagAddr, hl, hst, Result.andThen, asDirect]

end Go.Proofs.YtbgdngfjeikheabDoor
