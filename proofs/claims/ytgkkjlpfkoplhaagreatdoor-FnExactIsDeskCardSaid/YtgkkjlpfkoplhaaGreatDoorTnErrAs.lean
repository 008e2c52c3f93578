/-
  Tennis: errors.As of a stray point at a variable of its type: the library's own text is walked.
-/
import Derived.Test.YtgkkjlpfkoplhaaGreatDoorTnErrIs
import Derived.Deep.WholeRow
namespace Go.Proofs.YtgkkjlpfkoplhaaGreatDoor
open Go.RowKit Go.Extern.Stop Go.Stop Go.Extern
set_option linter.unusedVariables false
set_option linter.unusedSimpArgs false

theorem asVal (t : Addr) (w : World) : (callFunc 86 #[.iface 110 (.pointer (some t))]).run Tryz.prog w
    = .ok (.value (.agg #[.pointer (some ⟨4, 110, none⟩), .pointer (some ⟨w.heap.size, 0, none⟩), .int .u64 150])) (w.alloc (.cells #[.pointer (some t)] 110)) := by kernel_rfl
theorem asType (a : Addr) (w : World) : (callFunc 87 #[.agg #[.pointer (some ⟨4, 110, none⟩), .pointer (some a), .int .u64 150]]).run Tryz.prog w
    = .ok (.value (.iface 150 (.agg #[.pointer (some ⟨4, 110, none⟩)]))) w := by kernel_rfl
theorem asMethodKind (h : Value) (w : World) : (Go.method 300 150 (.agg #[h]) "Kind").run Tryz.prog w = .ok (122, h) w := by kernel_rfl
theorem asMethodElem (h : Value) (w : World) : (Go.method 300 150 (.agg #[h]) "Elem").run Tryz.prog w = .ok (134, .agg #[h]) w := by kernel_rfl
theorem asMethodImplements (h : Value) (w : World) : (Go.method 300 150 (.agg #[h]) "Implements").run Tryz.prog w = .ok (135, .agg #[h]) w := by kernel_rfl
theorem asMethodAssignable (h : Value) (w : World) : (Go.method 300 150 (.agg #[h]) "AssignableTo").run Tryz.prog w = .ok (132, .agg #[h]) w := by kernel_rfl
theorem asKindP (w : World) : (callFunc 122 #[.pointer (some ⟨4, 110, none⟩)]).run Tryz.prog w = .ok (.value (.int .u8 22)) w := by kernel_rfl
theorem asKindS (w : World) : (callFunc 122 #[.pointer (some ⟨4, 107, none⟩)]).run Tryz.prog w = .ok (.value (.int .u8 25)) w := by kernel_rfl
theorem asElem (w : World) : (callFunc 134 #[.agg #[.pointer (some ⟨4, 110, none⟩)]]).run Tryz.prog w = .ok (.value (.iface 150 (.agg #[.pointer (some ⟨4, 107, none⟩)]))) w := by kernel_rfl
theorem asImplements (w : World) : (callFunc 135 #[.agg #[.pointer (some ⟨4, 107, none⟩)], .iface 150 (.agg #[.pointer (some ⟨4, 104, none⟩)])]).run Tryz.prog w = .ok (.value (.bool true)) w := by kernel_rfl
theorem asTypeOf (v : Value) (w : World) : (callFunc 84 #[.iface 107 v]).run Tryz.prog w = .ok (.value (.iface 150 (.agg #[.pointer (some ⟨4, 107, none⟩)]))) w := by kernel_rfl
theorem asAssignable (w : World) : (callFunc 132 #[.agg #[.pointer (some ⟨4, 107, none⟩)], .iface 150 (.agg #[.pointer (some ⟨4, 107, none⟩)])]).run Tryz.prog w = .ok (.value (.bool true)) w := by kernel_rfl
theorem asValS (x y : Value) (w : World) : (callFunc 86 #[.iface 107 (.agg #[x, y])]).run Tryz.prog w
    = .ok (.value (.agg #[.pointer (some ⟨4, 107, none⟩), .pointer (some ⟨w.heap.size, 0, none⟩), .int .u64 153])) (w.alloc (.cells #[x, y] 107)) := by kernel_rfl

end Go.Proofs.YtgkkjlpfkoplhaaGreatDoor
