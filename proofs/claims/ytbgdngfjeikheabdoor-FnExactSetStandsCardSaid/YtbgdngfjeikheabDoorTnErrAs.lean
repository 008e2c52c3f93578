/-
  Tennis: errors.As of a stray point at a variable of its type: the library's own text is walked.
-/
import Derived.Test.YtbgdngfjeikheabDoorTnErrIs
import Derived.Deep.WholeRow
namespace Go.Proofs.YtbgdngfjeikheabDoor
open Go.RowKit Go.Extern.Stop Go.Stop Go.Extern
set_option linter.unusedVariables false
set_option linter.unusedSimpArgs false

theorem asVal (t : Addr) (w : World) : (callFunc 119 #[.iface 116 (.pointer (some t))]).run Tryd.prog w
    = .ok (.value (.agg #[.pointer (some ⟨7, 116, none⟩), .pointer (some ⟨w.heap.size, 0, none⟩), .int .u64 150])) (w.alloc (.cells #[.pointer (some t)] 116)) := by kernel_rfl
theorem asType (a : Addr) (w : World) : (callFunc 120 #[.agg #[.pointer (some ⟨7, 116, none⟩), .pointer (some a), .int .u64 150]]).run Tryd.prog w
    = .ok (.value (.iface 143 (.agg #[.pointer (some ⟨7, 116, none⟩)]))) w := by kernel_rfl
theorem asMethodKind (h : Value) (w : World) : (Go.method 302 143 (.agg #[h]) "Kind").run Tryd.prog w = .ok (158, h) w := by kernel_rfl
theorem asMethodElem (h : Value) (w : World) : (Go.method 302 143 (.agg #[h]) "Elem").run Tryd.prog w = .ok (169, .agg #[h]) w := by kernel_rfl
theorem asMethodImplements (h : Value) (w : World) : (Go.method 302 143 (.agg #[h]) "Implements").run Tryd.prog w = .ok (170, .agg #[h]) w := by kernel_rfl
theorem asMethodAssignable (h : Value) (w : World) : (Go.method 302 143 (.agg #[h]) "AssignableTo").run Tryd.prog w = .ok (167, .agg #[h]) w := by kernel_rfl
theorem asKindP (w : World) : (callFunc 158 #[.pointer (some ⟨7, 116, none⟩)]).run Tryd.prog w = .ok (.value (.int .u8 22)) w := by kernel_rfl
theorem asKindS (w : World) : (callFunc 158 #[.pointer (some ⟨7, 111, none⟩)]).run Tryd.prog w = .ok (.value (.int .u8 25)) w := by kernel_rfl
theorem asElem (w : World) : (callFunc 169 #[.agg #[.pointer (some ⟨7, 116, none⟩)]]).run Tryd.prog w = .ok (.value (.iface 143 (.agg #[.pointer (some ⟨7, 111, none⟩)]))) w := by kernel_rfl
theorem asImplements (w : World) : (callFunc 170 #[.agg #[.pointer (some ⟨7, 111, none⟩)], .iface 143 (.agg #[.pointer (some ⟨7, 59, none⟩)])]).run Tryd.prog w = .ok (.value (.bool true)) w := by kernel_rfl
theorem asTypeOf (v : Value) (w : World) : (callFunc 117 #[.iface 111 v]).run Tryd.prog w = .ok (.value (.iface 143 (.agg #[.pointer (some ⟨7, 111, none⟩)]))) w := by kernel_rfl
theorem asAssignable (w : World) : (callFunc 167 #[.agg #[.pointer (some ⟨7, 111, none⟩)], .iface 143 (.agg #[.pointer (some ⟨7, 111, none⟩)])]).run Tryd.prog w = .ok (.value (.bool true)) w := by kernel_rfl
theorem asValS (x y : Value) (w : World) : (callFunc 119 #[.iface 111 (.agg #[x, y])]).run Tryd.prog w
    = .ok (.value (.agg #[.pointer (some ⟨7, 111, none⟩), .pointer (some ⟨w.heap.size, 0, none⟩), .int .u64 153])) (w.alloc (.cells #[x, y] 111)) := by kernel_rfl

end Go.Proofs.YtbgdngfjeikheabDoor
