/-
  Tennis: errors.Is of a stray point: the library's own text is walked.
-/
import Derived.Test.YtgkkjlpfkoplhaaGreatDoorBase
import Derived.LaidEql
import Derived.Stop.Asserts
import Derived.RowKitTokens
namespace Go.Proofs.YtgkkjlpfkoplhaaGreatDoor
open Go.RowKit Go.Extern.Stop Go.Stop Go.Extern
set_option linter.unusedVariables false
set_option linter.unusedSimpArgs false

theorem isTypeOf (v : Value) (w : World) : (callFunc 84 #[.iface 167 v]).run Tryz.prog w = .ok (.value (.iface 150 (.agg #[.pointer (some ⟨4, 167, none⟩)]))) w := by kernel_rfl
theorem isComparable (w : World) : (callFunc 133 #[.agg #[.pointer (some ⟨4, 167, none⟩)]]).run Tryz.prog w = .ok (.value (.bool true)) w := by kernel_rfl
theorem isMethodComparable (v : Value) (w : World) : (Go.method 300 150 v "Comparable").run Tryz.prog w = .ok (133, v) w := by kernel_rfl
theorem isComp : (Tryz.prog.info? 167).map (·.comparable) = some true := by kernel_rfl
theorem isSize : (Tryz.prog.info? 188).map (·.size) = some 1 := by kernel_rfl
theorem noIsE (v : Value) (xT : TypeId) (w : World) : (Instr.typeAssert (.iface 167 v) xT 152 true).run Tryz.prog w = .ok (.tuple #[.nilIface, .bool false]) w := run_typeAssert_lacksB Tryz.underlying152 (by kernel_rfl) (by kernel_rfl) v xT w
theorem noUnwrapE (v : Value) (xT : TypeId) (w : World) : (Instr.typeAssert (.iface 167 v) xT 155 true).run Tryz.prog w = .ok (.tuple #[.nilIface, .bool false]) w := run_typeAssert_lacksB Tryz.underlying155 (by kernel_rfl) (by kernel_rfl) v xT w
theorem noUnwrapsE (v : Value) (xT : TypeId) (w : World) : (Instr.typeAssert (.iface 167 v) xT 157 true).run Tryz.prog w = .ok (.tuple #[.nilIface, .bool false]) w := run_typeAssert_lacksB Tryz.underlying157 (by kernel_rfl) (by kernel_rfl) v xT w
theorem noIsS (v : Value) (xT : TypeId) (w : World) : (Instr.typeAssert (.iface 107 v) xT 152 true).run Tryz.prog w = .ok (.tuple #[.nilIface, .bool false]) w := run_typeAssert_lacksB Tryz.underlying152 (by kernel_rfl) (by kernel_rfl) v xT w
theorem hasUnwrapS (v : Value) (xT : TypeId) (w : World) : (Instr.typeAssert (.iface 107 v) xT 155 true).run Tryz.prog w = .ok (.tuple #[.iface 107 v, .bool true]) w := run_typeAssert_hasB Tryz.underlying155 (by kernel_rfl) v xT w
theorem methodUnwrapS (v : Value) (w : World) : (Go.method 300 107 v "Unwrap").run Tryz.prog w = .ok (127, v) w := by kernel_rfl

/-- errors.Is of a stray point whose cause is the very error. -/
theorem is_same (k : Int) (a : Addr) (w : World) :
    Calls Tryz.prog 67 #[.iface 107 (.agg #[.int .i64 k, .iface 167 (.pointer (some a))]), .iface 167 (.pointer (some a))] w fun e w' => e = .returned (.bool true) ∧ Below w.heap.size w w' := by
  obtain ⟨i, hi, hcmp⟩ := Option.map_eq_some_iff.1 isComp
  obtain ⟨j, hj, hjs⟩ := Option.map_eq_some_iff.1 isSize
  have tT := isTypeOf
  have cT := isComparable
  have mR := isMethodComparable
  have nS := noIsS
  have uS := hasUnwrapS
  have mU := methodUnwrapS
  have h0 := fun w => run_eql_iface_types (P := Tryz.prog) 107 167 (.agg #[.int .i64 k, .iface 167 (.pointer (some a))]) (.pointer (some a)) Tryz.underlying104 (by decide) w
  have heq := fun w => run_eql_iface_ptr_same (P := Tryz.prog) w a Tryz.underlying104 Tryz.underlying167 hi hcmp hj
  go_enter Tryz.func67, Tryz.ntmps67
  go_wp2
  refine wp_loop_rounds 2 ?_
  rw [rounds_succ]
  go_wp2
  rw [rounds_succ]
  go_wp2
  go_ret
  refine ⟨rfl, ?_⟩
  (repeat (first | exact Below.refl _ _ | exact ‹Below _ _ _› | refine Below.drew ?_ | refine Below.alloc ?_ (by first | omega | (simp; done) | (simp; omega)) _ | refine Below.setCell ?_ (by first | omega | (simp; done) | (simp; omega)) _ | refine Below.trans ?_ (Below.mono ‹Below _ _ _› (by first | omega | (simp; done) | (simp; omega)))))

/-- errors.Is of a stray point whose cause is another error. -/
theorem is_other (k : Int) (a b : Addr) (ca cb : Array Value) (ta tb : TypeId) (w : World) (hne : a ≠ b) (ha : w.heap[a.block]? = some (.cells ca ta (0, 0))) (hb : w.heap[b.block]? = some (.cells cb tb (0, 0))) :
    Calls Tryz.prog 67 #[.iface 107 (.agg #[.int .i64 k, .iface 167 (.pointer (some a))]), .iface 167 (.pointer (some b))] w fun e w' => e = .returned (.bool false) ∧ Below w.heap.size w w' := by
  obtain ⟨i, hi, hcmp⟩ := Option.map_eq_some_iff.1 isComp
  obtain ⟨j, hj, hjs⟩ := Option.map_eq_some_iff.1 isSize
  have tT := isTypeOf
  have cT := isComparable
  have mR := isMethodComparable
  have nS := noIsS
  have uS := hasUnwrapS
  have mU := methodUnwrapS
  have nE := noIsE
  have uE := noUnwrapE
  have vE := noUnwrapsE
  have h0 := fun w => run_eql_iface_types (P := Tryz.prog) 107 167 (.agg #[.int .i64 k, .iface 167 (.pointer (some a))]) (.pointer (some b)) Tryz.underlying104 (by decide) w
  have la : a.block < w.heap.size := (Array.getElem?_eq_some_iff.1 ha).1
  have lb : b.block < w.heap.size := (Array.getElem?_eq_some_iff.1 hb).1
  have heq := run_eql_iface_ptr_other (P := Tryz.prog) (w.alloc (.cells #[.int .i64 k, .iface 167 (.pointer (some a))] 107)) Tryz.underlying104 Tryz.underlying167 hi hcmp hj (by rw [hjs]; decide) hne (by rw [← ha]; exact ((Below.refl w.heap.size w).alloc (Nat.le_refl _) _).block _ la) (by rw [← hb]; exact ((Below.refl w.heap.size w).alloc (Nat.le_refl _) _).block _ lb)
  clear ha hb la lb
  go_enter Tryz.func67, Tryz.ntmps67
  go_wp2
  refine wp_loop_rounds 2 ?_
  rw [rounds_succ]
  go_wp2
  rw [rounds_succ]
  go_wp2
  go_ret
  refine ⟨rfl, ?_⟩
  (repeat (first | exact Below.refl _ _ | exact ‹Below _ _ _› | refine Below.drew ?_ | refine Below.alloc ?_ (by first | omega | (simp; done) | (simp; omega)) _ | refine Below.setCell ?_ (by first | omega | (simp; done) | (simp; omega)) _ | refine Below.trans ?_ (Below.mono ‹Below _ _ _› (by first | omega | (simp; done) | (simp; omega)))))

end Go.Proofs.YtgkkjlpfkoplhaaGreatDoor
