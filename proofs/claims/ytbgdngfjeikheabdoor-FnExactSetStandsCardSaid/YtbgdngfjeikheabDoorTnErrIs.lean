/-
  Tennis: errors.Is of a stray point: the library's own text is walked.
-/
import Derived.Test.YtbgdngfjeikheabDoorBase
import Derived.LaidEql
import Derived.Stop.Asserts
import Derived.RowKitTokens
namespace Go.Proofs.YtbgdngfjeikheabDoor
open Go.RowKit Go.Extern.Stop Go.Stop Go.Extern
set_option linter.unusedVariables false
set_option linter.unusedSimpArgs false

theorem isTypeOf (v : Value) (w : World) : (callFunc 117 #[.iface 169 v]).run Tryd.prog w = .ok (.value (.iface 143 (.agg #[.pointer (some ⟨7, 169, none⟩)]))) w := by kernel_rfl
theorem isComparable (w : World) : (callFunc 168 #[.agg #[.pointer (some ⟨7, 169, none⟩)]]).run Tryd.prog w = .ok (.value (.bool true)) w := by kernel_rfl
theorem isMethodComparable (v : Value) (w : World) : (Go.method 302 143 v "Comparable").run Tryd.prog w = .ok (168, v) w := by kernel_rfl
theorem isComp : (Tryd.prog.info? 169).map (·.comparable) = some true := by kernel_rfl
theorem isSize : (Tryd.prog.info? 190).map (·.size) = some 1 := by kernel_rfl
theorem noIsE (v : Value) (xT : TypeId) (w : World) : (Instr.typeAssert (.iface 169 v) xT 145 true).run Tryd.prog w = .ok (.tuple #[.nilIface, .bool false]) w := run_typeAssert_lacksB Tryd.underlying145 (by kernel_rfl) (by kernel_rfl) v xT w
theorem noUnwrapE (v : Value) (xT : TypeId) (w : World) : (Instr.typeAssert (.iface 169 v) xT 148 true).run Tryd.prog w = .ok (.tuple #[.nilIface, .bool false]) w := run_typeAssert_lacksB Tryd.underlying148 (by kernel_rfl) (by kernel_rfl) v xT w
theorem noUnwrapsE (v : Value) (xT : TypeId) (w : World) : (Instr.typeAssert (.iface 169 v) xT 150 true).run Tryd.prog w = .ok (.tuple #[.nilIface, .bool false]) w := run_typeAssert_lacksB Tryd.underlying150 (by kernel_rfl) (by kernel_rfl) v xT w
theorem noIsS (v : Value) (xT : TypeId) (w : World) : (Instr.typeAssert (.iface 111 v) xT 145 true).run Tryd.prog w = .ok (.tuple #[.nilIface, .bool false]) w := run_typeAssert_lacksB Tryd.underlying145 (by kernel_rfl) (by kernel_rfl) v xT w
theorem hasUnwrapS (v : Value) (xT : TypeId) (w : World) : (Instr.typeAssert (.iface 111 v) xT 148 true).run Tryd.prog w = .ok (.tuple #[.iface 111 v, .bool true]) w := run_typeAssert_hasB Tryd.underlying148 (by kernel_rfl) v xT w
theorem methodUnwrapS (v : Value) (w : World) : (Go.method 302 111 v "Unwrap").run Tryd.prog w = .ok (162, v) w := by kernel_rfl

/-- errors.Is of a stray point whose cause is the very error. -/
theorem is_same (k : Int) (a : Addr) (w : World) :
    Calls Tryd.prog 111 #[.iface 111 (.agg #[.int .i64 k, .iface 169 (.pointer (some a))]), .iface 169 (.pointer (some a))] w fun e w' => e = .returned (.bool true) ∧ Below w.heap.size w w' := by
  obtain ⟨i, hi, hcmp⟩ := Option.map_eq_some_iff.1 isComp
  obtain ⟨j, hj, hjs⟩ := Option.map_eq_some_iff.1 isSize
  have tT := isTypeOf
  have cT := isComparable
  have mR := isMethodComparable
  have nS := noIsS
  have uS := hasUnwrapS
  have mU := methodUnwrapS
  have h0 := fun w => run_eql_iface_types (P := Tryd.prog) 111 169 (.agg #[.int .i64 k, .iface 169 (.pointer (some a))]) (.pointer (some a)) Tryd.underlying59 (by decide) w
  have heq := fun w => run_eql_iface_ptr_same (P := Tryd.prog) w a Tryd.underlying59 Tryd.underlying169 hi hcmp hj
  go_enter Tryd.func111, Tryd.ntmps111
  go_wp2
  refine wp_loop_rounds 2 ?_
  rw [rounds_succ]
  go_wp2
  rw [rounds_succ]
  go_wp2
  go_ret
  refine ⟨rfl, ?_⟩
  (repeat (first | exact Below.refl _ _ | exact ‹Below _ _ _› | refine Below.drew ?_ | refine Below.alloc ?_ (by first | omega | (simp; done) | (simp; omega)) _ | refine Below.setCell ?_ (by first | omega | (simp; done) | (simp; omega)) _ | refine Below.trans ?_ (Below.mono ‹Below _ _ _› (by first | omega | (simp; done) | (simp; omega)))))

/-- errors.Is of a stray point whose cause is another error. -/
theorem is_other (k : Int) (a b : Addr) (ca cb : Array Value) (ta tb : TypeId) (w : World) (hne : a ≠ b) (ha : w.heap[a.block]? = some (.cells ca ta (0, 0))) (hb : w.heap[b.block]? = some (.cells cb tb (0, 0))) :
    Calls Tryd.prog 111 #[.iface 111 (.agg #[.int .i64 k, .iface 169 (.pointer (some a))]), .iface 169 (.pointer (some b))] w fun e w' => e = .returned (.bool false) ∧ Below w.heap.size w w' := by
  obtain ⟨i, hi, hcmp⟩ := Option.map_eq_some_iff.1 isComp
  obtain ⟨j, hj, hjs⟩ := Option.map_eq_some_iff.1 isSize
  have tT := isTypeOf
  have cT := isComparable
  have mR := isMethodComparable
  have nS := noIsS
  have uS := hasUnwrapS
  have mU := methodUnwrapS
  have nE := noIsE
  have uE := noUnwrapE
  have vE := noUnwrapsE
  have h0 := fun w => run_eql_iface_types (P := Tryd.prog) 111 169 (.agg #[.int .i64 k, .iface 169 (.pointer (some a))]) (.pointer (some b)) Tryd.underlying59 (by decide) w
  have la : a.block < w.heap.size := (Array.getElem?_eq_some_iff.1 ha).1
  have lb : b.block < w.heap.size := (Array.getElem?_eq_some_iff.1 hb).1
  have heq := run_eql_iface_ptr_other (P := Tryd.prog) (w.alloc (.cells #[.int .i64 k, .iface 169 (.pointer (some a))] 111)) Tryd.underlying59 Tryd.underlying169 hi hcmp hj (by rw [hjs]; decide) hne (by rw [← ha]; exact ((Below.refl w.heap.size w).alloc (Nat.le_refl _) _).block _ la) (by rw [← hb]; exact ((Below.refl w.heap.size w).alloc (Nat.le_refl _) _).block _ lb)
  clear ha hb la lb
  go_enter Tryd.func111, Tryd.ntmps111
  go_wp2
  refine wp_loop_rounds 2 ?_
  rw [rounds_succ]
  go_wp2
  rw [rounds_succ]
  go_wp2
  go_ret
  refine ⟨rfl, ?_⟩
  (repeat (first | exact Below.refl _ _ | exact ‹Below _ _ _› | refine Below.drew ?_ | refine Below.alloc ?_ (by first | omega | (simp; done) | (simp; omega)) _ | refine Below.setCell ?_ (by first | omega | (simp; done) | (simp; omega)) _ | refine Below.trans ?_ (Below.mono ‹Below _ _ _› (by first | omega | (simp; done) | (simp; omega)))))

end Go.Proofs.YtbgdngfjeikheabDoor
