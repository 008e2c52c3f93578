/-
  Tennis: the door behind which points are raised.
-/
import Derived.Test.YtgkkjlpfkoplhaaGreatDoorTnStray
import Derived.Defers
import Derived.Recover
import Derived.Stop.Asserts
namespace Go.Proofs.YtgkkjlpfkoplhaaGreatDoor
open Go.RowKit

theorem isErr (v : Value) (xT : TypeId) (w : World) : (Instr.typeAssert (.iface 107 v) xT 104 true).run Tryz.prog w = .ok (.tuple #[.iface 107 v, .bool true]) w :=
  run_typeAssert_hasB Tryz.underlying104 (by kernel_rfl) v xT w

theorem catch_panicking (p : Addr) (old v : Value) (older : List PanicEntry) (w : World) (hc : w.cell? p = some old) (hz : w.frozen? p = false) :
    CallsD Tryz.prog 82 #[.pointer (some p)] (.panicking ({ v := .iface 107 v, recovered := false } :: older)) w fun e u' w' =>
      e = .returned (.tuple #[]) ∧ u' = .panicking ({ v := .iface 107 v, recovered := true } :: older) ∧ w' = w.setCell p (.iface 107 v) := by
  have ha := isErr v
  refine callsD_of_wpS Tryz.func82 rfl fun c₀ cs hu => ?_
  apply wpS_seq
  apply wpS_region
  simp [wpOpsS, go_sem, recoverD, hu, Tryz.ntmps82, Exit.thenS, ha]
  apply wpS_seq
  apply wpS_region
  simp [wpOpsS, go_sem, Exit.thenS]
  refine wpS_cond (t := true) (by simp [Act.eval, Array.replicate]) ?_
  simp only [if_true]
  apply wpS_region
  simp [wpOpsS, go_sem, hc, hz, bodyPostS, results, Tryz.results82]

theorem isErrNil (xT : TypeId) (w : World) : (Instr.typeAssert .nilIface xT 104 true).run Tryz.prog w = .ok (.tuple #[.nilIface, .bool false]) w := by
  simp [Instr.typeAssert, run_underlying Tryz.underlying104, go_sem]

theorem catch_idle (p : Addr) (w : World) :
    CallsD Tryz.prog 82 #[.pointer (some p)] .returning w fun e u' w' => e = .returned (.tuple #[]) ∧ u' = .returning ∧ w' = w := by
  have ha := isErrNil
  refine callsD_of_wpS Tryz.func82 rfl fun c₀ cs hu => ?_
  apply wpS_seq
  apply wpS_region
  simp [wpOpsS, go_sem, recoverD, hu, Tryz.ntmps82, Exit.thenS, ha]
  apply wpS_seq
  apply wpS_region
  simp [wpOpsS, go_sem, Exit.thenS]
  refine wpS_cond (t := false) (by simp [Act.eval, Array.replicate]) ?_
  simp only [Bool.false_eq_true, if_false]
  refine wpS_of_wp (wp_skip ?_)
  cases c₀
  simp_all [bodyPostS, results, Tryz.results82]

/-- What is handed back of a look at a play. -/
def checkV (p0 p1 : Addr) : Option (Nat × Bool) → Value
  | none => .nilIface
  | some x => strayV p0 p1 x

set_option maxHeartbeats 1600000 in
theorem checkPlay_any (to : Int) (s : ByteArray) (p0 p1 : Addr) (w : World) (hs : (s.size : Int) ≤ 1000000000000)
    (h0 : w.cell? ⟨3, 0, none⟩ = some (errV p0)) (h1 : w.cell? ⟨0, 0, none⟩ = some (errV p1)) :
    Calls Tryz.prog 66 #[.agg #[.int .i64 to, .int .i64 2], .string s] w fun e w' => e = .returned (checkV p0 p1 (strayAt to s.data.toList)) ∧ Below w.heap.size w w' := by
  have hmf : ∀ (fn : Fn) (first cap : Array Value) (w : World), (Instr.makeFunc fn first cap).run Tryz.prog w = .ok (.func fn first cap) w := fun _ _ _ _ => rfl
  have z0 := World.block_lt_of_cell? w _ h0
  have z1 := World.block_lt_of_cell? w _ h1
  have hW : ∃ W1, W1 = (w.alloc (.cells #[.int .i64 to, .int .i64 2] 78)).alloc (.cells #[.nilIface] 104) := ⟨_, rfl⟩
  obtain ⟨W1, hW1⟩ := hW
  have k0 : W1.cell? ⟨w.heap.size + 1, 0, none⟩ = some .nilIface ∧ W1.frozen? ⟨w.heap.size + 1, 0, none⟩ = false ∧ w.heap.size + 1 < W1.heap.size ∧ Below w.heap.size w W1 ∧ W1.cell? ⟨3, 0, none⟩ = some (errV p0) ∧ W1.cell? ⟨0, 0, none⟩ = some (errV p1) := by
    have hb : Below w.heap.size w W1 := by rw [hW1]; exact ((Below.refl _ _).alloc (Nat.le_refl _) _).alloc (by simp) _
    refine ⟨?_, ?_, ?_, hb, by rw [hb.cell (p := ⟨3, 0, none⟩) z0]; exact h0, by rw [hb.cell (p := ⟨0, 0, none⟩) z1]; exact h1⟩
    · rw [hW1]; exact cell_of_row _ _ 0 _ _ _ (heap_alloc2_new w _ _)
    · rw [hW1]; exact frozen_of_row _ _ 0 _ _ (heap_alloc2_new w _ _)
    · rw [hW1]; simp
  have hrs := raiseStray_any to s p0 p1 W1 hs k0.2.2.2.2.1 k0.2.2.2.2.2
  have K := Lib.hid (And.intro k0 hrs); clear k0 hrs h0 h1
  have HW := Lib.hid hW1.symm; clear hW1
  cases hst : strayAt to s.data.toList with
  | none =>
    have HST := Lib.hid hst; clear hst
    go_enter_defers Tryz.func66, Tryz.ntmps66
    go_wp2_with fail
    rw [HW.out]
    refine K.out.2.mono ?_; rintro e w2 ⟨rfl, bd⟩
    rw [HST.out]
    have c2 : w2.cell? ⟨w.heap.size + 1, 0, none⟩ = some .nilIface := by rw [bd.cell (p := ⟨w.heap.size + 1, 0, none⟩) K.out.1.2.2.1]; exact K.out.1.1
    have f2 : w2.frozen? ⟨w.heap.size + 1, 0, none⟩ = false := by rw [bd.frozen (p := ⟨w.heap.size + 1, 0, none⟩) K.out.1.2.2.1]; exact K.out.1.2.1
    have HB := Lib.hid (K.out.1.2.2.2.1.trans (bd.mono (Nat.le_of_lt (Nat.lt_of_succ_lt K.out.1.2.2.1)))); clear bd
    unfold strayE
    go_wp2_with fail
    refine leaves_cons (f := 82) (args := #[.pointer (some ⟨w.heap.size + 1, 0, none⟩)]) (by simp) (by simp [go_sem]) ?_
    refine (catch_idle ⟨w.heap.size + 1, 0, none⟩ _).mono ?_
    rintro e u' w'' ⟨rfl, rfl, rfl⟩
    have hbel := HB.out.setCell (p := ⟨w.heap.size + 1, 0, none⟩) (Nat.le_succ _) .nilIface
    simp [Leaves, settle, results, Tryz.results66, go_sem, c2, checkV]
    exact hbel
  | some x =>
    have HST := Lib.hid hst; clear hst
    obtain ⟨n, b⟩ := x
    cases b
    all_goals
      go_enter_defers Tryz.func66, Tryz.ntmps66
      go_wp2_with fail
      rw [HW.out]
      refine K.out.2.mono ?_; rintro e w2 ⟨rfl, bd⟩
      rw [HST.out]
      have c2 : w2.cell? ⟨w.heap.size + 1, 0, none⟩ = some .nilIface := by rw [bd.cell (p := ⟨w.heap.size + 1, 0, none⟩) K.out.1.2.2.1]; exact K.out.1.1
      have f2 : w2.frozen? ⟨w.heap.size + 1, 0, none⟩ = false := by rw [bd.frozen (p := ⟨w.heap.size + 1, 0, none⟩) K.out.1.2.2.1]; exact K.out.1.2.1
      have HB := Lib.hid (K.out.1.2.2.2.1.trans (bd.mono (Nat.le_of_lt (Nat.lt_of_succ_lt K.out.1.2.2.1)))); clear bd
      unfold strayE strayV
      go_wp2_with fail
      refine leaves_cons (f := 82) (args := #[.pointer (some ⟨w.heap.size + 1, 0, none⟩)]) (by simp) (by simp [go_sem]) ?_
      refine (catch_panicking ⟨w.heap.size + 1, 0, none⟩ _ _ _ _ c2 f2).mono ?_
      rintro e u' w'' ⟨rfl, rfl, rfl⟩
      have hbel := fun v => HB.out.setCell (p := ⟨w.heap.size + 1, 0, none⟩) (Nat.le_succ _) v
      simp [Leaves, settle, results, Tryz.results66, go_sem, c2, checkV, strayV]
      exact hbel _

end Go.Proofs.YtgkkjlpfkoplhaaGreatDoor
