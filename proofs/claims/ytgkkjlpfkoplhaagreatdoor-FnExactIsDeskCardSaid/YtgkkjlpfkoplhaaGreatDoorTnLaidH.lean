/-
  What the rows that reach errors.As list: the library's handle of a type and the program's two errors; what they give a walk, and a world that meets the list.
-/
import Derived.Test.YtgkkjlpfkoplhaaGreatDoorCards
import Derived.Test.YtgkkjlpfkoplhaaGreatDoorTie
import Derived.Test.YtgkkjlpfkoplhaaGreatDoorBase
import Derived.Test.YtgkkjlpfkoplhaaGreatDoorTnCut
import Derived.ChangeSame
import Derived.ChangeVars
import Derived.JoinedOf
import Derived.RowKitTokens
import Derived.LaidLaws
import Derived.LaidHandle
import Derived.MakeChecks
import Derived.Stop.LaidTwo
import Derived.Stop.Joined
namespace Go.Proofs.YtgkkjlpfkoplhaaGreatDoor
open Go.ChangeShapes Go.WideShapes Go.ChangeAt Go.RowKit

theorem gNo : Tryz.prog.globalNamed "loop.example/g01368/impl.errNoPoint" = some 3 := by kernel_rfl
theorem gEnd : Tryz.prog.globalNamed "loop.example/g01368/impl.errBehindEnd" = some 0 := by kernel_rfl
theorem gHandle : Tryz.prog.globalNamed "errors.errorType" = some 1 := by kernel_rfl
theorem tNo : (Tryz.prog.globals[3]?).map (·.type) = some 104 := by kernel_rfl
theorem tEnd : (Tryz.prog.globals[0]?).map (·.type) = some 104 := by kernel_rfl
theorem ceS : Tryz.prog.cellsOf 188 = 1 := by kernel_rfl
theorem cS : Tryz.prog.cellsOf 9 = 1 := by kernel_rfl
theorem starE : "*" ++ "errors.errorString" = "*errors.errorString" := by decide
theorem rowE (u : TypeId) (h : Tryz.prog.typeName? 3 u = some "*errors.errorString") : u = 167 :=
  typeName_ptr_named (nm := "errors.errorString") (by rw [starE]; kernel_rfl) (by kernel_rfl) (by decide) u (by rw [starE]; exact h)

/-- The two errors alone, and with the handle, as the rows list them. -/
def laidL : List (String × DataW Unit) := [("loop.example/g01368/impl.errNoPoint", Rows.laid_loop_example_g01368_impl_errNoPoint), ("loop.example/g01368/impl.errBehindEnd", Rows.laid_loop_example_g01368_impl_errBehindEnd)]
def laidHL : List (String × DataW Unit) := [("errors.errorType", Rows.laid_errors_errorType), ("loop.example/g01368/impl.errNoPoint", Rows.laid_loop_example_g01368_impl_errNoPoint), ("loop.example/g01368/impl.errBehindEnd", Rows.laid_loop_example_g01368_impl_errBehindEnd)]

theorem parts_of_laid {W : World} (h : laidMetH Tryz.prog laidHL W) : laidMet Tryz.prog laidL W ∧ handlesMet Tryz.prog [("errors.errorType", Rows.laid_errors_errorType)] W := h
theorem errors_of_laid {W : World} (h : laidMetH Tryz.prog laidHL W) : laidMet Tryz.prog laidL W := (parts_of_laid h).1

theorem hRt : (Tryz.prog.cutTypes.find? (·.1 == "internal/reflectlite.rtype")).map (·.2) = some 150 := by kernel_rfl
theorem hOne : ((List.range Tryz.prog.types.size).filter fun t => Tryz.prog.rowNamed t [101, 114, 114, 111, 114]) = [104] := by kernel_rfl
theorem handle_of_laid {W : World} (h : laidMetH Tryz.prog laidHL W) : W.cell? ⟨1, 0, none⟩ = some (.iface 150 (.agg #[.pointer (some ⟨4, 104, none⟩)])) := by
  obtain ⟨name, u, ty, e1, e2, e3, e4, e5⟩ := (parts_of_laid h).2 _ (List.mem_singleton.2 rfl)
  have en : name = [101, 114, 114, 111, 114] := (Option.some.inj e1).symm
  subst en
  obtain rfl := Option.some.inj (hRt.symm.trans e2)
  have hm : ty ∈ (List.range Tryz.prog.types.size).filter fun t => Tryz.prog.rowNamed t [101, 114, 114, 111, 114] := List.mem_filter.2 ⟨List.mem_range.2 e3, e4⟩
  rw [hOne] at hm
  obtain rfl := List.mem_singleton.1 hm
  have hh : typeHandle Tryz.prog 104 = .pointer (some ⟨4, 104, none⟩) := by kernel_rfl
  rw [hh] at e5
  simpa using World.var?_cell gHandle e5 0

set_option maxRecDepth 100000 in
theorem sentinels {W : World} (h : laidMet Tryz.prog laidL W) :
    ∃ (a0 a1 : Addr) (c0 c1 : Array Value) (t0 t1 : TypeId),
      W.var? Tryz.prog "loop.example/g01368/impl.errNoPoint" = some #[.iface 167 (.pointer (some a0))] ∧ W.var? Tryz.prog "loop.example/g01368/impl.errBehindEnd" = some #[.iface 167 (.pointer (some a1))] ∧ a0 ≠ a1 ∧
      W.heap[a0.block]? = some (.cells c0 t0 (0, 0)) ∧ W.heap[a1.block]? = some (.cells c1 t1 (0, 0)) := by
  obtain ⟨a0, a1, s0, s1, c0, c1, t0, t1, hv0, hv1, hc0, hs0, hz0, hc1, hs1, hz1, hne, hb0, hb1⟩ :=
    laid_sentinels2 h gNo tNo gEnd tEnd Tryz.underlying104 rowE Tryz.underlying167 Tryz.underlying188 rfl rfl Tryz.underlying9 ceS cS
  exact ⟨a0, a1, c0, c1, t0, t1, hv0, hv1, hne, hb0, hb1⟩

theorem var_below {W W' : World} {n : String} {cs : Array Value} (h : W.var? Tryz.prog n = some cs) (hb : Below W.heap.size W W') : W'.var? Tryz.prog n = some cs := by
  unfold World.var? at h ⊢
  cases hg : Tryz.prog.globalNamed n with
  | none => simp [hg] at h
  | some g =>
    simp only [hg, Option.bind_some] at h ⊢
    have hlt : g < W.heap.size := by
      rcases Nat.lt_or_ge g W.heap.size with h' | h'
      · exact h'
      · simp [Array.getElem?_eq_none h'] at h
    rw [hb.block g hlt]; exact h

set_option maxRecDepth 100000 in
theorem varsR_read {H : Type} (enc : TypeId × Value → H) {W : World} {x0 x1 : Value} (h1 : W.var? Tryz.prog "loop.example/g01368/impl.errBehindEnd" = some #[x1]) (h0 : W.var? Tryz.prog "loop.example/g01368/impl.errNoPoint" = some #[x0]) (i1 : IsIface x1) (i0 : IsIface x0) (sp : Nat → Bool) :
    DataW.TrodVars enc Tryz.prog W sp ["loop.example/g01368/impl.errBehindEnd", "loop.example/g01368/impl.errNoPoint"] [tok enc x1, tok enc x0] [.cell 0 0, .cell 3 0] :=
  ⟨0, 104, #[x1], 1, [], [.cell 3 0], gEnd, tEnd, h1, trod_held Tryz.underlying104 i1 0, ⟨3, 104, #[x0], 1, [], [], gNo, tNo, h0, trod_held Tryz.underlying104 i0 0, rfl, rfl⟩, rfl⟩

abbrev noS : ByteArray := { data := #[110, 111, 32, 112, 111, 105, 110, 116] }
abbrev endS : ByteArray := { data := #[97, 32, 112, 111, 105, 110, 116, 32, 98, 101, 104, 105, 110, 100, 32, 116, 104, 101, 32, 101, 110, 100] }
noncomputable def low : Nat := (World.holding Tryz.prog default ⟨#[], #[], []⟩).heap.size
/-- A world for the witness: the settled one, the two variables and the handle laid. -/
noncomputable def laidHWorld (os : Os) : World :=
  let w0 := World.holding Tryz.prog os ⟨#[.cells #[.string noS] 188, .cells #[.string endS] 188], #[], []⟩
  { w0 with heap := ((w0.heap.modify 3 fun
      | .cells _ t frozen => .cells #[.iface 167 (.pointer (some ⟨low, 0, none⟩))] t frozen
      | o => o).modify 0 fun
      | .cells _ t frozen => .cells #[.iface 167 (.pointer (some ⟨low + 1, 0, none⟩))] t frozen
      | o => o).modify 1 fun
      | .cells _ t frozen => .cells #[.iface 150 (.agg #[.pointer (some ⟨4, 104, none⟩)])] t frozen
      | o => o }
set_option maxRecDepth 100000 in
theorem laidHWorld_met (os : Os) (args : Array Value) : laidMetH Tryz.prog laidHL ((laidHWorld os).forCall (fun _ _ => 0) ⟨#[], args, []⟩).memory :=
  laidMetH_of_parts (show laidMet Tryz.prog laidL ((laidHWorld os).forCall (fun _ _ => 0) ⟨#[], args, []⟩).memory from
    laidMet_of_run (ps := [.cell 3 0, .cell low 0, .cell 0 0, .cell (low + 1) 0]) 8 (by kernel_rfl) (by kernel_rfl) (by kernel_rfl)) (by kernel_rfl)

end Go.Proofs.YtgkkjlpfkoplhaaGreatDoor
