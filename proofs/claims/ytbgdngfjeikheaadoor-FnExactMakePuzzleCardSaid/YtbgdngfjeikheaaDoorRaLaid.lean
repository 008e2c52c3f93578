/-
  The two errors of the program that the rows list: what the list gives a walk, and how they read.
-/
import Derived.Test.YtbgdngfjeikheaaDoorCards
import Derived.Test.YtbgdngfjeikheaaDoorTie
import Derived.Test.YtbgdngfjeikheaaDoorRaCheck
import Derived.ChangeSame
import Derived.ChangeVars
import Derived.JoinedOf
import Derived.RowKitTokens
import Derived.LaidLaws
import Derived.LaidHandle
import Derived.MakeChecks
import Derived.Stop.LaidTwo
import Derived.Stop.Joined
namespace Go.Proofs.YtbgdngfjeikheaaDoor
open Go.ChangeShapes Go.WideShapes Go.ChangeAt Go.RowKit

theorem gNo : Tryd.prog.globalNamed "loop.example/g01368/impl.errNoPoint" = some 8 := by kernel_rfl
theorem gEnd : Tryd.prog.globalNamed "loop.example/g01368/impl.errBehindEnd" = some 9 := by kernel_rfl
theorem tNo : (Tryd.prog.globals[8]?).map (·.type) = some 132 := by kernel_rfl
theorem tEnd : (Tryd.prog.globals[9]?).map (·.type) = some 132 := by kernel_rfl
theorem ceS : Tryd.prog.cellsOf 254 = 1 := by kernel_rfl
theorem cS : Tryd.prog.cellsOf 9 = 1 := by kernel_rfl
theorem starE : "*" ++ "errors.errorString" = "*errors.errorString" := by decide
theorem rowE (u : TypeId) (h : Tryd.prog.typeName? 3 u = some "*errors.errorString") : u = 252 :=
  typeName_ptr_named (nm := "errors.errorString") (by rw [starE]; kernel_rfl) (by kernel_rfl) (by decide) u (by rw [starE]; exact h)

/-- The two variables, as the rows list them. -/
def laidE : List (String × DataW Unit) := [("loop.example/g01368/impl.errNoPoint", Rows.laid_loop_example_g01368_impl_errNoPoint), ("loop.example/g01368/impl.errBehindEnd", Rows.laid_loop_example_g01368_impl_errBehindEnd)]

set_option maxRecDepth 100000 in
theorem sentinels {W : World} (h : laidMet Tryd.prog laidE W) :
    ∃ (a0 a1 : Addr) (c0 c1 : Array Value) (t0 t1 : TypeId),
      W.var? Tryd.prog "loop.example/g01368/impl.errNoPoint" = some #[.iface 252 (.pointer (some a0))] ∧ W.var? Tryd.prog "loop.example/g01368/impl.errBehindEnd" = some #[.iface 252 (.pointer (some a1))] ∧ a0 ≠ a1 ∧
      W.heap[a0.block]? = some (.cells c0 t0 (0, 0)) ∧ W.heap[a1.block]? = some (.cells c1 t1 (0, 0)) := by
  obtain ⟨a0, a1, s0, s1, c0, c1, t0, t1, hv0, hv1, hc0, hs0, hz0, hc1, hs1, hz1, hne, hb0, hb1⟩ :=
    laid_sentinels2 h gNo tNo gEnd tEnd Tryd.underlying132 rowE Tryd.underlying252 Tryd.underlying254 rfl rfl Tryd.underlying9 ceS cS
  exact ⟨a0, a1, c0, c1, t0, t1, hv0, hv1, hne, hb0, hb1⟩

theorem var_below {W W' : World} {n : String} {cs : Array Value} (h : W.var? Tryd.prog n = some cs) (hb : Below W.heap.size W W') : W'.var? Tryd.prog n = some cs := by
  unfold World.var? at h ⊢
  cases hg : Tryd.prog.globalNamed n with
  | none => simp [hg] at h
  | some g =>
    simp only [hg, Option.bind_some] at h ⊢
    have hlt : g < W.heap.size := by
      rcases Nat.lt_or_ge g W.heap.size with h' | h'
      · exact h'
      · simp [Array.getElem?_eq_none h'] at h
    rw [hb.block g hlt]; exact h

set_option maxRecDepth 100000 in
theorem vars_read {H : Type} (enc : TypeId × Value → H) {W : World} {x0 x1 : Value} (h0 : W.var? Tryd.prog "loop.example/g01368/impl.errNoPoint" = some #[x0]) (h1 : W.var? Tryd.prog "loop.example/g01368/impl.errBehindEnd" = some #[x1]) (i0 : IsIface x0) (i1 : IsIface x1) (sp : Nat → Bool) :
    DataW.TrodVars enc Tryd.prog W sp ["loop.example/g01368/impl.errNoPoint", "loop.example/g01368/impl.errBehindEnd"] [tok enc x0, tok enc x1] [.cell 8 0, .cell 9 0] :=
  ⟨8, 132, #[x0], 1, [], [.cell 9 0], gNo, tNo, h0, trod_held Tryd.underlying132 i0 0, ⟨9, 132, #[x1], 1, [], [], gEnd, tEnd, h1, trod_held Tryd.underlying132 i1 0, rfl, rfl⟩, rfl⟩

set_option maxRecDepth 100000 in
abbrev noS : ByteArray := { data := #[110, 111, 32, 112, 111, 105, 110, 116] }
set_option maxRecDepth 100000 in
abbrev endS : ByteArray := { data := #[97, 32, 112, 111, 105, 110, 116, 32, 98, 101, 104, 105, 110, 100, 32, 116, 104, 101, 32, 101, 110, 100] }
noncomputable def low : Nat := (World.holding Tryd.prog default ⟨#[], #[], []⟩).heap.size
/-- A world for the witness: the settled one, both variables laid. -/
noncomputable def laidWorld (os : Os) : World :=
  let w0 := World.holding Tryd.prog os ⟨#[.cells #[.string noS] 254, .cells #[.string endS] 254], #[], []⟩
  { w0 with heap := (w0.heap.modify 8 fun
      | .cells _ t frozen => .cells #[.iface 252 (.pointer (some ⟨low, 0, none⟩))] t frozen
      | o => o).modify 9 fun
      | .cells _ t frozen => .cells #[.iface 252 (.pointer (some ⟨low + 1, 0, none⟩))] t frozen
      | o => o }
set_option maxRecDepth 100000 in
theorem laidWorld_met (os : Os) (args : Array Value) : laidMet Tryd.prog laidE ((laidWorld os).forCall (fun _ _ => 0) ⟨#[], args, []⟩).memory :=
  laidMet_of_run (ps := [.cell 8 0, .cell low 0, .cell 9 0, .cell (low + 1) 0]) 8 (by kernel_rfl) (by kernel_rfl) (by kernel_rfl)
theorem laidH (W : World) : laidMetH Tryd.prog laidE W = laidMet Tryd.prog laidE W := MakeChecks.laidMetH_plain _ _ _ (by kernel_rfl)

end Go.Proofs.YtbgdngfjeikheaaDoor
