/-
  What the rows of the texts that are read list: five tables and two errors of the library; what they give a walk; the door's own heap meets the list.
-/
import Derived.Test.YtgkkjlpfkoplhaaDoorCards
import Derived.Test.YtgkkjlpfkoplhaaDoorTie
import Derived.Test.YtgkkjlpfkoplhaaDoorLqNum
import Derived.ChangeSame
import Derived.JoinedOf
import Derived.LaidMore
import Derived.LaidLaws
import Derived.LaidHandle
import Derived.OpenShut
import Derived.HandedShaped
import Derived.MakeChecks
import Derived.Shelf.Vars
import Derived.Stop.LaidErr
import Derived.Stop.Joined
import Derived.PinnedBridge
namespace Go.Proofs.YtgkkjlpfkoplhaaDoor
open Go.ChangeShapes Go.WideShapes Go.ChangeAt Go.RowKit

def laidQ : List (String × DataW Unit) := [("math/bits.deBruijn32tab", Rows.laid_math_bits_deBruijn32tab), ("math/bits.deBruijn64tab", Rows.laid_math_bits_deBruijn64tab), ("internal/strconv.uint64pow10", Rows.laid_internal_strconv_uint64pow10), ("unicode/utf8.acceptRanges", Rows.laid_unicode_utf8_acceptRanges), ("strconv.ErrRange", Rows.laid_strconv_ErrRange), ("strconv.ErrSyntax", Rows.laid_strconv_ErrSyntax), ("unicode/utf8.first", Rows.laid_unicode_utf8_first)]

/-- The door's own heap, the one table that it leaves to the list laid too. -/
noncomputable def laidQWorld (os : Os) : World :=
  let w0 := World.doorLaid Tryd.prog 4000 os
  { w0 with heap := w0.heap.modify 0 fun
      | .cells _ t frozen => .cells (Pinned.utf8FirstZ.map fun n : Nat => Value.int .u8 (n : Int)).toArray t frozen
      | o => o }
set_option maxRecDepth 100000 in
theorem doorQ_met (os : Os) (args : Array Value) : laidMetH Tryd.prog laidQ ((laidQWorld os).forCall (fun _ _ => 0) ⟨#[], args, []⟩).memory :=
  laidMetH_of_parts3 (fuel := 8) (laidMet_of_run' 8 (by kernel_rfl) (by kernel_rfl)) (by kernel_rfl) (by kernel_rfl)
set_option maxRecDepth 100000 in
theorem doorQ_shaped (os : Os) (args : Array Value) : ((laidQWorld os).forCall (fun _ _ => 0) ⟨#[], args, []⟩).Shaped Tryd.prog :=
  World.shaped_of_RefB (by kernel_rfl) (by kernel_rfl)
theorem laidQH (W : World) : laidMetH Tryd.prog laidQ W = laidMet Tryd.prog laidQ W := MakeChecks.laidMetH_plain _ _ _ (by kernel_rfl)

theorem ceSP : Tryd.prog.cellsOf 178 = 1 := by kernel_rfl
theorem cSP : Tryd.prog.cellsOf 9 = 1 := by kernel_rfl
theorem starEP : "*" ++ "errors.errorString" = "*errors.errorString" := by decide
theorem rowEP (u : TypeId) (h : Tryd.prog.typeName? 3 u = some "*errors.errorString") : u = 176 :=
  typeName_ptr_named (nm := "errors.errorString") (by rw [starEP]; kernel_rfl) (by kernel_rfl) (by decide) u (by rw [starEP]; exact h)
theorem gRange : Tryd.prog.globalNamed "strconv.ErrRange" = some 4 := by kernel_rfl
theorem gSyntax : Tryd.prog.globalNamed "strconv.ErrSyntax" = some 3 := by kernel_rfl

/-- What the list and the shape give. -/
theorem doorQ {W : World} (h : laidMetH Tryd.prog laidQ W) (hs : W.ShapedOpen Tryd.prog) : Door W := by
  rw [laidQH] at h
  obtain ⟨a0, t0, hv0, -⟩ := laid_sentinel (g := 4) h.tail.tail.tail.tail gRange (by kernel_rfl) Tryd.underlying74 rowEP Tryd.underlying176 Tryd.underlying178 rfl rfl Tryd.underlying9 ceSP cSP
  obtain ⟨a1, t1, hv1, -⟩ := laid_sentinel (g := 3) h.tail.tail.tail.tail.tail gSyntax (by kernel_rfl) Tryd.underlying74 rowEP Tryd.underlying176 Tryd.underlying178 rfl rfl Tryd.underlying9 ceSP cSP
  exact ⟨cell_of_shapedOpen_int (P := Tryd.prog) (g := 2) (t := 3) (zero := #[.int .i64 0]) hs (of_decide_eq_true (by kernel_rfl)) (by kernel_rfl) rfl (by kernel_rfl) (by kernel_rfl) Tryd.underlying3,
    ⟨_, by simpa using World.var?_cell gSyntax hv1 0, .inr ⟨_, _, rfl⟩⟩, ⟨_, by simpa using World.var?_cell gRange hv0 0, .inr ⟨_, _, rfl⟩⟩⟩

set_option maxRecDepth 100000 in
/-- The wrap of these rows: the contract is handed the door's facts. -/
theorem handedQ {H : Type} {enc : TypeId × Value → H} {os : Os} {f : FuncId} {fn : Func} {s : ChangeSpec} (own : ownKnob Tryd.checked.prog.godebug = none) (started : os.Started) (noInit : Tryd.checked.prog.inits.idxOf? f = none) (hfn : Tryd.checked.prog.funcs[f]? = some fn)
    (wit : ∃ (w : World) (tape : Tape) (i : Input), w.os = os ∧ (w.forCall tape i).Shaped Tryd.checked.prog ∧ i.vars = [] ∧ Input.okWide Tryd.checked.prog (w.forCall tape i) .any w.heap.size f i ∧
      ((s.pre enc Tryd.checked.prog fn [] false (w.forCall tape i).memory i.args ∧ laidMetH Tryd.prog laidQ (w.forCall tape i).memory) ∧ sizedMet enc Tryd.checked.prog fn (OpenSpec.ofChange s) false (w.forCall tape i).memory i.args) ∧ ({} : Assume).holds Tryd.checked.prog (lone (Frame.enter Tryd.checked.prog f i.args .normal) [] (w.forCall tape i)))
    (con : ∀ (W : World) (base : Nat) (args : Array Value) (ds gs : List (DataW H)) (before : List MemPlace),
      (∀ (j : Nat) t v, fn.params[j]? = some t → args[j]? = some v → Value.okWide Tryd.checked.prog W .any base t v) →
      DataW.Whole enc Tryd.checked.prog fn.params.toList s.vars false W args.toList ds gs before → Door W →
      Calls Tryd.checked.prog f args W fun e W' => ∃ v, e = .returned v ∧ s.post enc Tryd.checked.prog fn false true false false W args v W') :
    ReturnsInHanded {} Tryd.checked os f .any (fun w args => (s.pre enc Tryd.checked.prog fn [] false w args ∧ laidMetH Tryd.prog laidQ w) ∧ sizedMet enc Tryd.checked.prog fn (OpenSpec.ofChange s) false w args) (s.post enc Tryd.checked.prog fn false true false false) := by
  refine returnsInHanded_of_calls own started noInit wit ?_
  intro w tape i _ shaped _ fits met _
  obtain ⟨_, _, _, fn2, at2, _, _, _, _, reads⟩ := fits
  cases Option.some.inj (at2.symm.trans hfn)
  obtain ⟨⟨⟨ds, gs, before, whole, _⟩, listed⟩, _⟩ := met
  refine (con (w.forCall tape i) w.heap.size i.args ds gs before reads (DataW.Whole.of_heap (w' := w.forCall tape i) (by rfl) whole) (doorQ (laidMetH.of_heap (by rfl) listed) shaped)).mono ?_
  rintro _ W' ⟨v, rfl, done⟩
  exact ChangeSpec.post_blind done
end Go.Proofs.YtgkkjlpfkoplhaaDoor
