/-
  The two errors of the program that the rows list, and the shape of the world at the door: what both give a walk.
-/
import Derived.Test.YtbgdngfjeikheaaDoorRaLaid
import Derived.Test.YtbgdngfjeikheaaDoorPzTold
import Derived.HandedShaped
import Derived.Shelf.Vars
namespace Go.Proofs.YtbgdngfjeikheaaDoor
open Go.ChangeShapes Go.WideShapes Go.ChangeAt Go.RowKit

theorem maxLenCell {W : World} (hs : W.ShapedOpen Tryd.prog) : ∃ m : Int, W.cell? ⟨0, 0, none⟩ = some (.int .i64 m) :=
  cell_of_shapedOpen_int (P := Tryd.prog) (g := 0) (t := 3) (zero := #[.int .i64 0]) hs (of_decide_eq_true (by kernel_rfl)) (by kernel_rfl) rfl (by kernel_rfl) (by kernel_rfl) Tryd.underlying3

set_option maxRecDepth 100000 in
/-- The wrap of these rows: the contract is handed the list and the shape. -/
theorem handedE {H : Type} {enc : TypeId × Value → H} {os : Os} {f : FuncId} {fn : Func} {s : ChangeSpec} (own : ownKnob Tryd.checked.prog.godebug = none) (started : os.Started) (noInit : Tryd.checked.prog.inits.idxOf? f = none) (hfn : Tryd.checked.prog.funcs[f]? = some fn)
    (wit : ∃ (w : World) (tape : Tape) (i : Input), w.os = os ∧ (w.forCall tape i).Shaped Tryd.checked.prog ∧ i.vars = [] ∧ Input.okWide Tryd.checked.prog (w.forCall tape i) .any w.heap.size f i ∧
      ((s.pre enc Tryd.checked.prog fn [] false (w.forCall tape i).memory i.args ∧ laidMetH Tryd.prog laidE (w.forCall tape i).memory) ∧ sizedMet enc Tryd.checked.prog fn (OpenSpec.ofChange s) false (w.forCall tape i).memory i.args) ∧ ({} : Assume).holds Tryd.checked.prog (lone (Frame.enter Tryd.checked.prog f i.args .normal) [] (w.forCall tape i)))
    (con : ∀ (W : World) (base : Nat) (args : Array Value) (ds gs : List (DataW H)) (before : List MemPlace),
      (∀ (j : Nat) t v, fn.params[j]? = some t → args[j]? = some v → Value.okWide Tryd.checked.prog W .any base t v) →
      DataW.Whole enc Tryd.checked.prog fn.params.toList s.vars false W args.toList ds gs before → laidMetH Tryd.prog laidE W → W.ShapedOpen Tryd.prog →
      Calls Tryd.checked.prog f args W fun e W' => ∃ v, e = .returned v ∧ s.post enc Tryd.checked.prog fn false true false false W args v W') :
    ReturnsInHanded {} Tryd.checked os f .any (fun w args => (s.pre enc Tryd.checked.prog fn [] false w args ∧ laidMetH Tryd.prog laidE w) ∧ sizedMet enc Tryd.checked.prog fn (OpenSpec.ofChange s) false w args) (s.post enc Tryd.checked.prog fn false true false false) := by
  refine returnsInHanded_of_calls own started noInit wit ?_
  intro w tape i _ shaped _ fits met _
  obtain ⟨_, _, _, fn2, at2, _, _, _, _, reads⟩ := fits
  cases Option.some.inj (at2.symm.trans hfn)
  obtain ⟨⟨⟨ds, gs, before, whole, _⟩, listed⟩, _⟩ := met
  refine (con (w.forCall tape i) w.heap.size i.args ds gs before reads (DataW.Whole.of_heap (w' := w.forCall tape i) (by rfl) whole) (laidMetH.of_heap (by rfl) listed) shaped).mono ?_
  rintro _ W' ⟨v, rfl, done⟩
  exact ChangeSpec.post_blind done
end Go.Proofs.YtbgdngfjeikheaaDoor
