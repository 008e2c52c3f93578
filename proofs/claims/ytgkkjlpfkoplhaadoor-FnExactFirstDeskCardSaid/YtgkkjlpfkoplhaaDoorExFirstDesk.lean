/- FirstDesk answers as its model for every argument, and changes none; the library's tables and errors start as the library lays them: the card ties that to the program's text. No conditions. -/
import Derived.Test.YtgkkjlpfkoplhaaDoorSaFirstDesk
import Derived.Test.YtgkkjlpfkoplhaaDoorFrClosed2
namespace Go.Proofs.YtgkkjlpfkoplhaaDoor.ExFirstDesk
open Go.ChangeShapes Go.WideShapes Go.ChangeAt Go.RowKit Go.Joins
open Go.ChangeMaps (open_string shut_string)
set_option linter.unusedVariables false

/-- No parameter wants a stand-in; the program's own looks are off. -/
theorem plain (f : FuncId) (fn : Func) (hf : Tryd.pinned.checked.prog.funcNamed "loop.example/g01368/laws.FnExactFirstDesk" = some f) (hfn : Tryd.pinned.checked.prog.funcs[f]? = some fn) :
    Rows.fnExactFirstDeskCard.stood.looks = Tryd.pinned.checked.prog.looks [] ∧ ∀ (j : Nat) t, fn.params[j]? = some t → Tryd.pinned.checked.prog.wantsStandIn t = false := by
  obtain rfl : f = 5 := Option.some.inj ((show Tryd.prog.funcNamed "loop.example/g01368/laws.FnExactFirstDesk" = some 5 by kernel_rfl).symm.trans hf) |>.symm
  obtain rfl : fn = Tryd.f5 := (Option.some.inj (Tryd.func5.symm.trans hfn)).symm
  refine ⟨looksC, fun j t ht => ?_⟩
  rw [Tryd.params5] at ht
  simp at ht

/-- THE CARD. -/
theorem proved : Rows.FnExactFirstDeskCardSaid :=
  Claim7.holds_tied_plain_at .later [] _ _ _ _ said (fun _ h => by cases h) (by kernel_rfl) (fun _ h => by cases h) fnExactFirstDesk_row_tie rfl ⟨rfl, rfl⟩ mainC rfl plain (by kernel_rfl)
end Go.Proofs.YtgkkjlpfkoplhaaDoor.ExFirstDesk
