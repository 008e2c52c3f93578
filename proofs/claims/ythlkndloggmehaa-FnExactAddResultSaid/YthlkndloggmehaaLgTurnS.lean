/-
  Leagues: all games turned (the model's).
-/
import Derived.Test.YthlkndloggmehaaLgTurn
namespace Go.Proofs.Ythlkndloggmehaa
open Go.RowKit
set_option linter.unusedVariables false
set_option linter.unusedSimpArgs false

/-- .. with the league under way in a block of its own. -/
def TuSt (w : World) (t wn : Int) (l : List Rs) (ad : Option Addr) (c go k : Nat) (v : Value) (wr : World) : Prop :=
  TuAt w t wn l ad c k v wr ∧ ObAt wr go 62 #[.int .i64 t, .int .i64 wn, v]

end Go.Proofs.Ythlkndloggmehaa
