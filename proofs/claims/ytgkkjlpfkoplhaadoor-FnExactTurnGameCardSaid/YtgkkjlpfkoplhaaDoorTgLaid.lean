/-
  The two tables of the library that the rows of exchanged plays list: what they give a walk; the door's own heap meets the list.
-/
import Derived.Test.YtgkkjlpfkoplhaaDoorCards
import Derived.Test.YtgkkjlpfkoplhaaDoorTie
import Derived.Test.YtgkkjlpfkoplhaaDoorTgBoth
import Derived.ChangeSame
import Derived.JoinedOf
import Derived.LaidMore
import Derived.LaidLaws
import Derived.LaidHandle
import Derived.OpenShut
import Derived.MakeChecks
import Derived.PinnedBridge
import Derived.Lib.LaidU8T
import Derived.Stop.Joined
namespace Go.Proofs.YtgkkjlpfkoplhaaDoor
open Go.ChangeShapes Go.WideShapes Go.ChangeAt Go.RowKit

def laidT : List (String × DataW Unit) := [("unicode/utf8.acceptRanges", Rows.laid_unicode_utf8_acceptRanges), ("unicode/utf8.first", Rows.laid_unicode_utf8_first)]

/-- The door's own heap, the one table that it leaves to the list laid too. -/
noncomputable def turnWorld (os : Os) : World :=
  let w0 := World.doorLaid Tryd.prog 4000 os
  { w0 with heap := w0.heap.modify 0 fun
      | .cells _ t frozen => .cells (Pinned.utf8FirstZ.map fun n : Nat => Value.int .u8 (n : Int)).toArray t frozen
      | o => o }
set_option maxRecDepth 100000 in
theorem doorT_met (os : Os) (args : Array Value) : laidMetH Tryd.prog laidT ((turnWorld os).forCall (fun _ _ => 0) ⟨#[], args, []⟩).memory :=
  laidMetH_of_parts3 (fuel := 8) (laidMet_of_run' 8 (by kernel_rfl) (by kernel_rfl)) (by kernel_rfl) (by kernel_rfl)
set_option maxRecDepth 100000 in
theorem doorT_shaped (os : Os) (args : Array Value) : ((turnWorld os).forCall (fun _ _ => 0) ⟨#[], args, []⟩).Shaped Tryd.prog :=
  World.shaped_of_RefB (by kernel_rfl) (by kernel_rfl)
theorem laidTH (W : World) : laidMetH Tryd.prog laidT W = laidMet Tryd.prog laidT W := MakeChecks.laidMetH_plain _ _ _ (by kernel_rfl)

theorem accept_eq : (Rows.laid_unicode_utf8_acceptRanges : DataW Unit) = Lib.acceptData := by kernel_rfl
theorem first_eq : (Rows.laid_unicode_utf8_first : DataW Unit) = Lib.firstData := Pinned.utf8First_eq
/-- What the list gives. -/
theorem turnDoor {W : World} (h : laidMetH Tryd.prog laidT W) : TurnDoor W := by
  rw [laidTH] at h
  have h4 := Lib.laidMet.reads h (.head _)
  have h3 := Lib.laidMet.reads h (.tail _ (.head _))
  rw [accept_eq] at h4
  rw [first_eq] at h3
  exact utf8Tabs_of_readsT (ρ := Tryd.lays230_ren) { Tryd.lays230 with } ⟨by kernel_rfl, by kernel_rfl, by kernel_rfl, by kernel_rfl, by kernel_rfl, by kernel_rfl, by kernel_rfl⟩ h3 h4
end Go.Proofs.YtgkkjlpfkoplhaaDoor
