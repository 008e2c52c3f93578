/-
  Tennis: who has won a race, by numbers of points: the program.
-/
import Derived.Test.YtgkkjlpfkoplhaaGreatDoorTnSide
import Derived.Deep.RegionWith
import Derived.IntWalk
import Derived.WalkSmall
namespace Go.Proofs.YtgkkjlpfkoplhaaGreatDoor
open Go.RowKit

def ofC (a b : Int) (c : UInt8) : Int := if c = 97 then a else b
set_option maxHeartbeats 400000 in
theorem of_any (a b : Int) (c : UInt8) (w : World) :
    Calls Tryz.prog 69 #[.agg #[.int .i64 a, .int .i64 b], .string ⟨#[c]⟩] w fun e w' => e = .returned (.int .i64 (ofC a b c)) ∧ Below w.heap.size w w' := by
  by_cases h1 : c = 97
  · subst h1
    go_enter Tryz.func69, Tryz.ntmps69
    go_wp2
    go_ret
    refine ⟨rfl, ?_⟩
    (repeat (first | exact Below.refl _ _ | exact ‹Below _ _ _› | refine Below.drew ?_ | refine Below.alloc ?_ (by first | omega | (simp; done) | (simp; omega)) _ | refine Below.setCell ?_ (by first | omega | (simp; done) | (simp; omega)) _ | refine Below.trans ?_ (Below.mono ‹Below _ _ _› (by first | omega | (simp; done) | (simp; omega)))))
  · have e97 : (c == 97) = false := by simpa using h1
    rw [show ofC a b c = b from by simp [ofC, h1]]
    clear h1
    go_enter Tryz.func69, Tryz.ntmps69
    go_wp2
    go_ret
    refine ⟨rfl, ?_⟩
    (repeat (first | exact Below.refl _ _ | exact ‹Below _ _ _› | refine Below.drew ?_ | refine Below.alloc ?_ (by first | omega | (simp; done) | (simp; omega)) _ | refine Below.setCell ?_ (by first | omega | (simp; done) | (simp; omega)) _ | refine Below.trans ?_ (Below.mono ‹Below _ _ _› (by first | omega | (simp; done) | (simp; omega)))))

set_option maxHeartbeats 1600000 in
theorem leadOf_any (a b : Int) (c : UInt8) (w : World) (ha : 0 ≤ a) (ha' : a ≤ 1000000000000) (hb : 0 ≤ b) (hb' : b ≤ 1000000000000) :
    Calls Tryz.prog 70 #[.agg #[.int .i64 a, .int .i64 b], .string ⟨#[c]⟩] w fun e w' => e = .returned (.int .i64 (2 * ofC a b c - a - b)) ∧ Below w.heap.size w w' := by
  have ho : 0 ≤ ofC a b c ∧ ofC a b c ≤ 1000000000000 := by unfold ofC; split <;> omega
  obtain ⟨o1, o2⟩ := ho
  have hoa := of_any a b c
  have HO := Lib.hid hoa; clear hoa
  generalize ofC a b c = q at *
  have t1 : IntKind.i64.wrap (2 * q) = 2 * q := IntWalk.i64_in _ (by omega)
  have t2 : IntKind.i64.wrap (2 * q - a) = 2 * q - a := IntWalk.i64_in _ (by omega)
  have t3 : IntKind.i64.wrap (2 * q - a - b) = 2 * q - a - b := IntWalk.i64_in _ (by omega)
  go_enter Tryz.func70, Tryz.ntmps70
  go_wp2_with fail
  go_region_with (go_at_call 69; refine (HO.out _).mono ?_; rintro e w' ⟨rfl, bd⟩; obtain ⟨cc, ff⟩ := bcell bd; have zz := bd.size; (try simp only [World.size_drew, World.size_alloc] at zz))
  all_goals
    clear t1 t2 t3
    go_wp2
    go_ret
    refine ⟨rfl, ?_⟩
    (repeat (first | exact Below.refl _ _ | exact ‹Below _ _ _› | refine Below.drew ?_ | refine Below.alloc ?_ (by first | omega | (simp; done) | (simp; omega)) _ | refine Below.setCell ?_ (by first | omega | (simp; done) | (simp; omega)) _ | refine Below.trans ?_ (Below.mono ‹Below _ _ _› (by first | omega | (simp; done) | (simp; omega)))))

end Go.Proofs.YtgkkjlpfkoplhaaGreatDoor
