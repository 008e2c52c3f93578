/-
  Races: the program's counts of both sides: one more, a side's own, its lead.
-/
import Derived.Test.YtbgdngfjeikheaaDoorRaSpec
import Derived.Deep.RegionWith
import Derived.IntWalk
import Derived.WalkSmall
namespace Go.Proofs.YtbgdngfjeikheaaDoor
open Go.RowKit

theorem ext_one (s : ByteArray) (k : Nat) (h : k < s.size) : s.extract k (k + 1) = ⟨#[s[k]]⟩ := by
  rw [Lib.extract_eq, drop_cons s k h, show k + 1 - k = 1 from by omega]; simp

theorem slice_one (s : ByteArray) (k : Nat) (h : k < s.size) (w : World) :
    (Instr.slice 9 (.string s) (some (.int .i64 (k : Int))) (some (.int .i64 ((k : Int) + 1))) none).run Tryd.prog w = .ok (.string ⟨#[s[k]]⟩) w := by
  have := run_slice_string (P := Tryd.prog) w 9 s .i64 .i64 (k : Int) ((k : Int) + 1) Tryd.underlying9 (by omega) (by omega) (by omega)
  rw [this, show ((k : Int) + 1).toNat = k + 1 from by omega, show ((k : Int)).toNat = k from by omega, ext_one s k h]

set_option maxHeartbeats 800000 in
theorem plus_any (a b : Int) (c : UInt8) (w : World) (ha : 0 ≤ a) (ha' : a ≤ 1000000000000) (hb : 0 ≤ b) (hb' : b ≤ 1000000000000) :
    Calls Tryd.prog 181 #[.agg #[.int .i64 a, .int .i64 b], .string ⟨#[c]⟩] w fun e w' => e = .returned (.agg #[.int .i64 (a + upA c), .int .i64 (b + upB c)]) ∧ Below w.heap.size w w' := by
  by_cases h1 : c = 97
  · subst h1
    rw [show upA 97 = 1 from rfl, show upB 97 = 0 from rfl, Int.add_zero]
    go_enter Tryd.func181, Tryd.ntmps181
    go_wp2
    refine bodyPost_ret (v := .agg #[.int .i64 (a + 1), .int .i64 b]) (by simp [results, Tryd.results181, go_sem]) rfl ⟨rfl, ?_⟩
    (repeat (first | exact Below.refl _ _ | exact ‹Below _ _ _› | refine Below.drew ?_ | refine Below.alloc ?_ (by first | omega | (simp; done) | (simp; omega)) _ | refine Below.setCell ?_ (by first | omega | (simp; done) | (simp; omega)) _ | refine Below.trans ?_ (Below.mono ‹Below _ _ _› (by first | omega | (simp; done) | (simp; omega)))))
  · rw [show upA c = 0 from by simp [upA, h1], show upB c = 1 from by simp [upB, h1], Int.add_zero]
    have e97 : (c == 97) = false := by simpa using h1
    clear h1
    go_enter Tryd.func181, Tryd.ntmps181
    go_wp2
    refine bodyPost_ret (v := .agg #[.int .i64 a, .int .i64 (b + 1)]) (by simp [results, Tryd.results181, go_sem]) rfl ⟨rfl, ?_⟩
    (repeat (first | exact Below.refl _ _ | exact ‹Below _ _ _› | refine Below.drew ?_ | refine Below.alloc ?_ (by first | omega | (simp; done) | (simp; omega)) _ | refine Below.setCell ?_ (by first | omega | (simp; done) | (simp; omega)) _ | refine Below.trans ?_ (Below.mono ‹Below _ _ _› (by first | omega | (simp; done) | (simp; omega)))))

def ofC (a b : Int) (c : UInt8) : Int := if c = 97 then a else b
set_option maxHeartbeats 400000 in
theorem of_any (a b : Int) (c : UInt8) (w : World) :
    Calls Tryd.prog 222 #[.agg #[.int .i64 a, .int .i64 b], .string ⟨#[c]⟩] w fun e w' => e = .returned (.int .i64 (ofC a b c)) ∧ Below w.heap.size w w' := by
  by_cases h1 : c = 97
  · subst h1
    go_enter Tryd.func222, Tryd.ntmps222
    go_wp2
    go_ret
    refine ⟨rfl, ?_⟩
    (repeat (first | exact Below.refl _ _ | exact ‹Below _ _ _› | refine Below.drew ?_ | refine Below.alloc ?_ (by first | omega | (simp; done) | (simp; omega)) _ | refine Below.setCell ?_ (by first | omega | (simp; done) | (simp; omega)) _ | refine Below.trans ?_ (Below.mono ‹Below _ _ _› (by first | omega | (simp; done) | (simp; omega)))))
  · have e97 : (c == 97) = false := by simpa using h1
    rw [show ofC a b c = b from by simp [ofC, h1]]
    clear h1
    go_enter Tryd.func222, Tryd.ntmps222
    go_wp2
    go_ret
    refine ⟨rfl, ?_⟩
    (repeat (first | exact Below.refl _ _ | exact ‹Below _ _ _› | refine Below.drew ?_ | refine Below.alloc ?_ (by first | omega | (simp; done) | (simp; omega)) _ | refine Below.setCell ?_ (by first | omega | (simp; done) | (simp; omega)) _ | refine Below.trans ?_ (Below.mono ‹Below _ _ _› (by first | omega | (simp; done) | (simp; omega)))))

set_option maxHeartbeats 1600000 in
theorem leadOf_any (a b : Int) (c : UInt8) (w : World) (ha : 0 ≤ a) (ha' : a ≤ 1000000000000) (hb : 0 ≤ b) (hb' : b ≤ 1000000000000) :
    Calls Tryd.prog 223 #[.agg #[.int .i64 a, .int .i64 b], .string ⟨#[c]⟩] w fun e w' => e = .returned (.int .i64 (2 * ofC a b c - a - b)) ∧ Below w.heap.size w w' := by
  have ho : 0 ≤ ofC a b c ∧ ofC a b c ≤ 1000000000000 := by unfold ofC; split <;> omega
  obtain ⟨o1, o2⟩ := ho
  have hoa := of_any a b c
  have HO := Lib.hid hoa; clear hoa
  generalize ofC a b c = q at *
  have t1 : IntKind.i64.wrap (2 * q) = 2 * q := IntWalk.i64_in _ (by omega)
  have t2 : IntKind.i64.wrap (2 * q - a) = 2 * q - a := IntWalk.i64_in _ (by omega)
  have t3 : IntKind.i64.wrap (2 * q - a - b) = 2 * q - a - b := IntWalk.i64_in _ (by omega)
  go_enter Tryd.func223, Tryd.ntmps223
  go_wp2_with fail
  go_region_with (go_at_call 222; refine (HO.out _).mono ?_; rintro e w' ⟨rfl, bd⟩; obtain ⟨cc, ff⟩ := bcell bd; have zz := bd.size; (try simp only [World.size_drew, World.size_alloc] at zz))
  all_goals
    clear t1 t2 t3
    go_wp2
    go_ret
    refine ⟨rfl, ?_⟩
    (repeat (first | exact Below.refl _ _ | exact ‹Below _ _ _› | refine Below.drew ?_ | refine Below.alloc ?_ (by first | omega | (simp; done) | (simp; omega)) _ | refine Below.setCell ?_ (by first | omega | (simp; done) | (simp; omega)) _ | refine Below.trans ?_ (Below.mono ‹Below _ _ _› (by first | omega | (simp; done) | (simp; omega)))))

end Go.Proofs.YtbgdngfjeikheaaDoor
