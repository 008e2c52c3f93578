/-
  Tennis: game orders: the program's counts and first ones.
-/
import Derived.Test.YtaplkciomagmiabToOrd
import Derived.BigQuiet
namespace Go.Proofs.Ytaplkciomagmiab
open Go.RowKit
set_option linter.unusedVariables false
set_option linter.unusedSimpArgs false

def inB (a b : Int) : Bool := inR a 0 7 && inR b 0 7
def ov (a b : Int) : Nat × List UInt8 := if inB a b then tg (tabN 49) (8 * a.toNat + b.toNat) else (0, [])
theorem inB_iff (a b : Int) : inB a b = true ↔ (0 ≤ a ∧ a ≤ 7) ∧ (0 ≤ b ∧ b ≤ 7) := by unfold inB inR; simp

set_option maxHeartbeats 1600000 in
theorem ordersTo_bad (a b : Int) (h : inB a b = false) (w : World) :
    Calls Try.prog 25 #[.int .i64 a, .int .i64 b] w fun e w' => e = .returned (.tuple #[gV 0 [], .bool false]) ∧ Below w.heap.size w w' := by
  have hn : ¬ ((0 ≤ a ∧ a ≤ 7) ∧ (0 ≤ b ∧ b ≤ 7)) := fun q => by rw [(inB_iff a b).2 q] at h; cases h
  clear h
  have t0 := OrAt.new w 0 []
  obtain ⟨z0, z1, z2, z3⟩ := t0.cells
  clear t0
  have hcase : (a < b ∧ ¬ b < a) ∨ (¬ a < b ∧ b < a) ∨ (¬ a < b ∧ ¬ b < a) := by omega
  rcases hcase with ⟨h1, h2⟩ | ⟨h1, h2⟩ | ⟨h1, h2⟩
  · by_cases h3 : a < 0
    · go_enter Try.func25, Try.ntmps25
      go_wp2_with fail
      refine bodyPost_ret (v := .tuple #[gV 0 [], .bool false]) (by simp [results, Try.results25, go_sem]) rfl ⟨rfl, ?_⟩
      (repeat (first | exact Below.refl _ _ | exact ‹Below _ _ _› | refine Below.drew ?_ | refine Below.alloc ?_ (by first | omega | (simp; done) | (simp; omega)) _ | refine Below.setCell ?_ (by first | omega | (simp; done) | (simp; omega)) _ | refine Below.trans ?_ (Below.mono ‹Below _ _ _› (by first | omega | (simp; done) | (simp; omega)))))
    · have h4 : 7 < b := by omega
      clear hn
      go_enter Try.func25, Try.ntmps25
      go_wp2_with fail
      refine bodyPost_ret (v := .tuple #[gV 0 [], .bool false]) (by simp [results, Try.results25, go_sem]) rfl ⟨rfl, ?_⟩
      (repeat (first | exact Below.refl _ _ | exact ‹Below _ _ _› | refine Below.drew ?_ | refine Below.alloc ?_ (by first | omega | (simp; done) | (simp; omega)) _ | refine Below.setCell ?_ (by first | omega | (simp; done) | (simp; omega)) _ | refine Below.trans ?_ (Below.mono ‹Below _ _ _› (by first | omega | (simp; done) | (simp; omega)))))
  · by_cases h3 : b < 0
    · clear hn
      go_enter Try.func25, Try.ntmps25
      go_wp2_with fail
      refine bodyPost_ret (v := .tuple #[gV 0 [], .bool false]) (by simp [results, Try.results25, go_sem]) rfl ⟨rfl, ?_⟩
      (repeat (first | exact Below.refl _ _ | exact ‹Below _ _ _› | refine Below.drew ?_ | refine Below.alloc ?_ (by first | omega | (simp; done) | (simp; omega)) _ | refine Below.setCell ?_ (by first | omega | (simp; done) | (simp; omega)) _ | refine Below.trans ?_ (Below.mono ‹Below _ _ _› (by first | omega | (simp; done) | (simp; omega)))))
    · have h4 : 7 < a := by omega
      clear hn
      go_enter Try.func25, Try.ntmps25
      go_wp2_with fail
      refine bodyPost_ret (v := .tuple #[gV 0 [], .bool false]) (by simp [results, Try.results25, go_sem]) rfl ⟨rfl, ?_⟩
      (repeat (first | exact Below.refl _ _ | exact ‹Below _ _ _› | refine Below.drew ?_ | refine Below.alloc ?_ (by first | omega | (simp; done) | (simp; omega)) _ | refine Below.setCell ?_ (by first | omega | (simp; done) | (simp; omega)) _ | refine Below.trans ?_ (Below.mono ‹Below _ _ _› (by first | omega | (simp; done) | (simp; omega)))))
  · obtain rfl : a = b := by omega
    by_cases h3 : a < 0
    · clear hn
      go_enter Try.func25, Try.ntmps25
      go_wp2_with fail
      refine bodyPost_ret (v := .tuple #[gV 0 [], .bool false]) (by simp [results, Try.results25, go_sem]) rfl ⟨rfl, ?_⟩
      (repeat (first | exact Below.refl _ _ | exact ‹Below _ _ _› | refine Below.drew ?_ | refine Below.alloc ?_ (by first | omega | (simp; done) | (simp; omega)) _ | refine Below.setCell ?_ (by first | omega | (simp; done) | (simp; omega)) _ | refine Below.trans ?_ (Below.mono ‹Below _ _ _› (by first | omega | (simp; done) | (simp; omega)))))
    · have h4 : 7 < a := by omega
      clear hn
      go_enter Try.func25, Try.ntmps25
      go_wp2_with fail
      refine bodyPost_ret (v := .tuple #[gV 0 [], .bool false]) (by simp [results, Try.results25, go_sem]) rfl ⟨rfl, ?_⟩
      (repeat (first | exact Below.refl _ _ | exact ‹Below _ _ _› | refine Below.drew ?_ | refine Below.alloc ?_ (by first | omega | (simp; done) | (simp; omega)) _ | refine Below.setCell ?_ (by first | omega | (simp; done) | (simp; omega)) _ | refine Below.trans ?_ (Below.mono ‹Below _ _ _› (by first | omega | (simp; done) | (simp; omega)))))
theorem ordersTo_all (a b : Int) (w : World) :
    Calls Try.prog 25 #[.int .i64 a, .int .i64 b] w fun e w' => e = .returned (.tuple #[gV (ov a b).1 (ov a b).2, .bool (inB a b)]) ∧ Below w.heap.size w w' := by
  cases h : inB a b with
  | false => rw [show ov a b = (0, []) from by unfold ov; rw [h]; rfl]; exact ordersTo_bad a b h w
  | true =>
    have hh := (inB_iff a b).1 h
    obtain ⟨x, rfl⟩ : ∃ x : Nat, a = x := ⟨a.toNat, by omega⟩
    obtain ⟨y, rfl⟩ : ∃ y : Nat, b = y := ⟨b.toNat, by omega⟩
    rw [show ov x y = tg (tabN 49) (8 * x + y) from by unfold ov; rw [h]; rfl]
    exact ordersTo_any x y (by omega) (by omega) w

set_option maxHeartbeats 800000 in
theorem implCount_any (a b : Int) (w : World) :
    Calls Try.prog 13 #[.int .i64 a, .int .i64 b] w fun e w' => e = .returned (.tuple #[.int .i64 ((ov a b).1 : Int), .bool (inB a b)]) ∧ Below w.heap.size w w' := by
  have HO := Lib.hid (ordersTo_all a b)
  generalize (ov a b).1 = m at *
  generalize (ov a b).2 = p at *
  generalize inB a b = o at *
  go_enter Try.func13, Try.ntmps13
  go_wp2_with fail
  refine (HO.out _).mono ?_; rintro e w1 ⟨rfl, b1⟩
  have t0 := OrAt.new w1 m p
  obtain ⟨z0, z1, z2, z3⟩ := t0.cells
  clear t0
  go_wp2_with fail
  refine bodyPost_ret (v := .tuple #[.int .i64 m, .bool o]) (by simp [results, Try.results13, go_sem]) rfl ⟨rfl, ?_⟩
  exact b1.alloc b1.size _
set_option maxHeartbeats 800000 in
theorem implFirst_any (a b : Int) (w : World) :
    Calls Try.prog 15 #[.int .i64 a, .int .i64 b] w fun e w' => e = .returned (.tuple #[.string ⟨(ov a b).2.toArray⟩, .bool (decide (0 < ((ov a b).1 : Int)))]) ∧ Below w.heap.size w w' := by
  have HO := Lib.hid (ordersTo_all a b)
  generalize (ov a b).1 = m at *
  generalize (ov a b).2 = p at *
  generalize inB a b = o at *
  go_enter Try.func15, Try.ntmps15
  go_wp2_with fail
  refine (HO.out _).mono ?_; rintro e w1 ⟨rfl, b1⟩
  have t0 := OrAt.new w1 m p
  obtain ⟨z0, z1, z2, z3⟩ := t0.cells
  clear t0
  go_wp2_with fail
  go_quiet (fail)
  go_wp2_with fail
  refine bodyPost_ret (v := .tuple #[.string ⟨p.toArray⟩, .bool (decide (0 < (m : Int)))]) (by simp [results, Try.results15, go_sem]) rfl ⟨rfl, ?_⟩
  exact (b1.alloc b1.size _).trans ⟨rfl, rfl, rfl, Nat.le_refl _, fun _ _ => rfl⟩
end Go.Proofs.Ytaplkciomagmiab
