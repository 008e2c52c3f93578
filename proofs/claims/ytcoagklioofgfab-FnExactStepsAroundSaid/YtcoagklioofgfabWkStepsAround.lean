/- StepsAround: the model and the program, and the law over them. -/
import Derived.Test.YtcoagklioofgfabSmall
import Derived.Test.YtcoagklioofgfabDartRing
namespace Go.Proofs.Ytcoagklioofgfab.ExStepsAround
open Go.RowKit

def steps (a b : Int) : Int := minI (maxI ((placeN a : Int) - placeN b) (-((placeN a : Int) - placeN b))) (20 - maxI ((placeN a : Int) - placeN b) (-((placeN a : Int) - placeN b)))
def both (a b : Int) : Bool := inR a 1 20 && inR b 1 20
def ans (a b : Int) : Int := if both a b then steps a b else 0

theorem inR_true {n a b : Int} : inR n a b = true ↔ a ≤ n ∧ n ≤ b := by simp [inR]

set_option maxHeartbeats 800000 in
theorem spec_no (a b : Int) (h : both a b = false) (w : World) :
    Calls Try.prog 24 #[.int .i64 a, .int .i64 b] w fun e w' => e = .returned (.tuple #[.int .i64 0, .bool false]) ∧ Below w.heap.size w w' := by
  unfold both at h
  cases ha : inR a 1 20
  · have HA := Lib.hid ha; clear ha h
    go_enter Try.func24, Try.ntmps24
    go_wp2_with fail
    refine (l1In_any _ _ _ _).mono ?_; rintro e w1 ⟨rfl, rfl⟩
    rw [HA.out]
    go_wp2_with fail
    go_ret2
    exact ⟨rfl, Below.refl _ _⟩
  · have hb : inR b 1 20 = false := by simpa [ha] using h
    have HA := Lib.hid ha; clear ha h
    have HB := Lib.hid hb; clear hb
    go_enter Try.func24, Try.ntmps24
    go_wp2_with fail
    refine (l1In_any _ _ _ _).mono ?_; rintro e w1 ⟨rfl, rfl⟩
    rw [HA.out]
    go_wp2_with fail
    refine (l1In_any _ _ _ _).mono ?_; rintro e w1 ⟨rfl, rfl⟩
    rw [HB.out]
    go_wp2_with fail
    go_ret2
    exact ⟨rfl, Below.refl _ _⟩

set_option maxHeartbeats 800000 in
theorem spec_yes (a b : Int) (ha : inR a 1 20 = true) (hb : inR b 1 20 = true) (w : World) :
    Calls Try.prog 24 #[.int .i64 a, .int .i64 b] w fun e w' => e = .returned (.tuple #[.int .i64 (steps a b), .bool true]) ∧ Below w.heap.size w w' := by
  obtain ⟨a1, a2⟩ := inR_true.1 ha
  obtain ⟨b1, b2⟩ := inR_true.1 hb
  have pa := (place_facts a a1 a2).1
  have pb := (place_facts b b1 b2).1
  have HA := Lib.hid ha; clear ha
  have HB := Lib.hid hb; clear hb
  have m0 : 0 ≤ maxI ((placeN a : Int) - placeN b) (-((placeN a : Int) - placeN b)) := by rw [maxI_eq]; omega
  have m1 : maxI ((placeN a : Int) - placeN b) (-((placeN a : Int) - placeN b)) ≤ 20 := by rw [maxI_eq]; omega
  go_enter Try.func24, Try.ntmps24
  go_wp2_with fail
  refine (l1In_any _ _ _ _).mono ?_; rintro e w1 ⟨rfl, rfl⟩
  rw [HA.out]
  go_wp2_with fail
  refine (l1In_any _ _ _ _).mono ?_; rintro e w1 ⟨rfl, rfl⟩
  rw [HB.out]
  go_wp2_with fail
  refine (daPlace_any a a1 a2 _).mono ?_; rintro e w1 ⟨rfl, bl1⟩
  go_wp2_with fail
  refine (daPlace_any b b1 b2 _).mono ?_; rintro e w2 ⟨rfl, bl2⟩
  have z1 := bl1.size
  go_wp2_with fail
  refine (l1Abs_any _ (by omega) (by omega) _).mono ?_; rintro e w3 ⟨rfl, rfl⟩
  go_wp2_with fail
  refine (l1Least_any _ _ _).mono ?_; rintro e w3 ⟨rfl, rfl⟩
  go_wp2_with fail
  go_ret2
  refine ⟨rfl, ?_⟩
  (repeat (first | exact Below.refl _ _ | exact ‹Below _ _ _› | refine Below.drew ?_ | refine Below.alloc ?_ (by first | omega | (simp; done) | (simp; omega)) _ | refine Below.setCell ?_ (by first | omega | (simp; done) | (simp; omega)) _ | refine Below.trans ?_ (Below.mono ‹Below _ _ _› (by first | omega | (simp; done) | (simp; omega)))))

set_option maxHeartbeats 800000 in
theorem impl_no (a b : Int) (h : both a b = false) (w : World) :
    Calls Try.prog 25 #[.int .i64 a, .int .i64 b] w fun e w' => e = .returned (.tuple #[.int .i64 0, .bool false]) ∧ Below w.heap.size w w' := by
  unfold both at h
  cases ha : inR a 1 20
  · have HA := Lib.hid ha; clear ha h
    go_enter Try.func25, Try.ntmps25
    go_wp2_with fail
    refine (isBoard_any _ _).mono ?_; rintro e w1 ⟨rfl, rfl⟩
    rw [HA.out]
    go_wp2_with fail
    go_ret2
    exact ⟨rfl, Below.refl _ _⟩
  · have hb : inR b 1 20 = false := by simpa [ha] using h
    have HA := Lib.hid ha; clear ha h
    have HB := Lib.hid hb; clear hb
    go_enter Try.func25, Try.ntmps25
    go_wp2_with fail
    refine (isBoard_any _ _).mono ?_; rintro e w1 ⟨rfl, rfl⟩
    rw [HA.out]
    go_wp2_with fail
    refine (isBoard_any _ _).mono ?_; rintro e w1 ⟨rfl, rfl⟩
    rw [HB.out]
    go_wp2_with fail
    go_ret2
    exact ⟨rfl, Below.refl _ _⟩


set_option maxHeartbeats 800000 in
theorem impl_yes (a b : Int) (ha : inR a 1 20 = true) (hb : inR b 1 20 = true) (w : World) :
    Calls Try.prog 25 #[.int .i64 a, .int .i64 b] w fun e w' => e = .returned (.tuple #[.int .i64 (steps a b), .bool true]) ∧ Below w.heap.size w w' := by
  obtain ⟨a1, a2⟩ := inR_true.1 ha
  obtain ⟨b1, b2⟩ := inR_true.1 hb
  have pa := (place_facts a a1 a2).1
  have pb := (place_facts b b1 b2).1
  have HA := Lib.hid ha; clear ha
  have HB := Lib.hid hb; clear hb
  have m0 : 0 ≤ (placeN b : Int) - placeN a + 20 := by omega
  go_enter Try.func25, Try.ntmps25
  go_wp2_with fail
  refine (isBoard_any _ _).mono ?_; rintro e w1 ⟨rfl, rfl⟩
  rw [HA.out]
  go_wp2_with fail
  refine (isBoard_any _ _).mono ?_; rintro e w1 ⟨rfl, rfl⟩
  rw [HB.out]
  go_wp2_with fail
  refine (placeOnBoard_any b b1 b2 _).mono ?_; rintro e w1 ⟨rfl, bl1⟩
  go_wp2_with fail
  refine (placeOnBoard_any a a1 a2 _).mono ?_; rintro e w2 ⟨rfl, bl2⟩
  have z1 := bl1.size
  go_wp2_with fail
  all_goals
    go_ret2
    refine ⟨?_, ?_⟩
    · refine congrArg (fun x => Ending.returned (.tuple #[.int .i64 x, .bool true])) ?_
      unfold steps; rw [maxI_eq, minI_eq]; omega
    (repeat (first | exact Below.refl _ _ | exact ‹Below _ _ _› | refine Below.drew ?_ | refine Below.alloc ?_ (by first | omega | (simp; done) | (simp; omega)) _ | refine Below.setCell ?_ (by first | omega | (simp; done) | (simp; omega)) _ | refine Below.trans ?_ (Below.mono ‹Below _ _ _› (by first | omega | (simp; done) | (simp; omega)))))

set_option maxHeartbeats 800000 in
theorem walk (a b : Int) (w : World) :
    Calls Try.prog 6 #[.int .i64 a, .int .i64 b] w fun e w' => e = .returned (.bool true) ∧ Below w.heap.size w w' := by
  cases h : both a b
  · go_enter Try.func6, Try.ntmps6
    go_wp2_with fail
    refine (spec_no a b h _).mono ?_; rintro e w1 ⟨rfl, bl1⟩
    go_wp2_with fail
    refine (impl_no a b h _).mono ?_; rintro e w2 ⟨rfl, bl2⟩
    have z1 := bl1.size
    clear h
    go_wp2_with fail
    go_ret
    refine ⟨rfl, ?_⟩
    (repeat (first | exact Below.refl _ _ | exact ‹Below _ _ _› | refine Below.drew ?_ | refine Below.alloc ?_ (by first | omega | (simp; done) | (simp; omega)) _ | refine Below.setCell ?_ (by first | omega | (simp; done) | (simp; omega)) _ | refine Below.trans ?_ (Below.mono ‹Below _ _ _› (by first | omega | (simp; done) | (simp; omega)))))
  · have ⟨ha, hb⟩ : inR a 1 20 = true ∧ inR b 1 20 = true := by simpa [both] using h
    have he : (steps a b != steps a b) = false := by simp
    go_enter Try.func6, Try.ntmps6
    go_wp2_with fail
    refine (spec_yes a b ha hb _).mono ?_; rintro e w1 ⟨rfl, bl1⟩
    go_wp2_with fail
    refine (impl_yes a b ha hb _).mono ?_; rintro e w2 ⟨rfl, bl2⟩
    have z1 := bl1.size
    clear h ha hb
    go_wp2_with fail
    go_ret
    refine ⟨rfl, ?_⟩
    (repeat (first | exact Below.refl _ _ | exact ‹Below _ _ _› | refine Below.drew ?_ | refine Below.alloc ?_ (by first | omega | (simp; done) | (simp; omega)) _ | refine Below.setCell ?_ (by first | omega | (simp; done) | (simp; omega)) _ | refine Below.trans ?_ (Below.mono ‹Below _ _ _› (by first | omega | (simp; done) | (simp; omega)))))

end Go.Proofs.Ytcoagklioofgfab.ExStepsAround
