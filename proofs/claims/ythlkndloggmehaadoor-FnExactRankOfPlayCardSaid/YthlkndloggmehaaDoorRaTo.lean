/-
  Races: the program's table for two numbers of points, and what is read of it.
-/
import Derived.Test.YthlkndloggmehaaDoorRaOn
namespace Go.Proofs.YthlkndloggmehaaDoor
open Go.RowKit
set_option linter.unusedVariables false
set_option linter.unusedSimpArgs false

/-- A race and numbers of points. -/
def bothR (rt rl a b : Int) : Bool := goodR rt rl && (decide (0 ≤ a) && decide (0 ≤ b) && decide (a + b ≤ 100))
theorem both_true {rt rl a b : Int} : bothR rt rl a b = true ↔ goodR rt rl = true ∧ 0 ≤ a ∧ 0 ≤ b ∧ a + b ≤ 100 := by simp [bothR, and_assoc]

set_option maxHeartbeats 3200000 in
theorem playsTo_bad (rt rl a b : Int) (w : World) (hb : bothR rt rl a b = false) :
    Calls Tryd.prog 42 #[.agg #[.int .i64 rt, .int .i64 rl], .int .i64 a, .int .i64 b] w fun e w' => e = .returned (.tuple #[.slice none 0 0, .bool false]) ∧ Below w.heap.size w w' := by
  cases h1 : goodR rt rl
  · have H1 := Lib.hid h1; clear h1 hb
    go_enter Tryd.func42, Tryd.ntmps42
    go_wp2_with fail
    refine (implIsRace_any rt rl _).mono ?_; rintro e w1 ⟨rfl, b1⟩
    rw [H1.out]
    go_wp2_with fail
    refine bodyPost_ret (v := .tuple #[.slice none 0 0, .bool false]) (by simp [results, Tryd.results42, go_sem]) rfl ⟨rfl, ?_⟩
    (repeat (first | exact Below.refl _ _ | exact ‹Below _ _ _› | refine Below.drew ?_ | refine Below.alloc ?_ (by first | omega | (simp; done) | (simp; omega)) _ | refine Below.setCell ?_ (by first | omega | (simp; done) | (simp; omega)) _ | refine Below.trans ?_ (Below.mono ‹Below _ _ _› (by first | omega | (simp; done) | (simp; omega)))))
  have hn : ¬ (0 ≤ a ∧ 0 ≤ b ∧ a + b ≤ 100) := fun h => by rw [both_true.2 ⟨h1, h⟩] at hb; exact absurd hb (by decide)
  have H1 := Lib.hid h1; clear h1 hb
  by_cases q1 : min a b < 0
  · clear hn
    go_enter Tryd.func42, Tryd.ntmps42
    go_wp2_with fail
    refine (implIsRace_any rt rl _).mono ?_; rintro e w1 ⟨rfl, b1⟩
    rw [H1.out]
    go_wp2_with fail
    refine bodyPost_ret (v := .tuple #[.slice none 0 0, .bool false]) (by simp [results, Tryd.results42, go_sem]) rfl ⟨rfl, ?_⟩
    (repeat (first | exact Below.refl _ _ | exact ‹Below _ _ _› | refine Below.drew ?_ | refine Below.alloc ?_ (by first | omega | (simp; done) | (simp; omega)) _ | refine Below.setCell ?_ (by first | omega | (simp; done) | (simp; omega)) _ | refine Below.trans ?_ (Below.mono ‹Below _ _ _› (by first | omega | (simp; done) | (simp; omega)))))
  by_cases q2 : 100 < max a b
  · clear hn
    go_enter Tryd.func42, Tryd.ntmps42
    go_wp2_with fail
    refine (implIsRace_any rt rl _).mono ?_; rintro e w1 ⟨rfl, b1⟩
    rw [H1.out]
    go_wp2_with fail
    refine bodyPost_ret (v := .tuple #[.slice none 0 0, .bool false]) (by simp [results, Tryd.results42, go_sem]) rfl ⟨rfl, ?_⟩
    (repeat (first | exact Below.refl _ _ | exact ‹Below _ _ _› | refine Below.drew ?_ | refine Below.alloc ?_ (by first | omega | (simp; done) | (simp; omega)) _ | refine Below.setCell ?_ (by first | omega | (simp; done) | (simp; omega)) _ | refine Below.trans ?_ (Below.mono ‹Below _ _ _› (by first | omega | (simp; done) | (simp; omega)))))
  · have q3 : 100 < a + b := by omega
    have wab : IntKind.i64.wrap (a + b) = a + b := IntWalk.i64_in _ (by omega)
    clear hn
    go_enter Tryd.func42, Tryd.ntmps42
    go_wp2_with fail
    refine (implIsRace_any rt rl _).mono ?_; rintro e w1 ⟨rfl, b1⟩
    rw [H1.out]
    go_wp2_with fail
    refine bodyPost_ret (v := .tuple #[.slice none 0 0, .bool false]) (by simp [results, Tryd.results42, go_sem]) rfl ⟨rfl, ?_⟩
    (repeat (first | exact Below.refl _ _ | exact ‹Below _ _ _› | refine Below.drew ?_ | refine Below.alloc ?_ (by first | omega | (simp; done) | (simp; omega)) _ | refine Below.setCell ?_ (by first | omega | (simp; done) | (simp; omega)) _ | refine Below.trans ?_ (Below.mono ‹Below _ _ _› (by first | omega | (simp; done) | (simp; omega)))))

set_option maxHeartbeats 3200000 in
theorem playsTo_any (rt rl : Int) (A B : Nat) (w : World) (hb : bothR rt rl A B = true) :
    Calls Tryd.prog 42 #[.agg #[.int .i64 rt, .int .i64 rl], .int .i64 A, .int .i64 B] w fun e w' => ∃ gh bk, e = .returned (.tuple #[.slice (some ⟨gh, 0, none⟩) (A + 1 + 1) (A + 1 + 1), .bool true]) ∧ TalF w' gh bk (A + 1) (B + 1 + 1) (onR rt rl A B) ∧ Below w.heap.size w w' := by
  obtain ⟨h1, h2, h3, h4⟩ := both_true.1 hb
  have H1 := Lib.hid h1; clear h1 hb
  have hp0 := Pair.new w rt rl 37
  have hb0 := below_new w (.cells #[.int .i64 rt, .int .i64 rl] 37)
  have HP0 := Lib.hid (And.intro hp0 hb0); clear hp0 hb0
  have hwy := fun w' (h : Pair w' w.heap.size rt rl) => waysOn_any rt rl A B (by omega) w.heap.size w' h
  have HW := Lib.hid hwy; clear hwy
  have q1 : ¬ min (A : Int) (B : Int) < 0 := by omega
  have q2 : ¬ 100 < max (A : Int) (B : Int) := by omega
  have q3 : ¬ 100 < (A : Int) + (B : Int) := by omega
  go_enter Tryd.func42, Tryd.ntmps42
  go_wp2_with fail
  refine (implIsRace_any rt rl _).mono ?_; rintro e w1 ⟨rfl, b1⟩
  rw [H1.out]
  have HP1 := Lib.hid (And.intro (HP0.out.1.keep b1) (HP0.out.2.trans (b1.mono HP0.out.2.size))); clear b1 HP0
  go_wp2_with fail
  refine (HW.out _ HP1.out.1).mono ?_; rintro e w2 ⟨gh, bk, rfl, t2, b2⟩
  have H2 := Lib.hid (And.intro t2 (HP1.out.2.trans (b2.mono HP1.out.2.size))); clear t2 b2 HP1
  go_wp2_with fail
  refine bodyPost_ret (v := .tuple #[.slice (some ⟨gh, 0, none⟩) (A + 1 + 1) (A + 1 + 1), .bool true]) (by simp [results, Tryd.results42, go_sem]) rfl ⟨gh, bk, rfl, H2.out⟩

set_option maxHeartbeats 1600000 in
theorem from_any (G : Int → Int → Int) (gh : Nat) (bk : Nat → Nat) (A W x y : Nat) (hA : A ≤ 101) (hx : x ≤ A) (hy : y < W) (w : World) (h : TalF w gh bk A W G) :
    Calls Tryd.prog 71 #[.slice (some ⟨gh, 0, none⟩) (A + 1) (A + 1), .agg #[.int .i64 x, .int .i64 y]] w fun e w' => e = .returned (.int .i64 (G x y)) ∧ Below w.heap.size w w' := by
  have hb0 := below_new w (.cells #[.int .i64 x, .int .i64 y] 65)
  have hp0 := Pair.new w x y 65
  have ht := h.keep hb0
  have h1 := ht.head hx
  have k1 := ht.cell hx hy
  have HB := Lib.hid hb0; clear hb0 ht h
  obtain ⟨z, c0, c1, -, -⟩ := hp0
  have b1 : (x : Int) < (A : Int) + 1 := by omega
  have b2 : (y : Int) < (W : Int) := by omega
  generalize G x y = v at *
  go_enter Tryd.func71, Tryd.ntmps71
  go_wp2_with fail
  go_quiet (fail)
  go_wp2_with fail
  go_ret
  exact ⟨rfl, below_drewN HB.out _⟩

set_option maxHeartbeats 800000 in
theorem limitCount_any (n m : Int) (w : World) :
    Calls Tryd.prog 43 #[.int .i64 n, .int .i64 m] w fun e w' => e = .returned (.tuple #[.int .i64 (if m < n then 0 else n), .bool (!decide (m < n))]) ∧ w = w' := by
  by_cases h : m < n
  · rw [if_pos h, decide_eq_true h]
    go_enter Tryd.func43, Tryd.ntmps43
    go_wp2
    refine bodyPost_ret (v := .tuple #[.int .i64 0, .bool false]) (by simp [results, Tryd.results43, go_sem]) rfl ⟨rfl, rfl⟩
  · rw [if_neg h, decide_eq_false h]
    go_enter Tryd.func43, Tryd.ntmps43
    go_wp2
    refine bodyPost_ret (v := .tuple #[.int .i64 n, .bool true]) (by simp [results, Tryd.results43, go_sem]) rfl ⟨rfl, rfl⟩

end Go.Proofs.YthlkndloggmehaaDoor
