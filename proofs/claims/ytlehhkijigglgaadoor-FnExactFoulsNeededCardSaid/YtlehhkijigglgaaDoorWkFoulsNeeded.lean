/- What the exact law of FoulsNeeded does, step by step. -/
import Derived.Test.YtlehhkijigglgaaDoorFrFoul
namespace Go.Proofs.YtlehhkijigglgaaDoor.ExFoulsNeeded
open Go.RowKit
set_option linter.unusedVariables false

set_option maxHeartbeats 800000 in
theorem law_of (r : Int) (c : Bool) (l : Int) (x1 : Int) (y0 : Int) (o1 : Bool) (hs : (∀ w : World, Calls Tryd.prog 45 #[frW r c l, .int .i64 x1] w fun e w' => e = .returned (.tuple #[.int .i64 y0, .bool o1]) ∧ Below w.heap.size w w')) (hi : (∀ w : World, Calls Tryd.prog 46 #[frW r c l, .int .i64 x1] w fun e w' => e = .returned (.tuple #[.int .i64 y0, .bool o1]) ∧ Below w.heap.size w w')) (w : World) :
    Calls Tryd.prog 15 #[frW r c l, .int .i64 x1] w fun e w' => e = .returned (.bool true) ∧ Below w.heap.size w w' := by
  have HS := Lib.hid hs; clear hs
  have HI := Lib.hid hi; clear hi
  have q0 : ((y0 : Int) != y0) = false := by simp
  have q1 : (o1 != o1) = false := by simp
  go_enter Tryd.func15, Tryd.ntmps15
  go_wp2_with fail
  refine (toFrame_any r c l _).mono ?_; rintro e w1 ⟨rfl, b1⟩
  obtain ⟨c1, f1⟩ := bcell b1; have z1 : w.heap.size < w1.heap.size := (by have := b1.size; (try simp at this); omega)
  go_wp2_with fail
  refine (HS.out _).mono ?_; rintro e w2 ⟨rfl, b2⟩
  obtain ⟨c2, f2⟩ := bcell b2; have z2 : w.heap.size < w2.heap.size := (by have := b2.size; (try simp at this); omega)
  go_wp2_with fail
  refine (toFrame_any r c l _).mono ?_; rintro e w3 ⟨rfl, b3⟩
  obtain ⟨c3, f3⟩ := bcell b3; have z3 : w.heap.size < w3.heap.size := (by have := b3.size; (try simp at this); omega)
  go_wp2_with fail
  refine (HI.out _).mono ?_; rintro e w4 ⟨rfl, b4⟩
  obtain ⟨c4, f4⟩ := bcell b4; have z4 : w.heap.size < w4.heap.size := (by have := b4.size; (try simp at this); omega)
  go_wp2_with fail
  go_ret
  refine ⟨rfl, ?_⟩
  have sz_b1 := b1.size; (try simp at sz_b1); have sz_b2 := b2.size; (try simp at sz_b2); have sz_b3 := b3.size; (try simp at sz_b3); have sz_b4 := b4.size; (try simp at sz_b4)
  (repeat (first | exact Below.refl _ _ | exact ‹Below _ _ _› | refine Below.drew ?_ | refine Below.alloc ?_ (by first | omega | (simp; done) | (simp; omega)) _ | refine Below.setCell ?_ (by first | omega | (simp; done) | (simp; omega)) _ | refine Below.trans ?_ (Below.mono ‹Below _ _ _› (by first | omega | (simp; done) | (simp; omega)))))

/-- How many fouls are needed. -/
def foulN (p b : Int) : Int := if b < p then 0 else (b - p) / 4 + 1
def foulO (p b : Int) : Bool := decide (foulN p b ≤ 100)
def foulR (p b : Int) : Int := if foulN p b ≤ 100 then foulN p b else 0

set_option maxHeartbeats 800000 in
theorem spec_bad (r : Int) (c : Bool) (l : Int) (b : Int) (hg : frG r c l = false) (w : World) :
    Calls Tryd.prog 45 #[frW r c l, .int .i64 b] w fun e w' => e = .returned (.tuple #[.int .i64 0, .bool false]) ∧ Below w.heap.size w w' := by
  have HC := Lib.hid (frBehind_bad r c l b hg); clear hg
  go_enter Tryd.func45, Tryd.ntmps45
  go_wp2_with fail
  refine (HC.out _).mono ?_; rintro e w1 ⟨rfl, b1⟩
  go_wp2_with fail
  refine bodyPost_ret (v := .tuple #[.int .i64 0, .bool false]) (by simp [results, Tryd.results45, go_sem]) rfl ⟨rfl, ?_⟩
  have sz_b1 := b1.size; (try simp at sz_b1)
  (repeat (first | exact Below.refl _ _ | exact ‹Below _ _ _› | refine Below.drew ?_ | refine Below.alloc ?_ (by first | omega | (simp; done) | (simp; omega)) _ | refine Below.setCell ?_ (by first | omega | (simp; done) | (simp; omega)) _ | refine Below.trans ?_ (Below.mono ‹Below _ _ _› (by first | omega | (simp; done) | (simp; omega)))))

set_option maxHeartbeats 800000 in
theorem spec_out (n : Nat) (hn : n ≤ 36) (b : Int) (hb : inR b 0 400 = false) (w : World) :
    Calls Tryd.prog 45 #[frV n, .int .i64 b] w fun e w' => e = .returned (.tuple #[.int .i64 0, .bool false]) ∧ Below w.heap.size w w' := by
  have hc := frBehind_n n hn b
  rw [hb] at hc
  have HC := Lib.hid hc; clear hb hc
  go_enter Tryd.func45, Tryd.ntmps45
  go_wp2_with fail
  refine (HC.out _).mono ?_; rintro e w1 ⟨rfl, b1⟩
  go_wp2_with fail
  refine bodyPost_ret (v := .tuple #[.int .i64 0, .bool false]) (by simp [results, Tryd.results45, go_sem]) rfl ⟨rfl, ?_⟩
  have sz_b1 := b1.size; (try simp at sz_b1)
  (repeat (first | exact Below.refl _ _ | exact ‹Below _ _ _› | refine Below.drew ?_ | refine Below.alloc ?_ (by first | omega | (simp; done) | (simp; omega)) _ | refine Below.setCell ?_ (by first | omega | (simp; done) | (simp; omega)) _ | refine Below.trans ?_ (Below.mono ‹Below _ _ _› (by first | omega | (simp; done) | (simp; omega)))))

set_option maxHeartbeats 800000 in
theorem spec_n (n : Nat) (hn : n ≤ 36) (b : Int) (hb : inR b 0 400 = true) (w : World) :
    Calls Tryd.prog 45 #[frV n, .int .i64 b] w fun e w' => e = .returned (.tuple #[.int .i64 (foulR (hiP n) b), .bool (foulO (hiP n) b)]) ∧ Below w.heap.size w w' := by
  have hc := frBehind_n n hn b
  rw [hb] at hc
  have h0 : 0 ≤ b := by unfold inR at hb; simp at hb; omega
  have h1 : b ≤ 400 := by unfold inR at hb; simp at hb; omega
  have HC := Lib.hid hc; clear hb hc
  have HS := Lib.hid (hiSum_any n hn)
  have HA := Lib.hid (hiAll_any n hn)
  obtain ⟨p0, p1⟩ := hiP_bd hn
  generalize hiS n = S at *
  generalize hiP n = p at *
  go_enter Tryd.func45, Tryd.ntmps45
  go_wp2_with fail
  refine (HC.out _).mono ?_; rintro e w1 ⟨rfl, b1⟩
  have tA0 := (FrAt.new w (frR n) (frC n) (frL n)).keep b1
  have hb0 : Below w.heap.size w w1 := ((Below.refl _ _).alloc (Nat.le_refl _) _).trans (b1.mono (by simp))
  have H0 := Lib.hid (And.intro tA0 hb0); clear tA0 hb0 b1
  go_wp2_with fail
  go_loopw [6] (fun i wr => ∃ k : Nat, i = .int .i64 k ∧ k ≤ 101 ∧ Hid ((k = 0 ∨ p + 4 * ((k : Int) - 1) ≤ b) ∧ FrAt wr w.heap.size (frR n) (frC n) (frL n) ∧ Below w.heap.size w wr)) (fun i _ => 200 - (intOf i).toNat)
  case atStart => exact ⟨0, rfl, by omega, Lib.hid ⟨.inl rfl, H0.out.1, H0.out.2⟩⟩
  case round =>
    obtain ⟨k, rfl, hk, hH⟩ := hrel
    obtain ⟨hlast, tA, hbel⟩ := hH.out
    clear hH
    obtain ⟨y0, y1, y2, -, -, -⟩ := tA.cells
    have HH := Lib.hid (And.intro hlast (And.intro tA hbel)); clear hlast tA hbel
    go_wp2_with fail
    refine (HA.out _).mono ?_; rintro e w2 ⟨rfl, b2⟩
    clear y0 y1 y2
    go_wp2_with fail
    refine (HS.out _).mono ?_; rintro e w3 ⟨rfl, rfl⟩
    by_cases hle : p + 4 * (k : Int) ≤ b
    · go_wp2
      go_roundw
      case rel => exact ⟨k + 1, by go_num, by omega, Lib.hid ⟨.inr (by omega), HH.out.2.1.keep b2, HH.out.2.2.trans (b2.mono HH.out.2.2.size)⟩⟩
      case measure => simp [intOf]; omega
    · have hf : foulN p b = k := by
        unfold foulN
        have := HH.out.1
        split <;> omega
      by_cases h100 : (100 : Int) < k
      · go_wp2
        refine bodyPost_ret (v := .tuple #[.int .i64 0, .bool false]) (by simp [results, Tryd.results45, go_sem]) rfl ⟨?_, HH.out.2.2.trans (b2.mono HH.out.2.2.size)⟩
        unfold foulR foulO; rw [hf, if_neg (by omega), decide_eq_false (by omega)]
      · go_wp2
        refine bodyPost_ret (v := .tuple #[.int .i64 k, .bool true]) (by simp [results, Tryd.results45, go_sem]) rfl ⟨?_, HH.out.2.2.trans (b2.mono HH.out.2.2.size)⟩
        unfold foulR foulO; rw [hf, if_pos (by omega), decide_eq_true (by omega)]

set_option maxHeartbeats 800000 in
theorem impl_bad (r : Int) (c : Bool) (l : Int) (b : Int) (hg : frG r c l = false) (w : World) :
    Calls Tryd.prog 46 #[frW r c l, .int .i64 b] w fun e w' => e = .returned (.tuple #[.int .i64 0, .bool false]) ∧ Below w.heap.size w w' := by
  have HC := Lib.hid (canWin_bad r c l b hg); clear hg
  go_enter Tryd.func46, Tryd.ntmps46
  go_wp2_with fail
  refine (HC.out _).mono ?_; rintro e w1 ⟨rfl, b1⟩
  go_wp2_with fail
  refine bodyPost_ret (v := .tuple #[.int .i64 0, .bool false]) (by simp [results, Tryd.results46, go_sem]) rfl ⟨rfl, ?_⟩
  have sz_b1 := b1.size; (try simp at sz_b1)
  (repeat (first | exact Below.refl _ _ | exact ‹Below _ _ _› | refine Below.drew ?_ | refine Below.alloc ?_ (by first | omega | (simp; done) | (simp; omega)) _ | refine Below.setCell ?_ (by first | omega | (simp; done) | (simp; omega)) _ | refine Below.trans ?_ (Below.mono ‹Below _ _ _› (by first | omega | (simp; done) | (simp; omega)))))

set_option maxHeartbeats 800000 in
theorem impl_out (n : Nat) (hn : n ≤ 36) (b : Int) (hb : inR b 0 400 = false) (w : World) :
    Calls Tryd.prog 46 #[frV n, .int .i64 b] w fun e w' => e = .returned (.tuple #[.int .i64 0, .bool false]) ∧ Below w.heap.size w w' := by
  have HC := Lib.hid (canWin_out n hn b hb); clear hb
  go_enter Tryd.func46, Tryd.ntmps46
  go_wp2_with fail
  refine (HC.out _).mono ?_; rintro e w1 ⟨rfl, b1⟩
  go_wp2_with fail
  refine bodyPost_ret (v := .tuple #[.int .i64 0, .bool false]) (by simp [results, Tryd.results46, go_sem]) rfl ⟨rfl, ?_⟩
  have sz_b1 := b1.size; (try simp at sz_b1)
  (repeat (first | exact Below.refl _ _ | exact ‹Below _ _ _› | refine Below.drew ?_ | refine Below.alloc ?_ (by first | omega | (simp; done) | (simp; omega)) _ | refine Below.setCell ?_ (by first | omega | (simp; done) | (simp; omega)) _ | refine Below.trans ?_ (Below.mono ‹Below _ _ _› (by first | omega | (simp; done) | (simp; omega)))))

set_option maxHeartbeats 800000 in
theorem impl_n (n : Nat) (hn : n ≤ 36) (b : Int) (hb : inR b 0 400 = true) (w : World) :
    Calls Tryd.prog 46 #[frV n, .int .i64 b] w fun e w' => e = .returned (.tuple #[.int .i64 (foulR (hiP n) b), .bool (foulO (hiP n) b)]) ∧ Below w.heap.size w w' := by
  have hc := canWin_n n hn b hb
  have HL := Lib.hid (pointsLeft_n n hn)
  have h0 : 0 ≤ b := by unfold inR at hb; simp at hb; omega
  have h1 : b ≤ 400 := by unfold inR at hb; simp at hb; omega
  obtain ⟨p0, p1⟩ := hiP_bd hn
  generalize hiP n = p at *
  by_cases hlt : b < p
  · rw [decide_eq_true hlt] at hc
    have hf : foulN p b = 0 := by unfold foulN; rw [if_pos hlt]
    have hv : foulR p b = 0 ∧ foulO p b = true := by unfold foulR foulO; rw [hf]; exact ⟨rfl, rfl⟩
    rw [hv.1, hv.2]
    have HC := Lib.hid hc; clear hb hc hf hv
    go_enter Tryd.func46, Tryd.ntmps46
    go_wp2_with fail
    refine (HC.out _).mono ?_; rintro e w1 ⟨rfl, b1⟩
    go_wp2_with fail
    refine bodyPost_ret (v := .tuple #[.int .i64 0, .bool true]) (by simp [results, Tryd.results46, go_sem]) rfl ⟨rfl, ?_⟩
    (repeat (first | exact Below.refl _ _ | exact ‹Below _ _ _› | refine Below.drew ?_ | refine Below.alloc ?_ (by first | omega | (simp; done) | (simp; omega)) _ | refine Below.setCell ?_ (by first | omega | (simp; done) | (simp; omega)) _ | refine Below.trans ?_ (Below.mono ‹Below _ _ _› (by first | omega | (simp; done) | (simp; omega)))))
  · rw [decide_eq_false hlt] at hc
    have hf : foulN p b = (b - p) / 4 + 1 := by unfold foulN; rw [if_neg hlt]
    have hdiv : (b - p).tdiv 4 = (b - p) / 4 := Int.tdiv_eq_ediv_of_nonneg (by omega)
    have HF := Lib.hid hf
    have HC := Lib.hid hc; clear hb hc hf
    have hq0 : 0 ≤ (b - p) / 4 := by omega
    have hq1 : (b - p) / 4 ≤ 100 := by omega
    have hpb : p ≤ b := by omega
    generalize hq : (b - p) / 4 = q at *
    by_cases h100 : (100 : Int) < q + 1
    · go_enter Tryd.func46, Tryd.ntmps46
      go_wp2_with fail
      refine (HC.out _).mono ?_; rintro e w1 ⟨rfl, b1⟩
      obtain ⟨c1, f1⟩ := bcell b1; have z1 : w.heap.size < w1.heap.size := (by have := b1.size; (try simp at this); omega)
      go_wp2_with fail
      refine (HL.out _).mono ?_; rintro e w2 ⟨rfl, b2⟩
      go_wp2_with fail
      refine bodyPost_ret (v := .tuple #[.int .i64 0, .bool false]) (by simp [results, Tryd.results46, go_sem]) rfl ⟨by unfold foulR foulO; rw [HF.out, if_neg (by omega), decide_eq_false (by omega)], ?_⟩
      have sz_b1 := b1.size; (try simp at sz_b1); have sz_b2 := b2.size; (try simp at sz_b2)
      (repeat (first | exact Below.refl _ _ | exact ‹Below _ _ _› | refine Below.drew ?_ | refine Below.alloc ?_ (by first | omega | (simp; done) | (simp; omega)) _ | refine Below.setCell ?_ (by first | omega | (simp; done) | (simp; omega)) _ | refine Below.trans ?_ (Below.mono ‹Below _ _ _› (by first | omega | (simp; done) | (simp; omega)))))
    · go_enter Tryd.func46, Tryd.ntmps46
      go_wp2_with fail
      refine (HC.out _).mono ?_; rintro e w1 ⟨rfl, b1⟩
      obtain ⟨c1, f1⟩ := bcell b1; have z1 : w.heap.size < w1.heap.size := (by have := b1.size; (try simp at this); omega)
      go_wp2_with fail
      refine (HL.out _).mono ?_; rintro e w2 ⟨rfl, b2⟩
      go_wp2_with fail
      refine bodyPost_ret (v := .tuple #[.int .i64 (q + 1), .bool true]) (by simp [results, Tryd.results46, go_sem]) rfl ⟨by unfold foulR foulO; rw [HF.out, if_pos (by omega), decide_eq_true (by omega)], ?_⟩
      have sz_b1 := b1.size; (try simp at sz_b1); have sz_b2 := b2.size; (try simp at sz_b2)
      (repeat (first | exact Below.refl _ _ | exact ‹Below _ _ _› | refine Below.drew ?_ | refine Below.alloc ?_ (by first | omega | (simp; done) | (simp; omega)) _ | refine Below.setCell ?_ (by first | omega | (simp; done) | (simp; omega)) _ | refine Below.trans ?_ (Below.mono ‹Below _ _ _› (by first | omega | (simp; done) | (simp; omega)))))

theorem walk (r : Int) (c : Bool) (l : Int) (b : Int) (w : World) :
    Calls Tryd.prog 15 #[frW r c l, .int .i64 b] w fun e w' => e = .returned (.bool true) ∧ Below w.heap.size w w' := by
  cases hg : frG r c l
  · exact law_of r c l b _ _ (spec_bad r c l b hg) (impl_bad r c l b hg) w
  · obtain ⟨n, hn, rfl, rfl, rfl⟩ := frG_n hg
    cases hb : inR b 0 400
    · exact law_of _ _ _ b _ _ (spec_out n hn b hb) (impl_out n hn b hb) w
    · exact law_of _ _ _ b _ _ (spec_n n hn b hb) (impl_n n hn b hb) w
end Go.Proofs.YtlehhkijigglgaaDoor.ExFoulsNeeded
