/- What the exact law of CountByPoints does, step by step. -/
import Derived.Test.YtaplkciomagmiabDoorFwImp
import Derived.Deep.RegionWith
namespace Go.Proofs.YtaplkciomagmiabDoor.ExCountByPoints
open Go.RowKit
set_option linter.unusedVariables false
set_option linter.unusedSimpArgs false

set_option maxHeartbeats 800000 in
theorem law_of (r : Int) (c : Bool) (l : Int) (x1 : Int) (y0 : Int) (o1 : Bool) (hs : (∀ w : World, Calls Tryd.prog 16 #[frW r c l, .int .i64 x1] w fun e w' => e = .returned (.tuple #[.int .i64 y0, .bool o1]) ∧ Below w.heap.size w w')) (hi : (∀ w : World, Calls Tryd.prog 17 #[frW r c l, .int .i64 x1] w fun e w' => e = .returned (.tuple #[.int .i64 y0, .bool o1]) ∧ Below w.heap.size w w')) (w : World) :
    Calls Tryd.prog 4 #[frW r c l, .int .i64 x1] w fun e w' => e = .returned (.bool true) ∧ Below w.heap.size w w' := by
  have HS := Lib.hid hs; clear hs
  have HI := Lib.hid hi; clear hi
  have q0 : ((y0 : Int) != y0) = false := by simp
  have q1 : (o1 != o1) = false := by simp
  go_enter Tryd.func4, Tryd.ntmps4
  go_wp2_with fail
  refine (toFrame_any r c l _).mono ?_; rintro e w1 ⟨rfl, b1⟩
  obtain ⟨c1, f1⟩ := bcell b1; have z1 : w.heap.size < w1.heap.size := (by have := b1.size; (try simp at this); omega)
  go_wp2_with fail
  refine (HS.out _).mono ?_; rintro e w2 ⟨rfl, b2⟩
  obtain ⟨c2, f2⟩ := bcell b2; have z2 : w.heap.size < w2.heap.size := (by have := b2.size; (try simp at this); omega)
  go_wp2_with fail
  refine (toFrame_any r c l _).mono ?_; rintro e w3 ⟨rfl, b3⟩
  obtain ⟨c3, f3⟩ := bcell b3; have z3 : w.heap.size < w3.heap.size := (by have := b3.size; (try simp at this); omega)
  go_wp2_with fail
  refine (HI.out _).mono ?_; rintro e w4 ⟨rfl, b4⟩
  obtain ⟨c4, f4⟩ := bcell b4; have z4 : w.heap.size < w4.heap.size := (by have := b4.size; (try simp at this); omega)
  go_wp2_with fail
  go_ret
  refine ⟨rfl, ?_⟩
  have sz_b1 := b1.size; (try simp at sz_b1); have sz_b2 := b2.size; (try simp at sz_b2); have sz_b3 := b3.size; (try simp at sz_b3); have sz_b4 := b4.size; (try simp at sz_b4)
  (repeat (first | exact Below.refl _ _ | exact ‹Below _ _ _› | refine Below.drew ?_ | refine Below.alloc ?_ (by first | omega | (simp; done) | (simp; omega)) _ | refine Below.setCell ?_ (by first | omega | (simp; done) | (simp; omega)) _ | refine Below.trans ?_ (Below.mono ‹Below _ _ _› (by first | omega | (simp; done) | (simp; omega)))))

set_option maxHeartbeats 400000 in
theorem limitC_any (a : Int) (h : a ≤ 1000000000000000) (w : World) : Calls Tryd.prog 40 #[.int .i64 a, .int .i64 1000000000000000] w fun e w' => e = .returned (.tuple #[.int .i64 a, .bool true]) ∧ w = w' := by
  have hq : decide (1000000000000000 < a) = false := by simp; omega
  clear h
  go_enter Tryd.func40, Tryd.ntmps40
  go_wp2
  refine bodyPost_ret (v := .tuple #[.int .i64 a, .bool true]) (by simp [results, Tryd.results40, go_sem]) rfl ⟨rfl, rfl⟩
set_option maxHeartbeats 400000 in
theorem limit_any (a : Int) (h : a ≤ 1000000000000000) (w : World) : Calls Tryd.prog 30 #[.int .i64 a] w fun e w' => e = .returned (.tuple #[.int .i64 a, .bool true]) ∧ w = w' := by
  have HL := Lib.hid (fun w => limitC_any a h w); clear h
  go_enter Tryd.func30, Tryd.ntmps30
  go_wp2_with fail
  refine (HL.out _).mono ?_; rintro e w1 ⟨rfl, rfl⟩
  go_wp2_with fail
  refine bodyPost_ret (v := .tuple #[.int .i64 a, .bool true]) (by simp [results, Tryd.results30, go_sem]) rfl ⟨rfl, rfl⟩
set_option maxHeartbeats 800000 in
theorem spec_bad (r : Int) (c : Bool) (l : Int) (b : Int) (hg : frG r c l = false) (w : World) :
    Calls Tryd.prog 16 #[frW r c l, .int .i64 b] w fun e w' => e = .returned (.tuple #[.int .i64 0, .bool false]) ∧ Below w.heap.size w w' := by
  have H := Lib.hid hg; clear hg
  go_enter Tryd.func16, Tryd.ntmps16
  go_wp2_with fail
  refine (frGood_any _ _ _ _).mono ?_; rintro e w1 ⟨rfl, b1⟩
  rw [H.out]
  obtain ⟨c1, f1⟩ := bcell b1; have z1 : w.heap.size < w1.heap.size := (by have := b1.size; (try simp at this); omega)
  go_wp2_with fail
  refine bodyPost_ret (v := .tuple #[.int .i64 0, .bool false]) (by simp [results, Tryd.results16, go_sem]) rfl ⟨rfl, ?_⟩
  (repeat (first | exact Below.refl _ _ | exact ‹Below _ _ _› | refine Below.drew ?_ | refine Below.alloc ?_ (by first | omega | (simp; done) | (simp; omega)) _ | refine Below.setCell ?_ (by first | omega | (simp; done) | (simp; omega)) _ | refine Below.trans ?_ (Below.mono ‹Below _ _ _› (by first | omega | (simp; done) | (simp; omega)))))

set_option maxHeartbeats 800000 in
theorem spec_out (n : Nat) (hn : n ≤ 36) (b : Int) (hb : inR b 0 147 = false) (w : World) :
    Calls Tryd.prog 16 #[frV n, .int .i64 b] w fun e w' => e = .returned (.tuple #[.int .i64 0, .bool false]) ∧ Below w.heap.size w w' := by
  have HO := Lib.hid hb; clear hb
  have H := Lib.hid (frG_of hn)
  go_enter Tryd.func16, Tryd.ntmps16
  go_wp2_with fail
  refine (frGood_any _ _ _ _).mono ?_; rintro e w1 ⟨rfl, b1⟩
  rw [H.out]
  obtain ⟨c1, f1⟩ := bcell b1; have z1 : w.heap.size < w1.heap.size := (by have := b1.size; (try simp at this); omega)
  go_wp2_with fail
  refine (l1In_any _ _ _ _).mono ?_; rintro e w2 ⟨rfl, rfl⟩
  rw [HO.out]
  go_wp2_with fail
  refine bodyPost_ret (v := .tuple #[.int .i64 0, .bool false]) (by simp [results, Tryd.results16, go_sem]) rfl ⟨rfl, ?_⟩
  (repeat (first | exact Below.refl _ _ | exact ‹Below _ _ _› | refine Below.drew ?_ | refine Below.alloc ?_ (by first | omega | (simp; done) | (simp; omega)) _ | refine Below.setCell ?_ (by first | omega | (simp; done) | (simp; omega)) _ | refine Below.trans ?_ (Below.mono ‹Below _ _ _› (by first | omega | (simp; done) | (simp; omega)))))

set_option maxHeartbeats 800000 in
theorem impl_bad (r : Int) (c : Bool) (l : Int) (b : Int) (hg : frG r c l = false) (w : World) :
    Calls Tryd.prog 17 #[frW r c l, .int .i64 b] w fun e w' => e = .returned (.tuple #[.int .i64 0, .bool false]) ∧ Below w.heap.size w w' := by
  have H := Lib.hid hg; clear hg
  go_enter Tryd.func17, Tryd.ntmps17
  go_wp2_with fail
  refine (isFrame_any _ _ _ _).mono ?_; rintro e w1 ⟨rfl, b1⟩
  rw [H.out]
  obtain ⟨c1, f1⟩ := bcell b1; have z1 : w.heap.size < w1.heap.size := (by have := b1.size; (try simp at this); omega)
  go_wp2_with fail
  refine bodyPost_ret (v := .tuple #[.int .i64 0, .bool false]) (by simp [results, Tryd.results17, go_sem]) rfl ⟨rfl, ?_⟩
  (repeat (first | exact Below.refl _ _ | exact ‹Below _ _ _› | refine Below.drew ?_ | refine Below.alloc ?_ (by first | omega | (simp; done) | (simp; omega)) _ | refine Below.setCell ?_ (by first | omega | (simp; done) | (simp; omega)) _ | refine Below.trans ?_ (Below.mono ‹Below _ _ _› (by first | omega | (simp; done) | (simp; omega)))))

set_option maxHeartbeats 800000 in
theorem impl_out (n : Nat) (hn : n ≤ 36) (b : Int) (hb : inR b 0 147 = false) (w : World) :
    Calls Tryd.prog 17 #[frV n, .int .i64 b] w fun e w' => e = .returned (.tuple #[.int .i64 0, .bool false]) ∧ Below w.heap.size w w' := by
  have H := Lib.hid (frG_of hn)
  have hb' : b < 0 ∨ (0 ≤ b ∧ 147 < b) := by unfold inR at hb; simp at hb; omega
  clear hb
  rcases hb' with h0 | ⟨h0, h1⟩
  all_goals
    go_enter Tryd.func17, Tryd.ntmps17
    go_wp2_with fail
    refine (isFrame_any _ _ _ _).mono ?_; rintro e w1 ⟨rfl, b1⟩
    rw [H.out]
    go_wp2_with fail
    refine bodyPost_ret (v := .tuple #[.int .i64 0, .bool false]) (by simp [results, Tryd.results17, go_sem]) rfl ⟨rfl, ?_⟩
    (repeat (first | exact Below.refl _ _ | exact ‹Below _ _ _› | refine Below.drew ?_ | refine Below.alloc ?_ (by first | omega | (simp; done) | (simp; omega)) _ | refine Below.setCell ?_ (by first | omega | (simp; done) | (simp; omega)) _ | refine Below.trans ?_ (Below.mono ‹Below _ _ _› (by first | omega | (simp; done) | (simp; omega)))))

set_option maxHeartbeats 3200000 in
set_option maxRecDepth 100000 in
theorem spec_n (n : Nat) (hn : n ≤ 36) (k : Nat) (hk : k ≤ 147) (w : World) :
    Calls Tryd.prog 16 #[frV n, .int .i64 k] w fun e w' => e = .returned (.tuple #[.int .i64 (bp n k), .bool true]) ∧ Below w.heap.size w w' := by
  have H := Lib.hid (frG_of hn)
  have HI := Lib.hid (show inR (k : Int) 0 147 = true by unfold inR; simp; omega)
  have hbd := bp_bd hn (k : Int)
  obtain ⟨v, hv⟩ : ∃ v, v = bp n (k : Int) := ⟨_, rfl⟩
  rw [← hv] at hbd ⊢
  have HV := Lib.hid hv; clear hv
  have A0 := FrAt.new w (frR n) (frC n) (frL n)
  have b0 := below_new w (.cells #[.int .i64 (frR n), .bool (frC n), .int .i64 (frL n)] 29)
  go_enter Tryd.func16, Tryd.ntmps16
  go_wp2_with fail
  refine (frGood_any _ _ _ _).mono ?_; rintro e w1 ⟨rfl, b1⟩
  rw [H.out]
  have H1 := Lib.hid (And.intro (A0.keep b1) (b0.trans (b1.mono b0.size))); clear A0 b0 b1
  obtain ⟨d0, d1, d2, -, -, -⟩ := H1.out.1.cells
  go_wp2_with fail
  refine (l1In_any _ _ _ _).mono ?_; rintro e w2 ⟨rfl, rfl⟩
  rw [HI.out]
  go_wp2_with fail
  refine (frWays_any n k hn hk _).mono ?_; rintro e w3 ⟨g, rfl, hg, hr, b3⟩
  have c0 := hr.cell (j := k) (by rw [rowI_len]; omega)
  rw [rowI_get _ (by omega), ← HV.out] at c0
  have b2 : (k : Int) < (k : Int) + 1 := by omega
  have H3 := Lib.hid (H1.out.2.trans (b3.mono H1.out.2.size))
  clear hr d0 d1 d2 b3 H1
  go_wp2_with fail
  go_ret2
  exact ⟨rfl, H3.out⟩

set_option maxHeartbeats 3200000 in
set_option maxRecDepth 100000 in
theorem impl_n (n : Nat) (hn : n ≤ 36) (k : Nat) (hk : k ≤ 147) (w : World) :
    Calls Tryd.prog 17 #[frV n, .int .i64 k] w fun e w' => e = .returned (.tuple #[.int .i64 (bp n k), .bool true]) ∧ Below w.heap.size w w' := by
  have H := Lib.hid (frG_of hn)
  have hbd := bp_bd hn (k : Int)
  have hix : ∀ w, (Instr.index 52 (.agg (ptA n)) (.int .i64 (k : Int))).run Tryd.prog w = .ok (.int .i64 (bp n k)) w := fun w => index_pt n k hk w
  obtain ⟨v, hv⟩ : ∃ v, v = bp n (k : Int) := ⟨_, rfl⟩
  rw [← hv] at hbd hix ⊢
  clear hv
  have HIX := Lib.hid hix; clear hix
  have A0 := FrAt.new w (frR n) (frC n) (frL n)
  have b0 := below_new w (.cells #[.int .i64 (frR n), .bool (frC n), .int .i64 (frL n)] 29)
  have k0 : ¬ (k : Int) < 0 := by omega
  have k1 : ¬ (147 : Int) < (k : Int) := by omega
  go_enter Tryd.func17, Tryd.ntmps17
  go_wp2_with fail
  refine (isFrame_any _ _ _ _).mono ?_; rintro e w1 ⟨rfl, b1⟩
  rw [H.out]
  have H1 := Lib.hid (And.intro (A0.keep b1) (b0.trans (b1.mono b0.size))); clear A0 b0 b1
  obtain ⟨d0, d1, d2, -, -, -⟩ := H1.out.1.cells
  go_wp2_with fail
  refine (byPoints_any n hn _).mono ?_; rintro e w3 ⟨rfl, b3⟩
  have hix := HIX.out
  have H3 := Lib.hid (H1.out.2.trans (b3.mono H1.out.2.size))
  clear d0 d1 d2 b3 H1
  go_wp2_with fail
  refine (limit_any _ (by omega) _).mono ?_; rintro e w4 ⟨rfl, rfl⟩
  go_wp2_with fail
  go_ret2
  exact ⟨rfl, H3.out⟩

theorem walk (r : Int) (c : Bool) (l : Int) (b : Int) (w : World) :
    Calls Tryd.prog 4 #[frW r c l, .int .i64 b] w fun e w' => e = .returned (.bool true) ∧ Below w.heap.size w w' := by
  cases hg : frG r c l
  · exact law_of r c l b _ _ (spec_bad r c l b hg) (impl_bad r c l b hg) w
  · obtain ⟨n, hn, rfl, rfl, rfl⟩ := frG_n hg
    cases hb : inR b 0 147
    · exact law_of _ _ _ b _ _ (spec_out n hn b hb) (impl_out n hn b hb) w
    · obtain ⟨k, rfl, hk⟩ : ∃ k : Nat, b = k ∧ k ≤ 147 := by
        unfold inR at hb; simp at hb
        exact ⟨b.toNat, by omega, by omega⟩
      exact law_of _ _ _ _ _ _ (spec_n n hn k hk) (impl_n n hn k hk) w
end Go.Proofs.YtaplkciomagmiabDoor.ExCountByPoints
