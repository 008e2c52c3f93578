/- What the exact law of FirstWithPoints does, step by step. -/
import Derived.Test.YtaplkciomagmiabDoorFwFpS
namespace Go.Proofs.YtaplkciomagmiabDoor.ExFirstWithPoints
open Go.RowKit
set_option linter.unusedVariables false
set_option linter.unusedSimpArgs false

set_option maxHeartbeats 800000 in
theorem law_of (r : Int) (c : Bool) (l : Int) (x1 : Int) (t0 : ByteArray) (o1 : Bool) (hs : (∀ w : World, Calls Tryd.prog 18 #[frW r c l, .int .i64 x1] w fun e w' => e = .returned (.tuple #[.string t0, .bool o1]) ∧ Below w.heap.size w w')) (hi : (∀ w : World, Calls Tryd.prog 19 #[frW r c l, .int .i64 x1] w fun e w' => e = .returned (.tuple #[.string t0, .bool o1]) ∧ Below w.heap.size w w')) (w : World) :
    Calls Tryd.prog 5 #[frW r c l, .int .i64 x1] w fun e w' => e = .returned (.bool true) ∧ Below w.heap.size w w' := by
  have HS := Lib.hid hs; clear hs
  have HI := Lib.hid hi; clear hi
  have q1 : (o1 != o1) = false := by simp
  go_enter Tryd.func5, Tryd.ntmps5
  go_wp2_with fail
  refine (toFrame_any r c l _).mono ?_; rintro e w1 ⟨rfl, b1⟩
  obtain ⟨c1, f1⟩ := bcell b1; have z1 : w.heap.size < w1.heap.size := (by have := b1.size; (try simp at this); omega)
  go_wp2_with fail
  refine (HS.out _).mono ?_; rintro e w2 ⟨rfl, b2⟩
  obtain ⟨c2, f2⟩ := bcell b2; have z2 : w.heap.size < w2.heap.size := (by have := b2.size; (try simp at this); omega)
  go_wp2_with fail
  refine (toFrame_any r c l _).mono ?_; rintro e w3 ⟨rfl, b3⟩
  obtain ⟨c3, f3⟩ := bcell b3; have z3 : w.heap.size < w3.heap.size := (by have := b3.size; (try simp at this); omega)
  go_wp2_with fail
  refine (HI.out _).mono ?_; rintro e w4 ⟨rfl, b4⟩
  obtain ⟨c4, f4⟩ := bcell b4; have z4 : w.heap.size < w4.heap.size := (by have := b4.size; (try simp at this); omega)
  go_wp2_with fail
  go_ret
  refine ⟨rfl, ?_⟩
  have sz_b1 := b1.size; (try simp at sz_b1); have sz_b2 := b2.size; (try simp at sz_b2); have sz_b3 := b3.size; (try simp at sz_b3); have sz_b4 := b4.size; (try simp at sz_b4)
  (repeat (first | exact Below.refl _ _ | exact ‹Below _ _ _› | refine Below.drew ?_ | refine Below.alloc ?_ (by first | omega | (simp; done) | (simp; omega)) _ | refine Below.setCell ?_ (by first | omega | (simp; done) | (simp; omega)) _ | refine Below.trans ?_ (Below.mono ‹Below _ _ _› (by first | omega | (simp; done) | (simp; omega)))))

set_option maxHeartbeats 800000 in
theorem spec_bad (r : Int) (c : Bool) (l : Int) (b : Int) (hg : frG r c l = false) (w : World) :
    Calls Tryd.prog 18 #[frW r c l, .int .i64 b] w fun e w' => e = .returned (.tuple #[.string ⟨#[]⟩, .bool false]) ∧ Below w.heap.size w w' := by
  have H := Lib.hid hg; clear hg
  go_enter Tryd.func18, Tryd.ntmps18
  go_wp2_with fail
  refine (frGood_any _ _ _ _).mono ?_; rintro e w1 ⟨rfl, b1⟩
  rw [H.out]
  obtain ⟨c1, f1⟩ := bcell b1; have z1 : w.heap.size < w1.heap.size := (by have := b1.size; (try simp at this); omega)
  go_wp2_with fail
  refine bodyPost_ret (v := .tuple #[.string ⟨#[]⟩, .bool false]) (by simp [results, Tryd.results18, go_sem]) rfl ⟨rfl, ?_⟩
  (repeat (first | exact Below.refl _ _ | exact ‹Below _ _ _› | refine Below.drew ?_ | refine Below.alloc ?_ (by first | omega | (simp; done) | (simp; omega)) _ | refine Below.setCell ?_ (by first | omega | (simp; done) | (simp; omega)) _ | refine Below.trans ?_ (Below.mono ‹Below _ _ _› (by first | omega | (simp; done) | (simp; omega)))))

set_option maxHeartbeats 800000 in
theorem spec_out (n : Nat) (hn : n ≤ 36) (b : Int) (hb : inR b 0 147 = false) (w : World) :
    Calls Tryd.prog 18 #[frV n, .int .i64 b] w fun e w' => e = .returned (.tuple #[.string ⟨#[]⟩, .bool false]) ∧ Below w.heap.size w w' := by
  have HO := Lib.hid hb; clear hb
  have H := Lib.hid (frG_of hn)
  go_enter Tryd.func18, Tryd.ntmps18
  go_wp2_with fail
  refine (frGood_any _ _ _ _).mono ?_; rintro e w1 ⟨rfl, b1⟩
  rw [H.out]
  obtain ⟨c1, f1⟩ := bcell b1; have z1 : w.heap.size < w1.heap.size := (by have := b1.size; (try simp at this); omega)
  go_wp2_with fail
  refine (l1In_any _ _ _ _).mono ?_; rintro e w2 ⟨rfl, rfl⟩
  rw [HO.out]
  go_wp2_with fail
  refine bodyPost_ret (v := .tuple #[.string ⟨#[]⟩, .bool false]) (by simp [results, Tryd.results18, go_sem]) rfl ⟨rfl, ?_⟩
  (repeat (first | exact Below.refl _ _ | exact ‹Below _ _ _› | refine Below.drew ?_ | refine Below.alloc ?_ (by first | omega | (simp; done) | (simp; omega)) _ | refine Below.setCell ?_ (by first | omega | (simp; done) | (simp; omega)) _ | refine Below.trans ?_ (Below.mono ‹Below _ _ _› (by first | omega | (simp; done) | (simp; omega)))))

set_option maxHeartbeats 800000 in
theorem impl_bad (r : Int) (c : Bool) (l : Int) (b : Int) (hg : frG r c l = false) (w : World) :
    Calls Tryd.prog 19 #[frW r c l, .int .i64 b] w fun e w' => e = .returned (.tuple #[.string ⟨#[]⟩, .bool false]) ∧ Below w.heap.size w w' := by
  have H := Lib.hid hg; clear hg
  go_enter Tryd.func19, Tryd.ntmps19
  go_wp2_with fail
  refine (isFrame_any _ _ _ _).mono ?_; rintro e w1 ⟨rfl, b1⟩
  rw [H.out]
  obtain ⟨c1, f1⟩ := bcell b1; have z1 : w.heap.size < w1.heap.size := (by have := b1.size; (try simp at this); omega)
  go_wp2_with fail
  refine bodyPost_ret (v := .tuple #[.string ⟨#[]⟩, .bool false]) (by simp [results, Tryd.results19, go_sem]) rfl ⟨rfl, ?_⟩
  (repeat (first | exact Below.refl _ _ | exact ‹Below _ _ _› | refine Below.drew ?_ | refine Below.alloc ?_ (by first | omega | (simp; done) | (simp; omega)) _ | refine Below.setCell ?_ (by first | omega | (simp; done) | (simp; omega)) _ | refine Below.trans ?_ (Below.mono ‹Below _ _ _› (by first | omega | (simp; done) | (simp; omega)))))

set_option maxHeartbeats 800000 in
theorem impl_out (n : Nat) (hn : n ≤ 36) (b : Int) (hb : inR b 0 147 = false) (w : World) :
    Calls Tryd.prog 19 #[frV n, .int .i64 b] w fun e w' => e = .returned (.tuple #[.string ⟨#[]⟩, .bool false]) ∧ Below w.heap.size w w' := by
  have H := Lib.hid (frG_of hn)
  have hb' : b < 0 ∨ (0 ≤ b ∧ 147 < b) := by unfold inR at hb; simp at hb; omega
  clear hb
  rcases hb' with h0 | ⟨h0, h1⟩
  all_goals
    go_enter Tryd.func19, Tryd.ntmps19
    go_wp2_with fail
    refine (isFrame_any _ _ _ _).mono ?_; rintro e w1 ⟨rfl, b1⟩
    rw [H.out]
    go_wp2_with fail
    refine bodyPost_ret (v := .tuple #[.string ⟨#[]⟩, .bool false]) (by simp [results, Tryd.results19, go_sem]) rfl ⟨rfl, ?_⟩
    (repeat (first | exact Below.refl _ _ | exact ‹Below _ _ _› | refine Below.drew ?_ | refine Below.alloc ?_ (by first | omega | (simp; done) | (simp; omega)) _ | refine Below.setCell ?_ (by first | omega | (simp; done) | (simp; omega)) _ | refine Below.trans ?_ (Below.mono ‹Below _ _ _› (by first | omega | (simp; done) | (simp; omega)))))


theorem walk (r : Int) (c : Bool) (l : Int) (b : Int) (w : World) :
    Calls Tryd.prog 5 #[frW r c l, .int .i64 b] w fun e w' => e = .returned (.bool true) ∧ Below w.heap.size w w' := by
  cases hg : frG r c l
  · exact law_of r c l b _ _ (spec_bad r c l b hg) (impl_bad r c l b hg) w
  · obtain ⟨n, hn, rfl, rfl, rfl⟩ := frG_n hg
    cases hb : inR b 0 147
    · exact law_of _ _ _ b _ _ (spec_out n hn b hb) (impl_out n hn b hb) w
    · obtain ⟨k, rfl, hk⟩ : ∃ k : Nat, b = k ∧ k ≤ 147 := by
        unfold inR at hb; simp at hb
        exact ⟨b.toNat, by omega, by omega⟩
      by_cases h0 : 0 < bp n (k : Int)
      · exact law_of _ _ _ _ _ _ (specFwp_yes n hn k hk h0) (implFwp_yes n hn k hk h0) w
      · have h1 : bp n (k : Int) = 0 := by have := bp_nn n (k : Int); omega
        exact law_of _ _ _ _ _ _ (specFwp_no n hn k hk h1) (implFwp_no n hn k hk h1) w
end Go.Proofs.YtaplkciomagmiabDoor.ExFirstWithPoints
