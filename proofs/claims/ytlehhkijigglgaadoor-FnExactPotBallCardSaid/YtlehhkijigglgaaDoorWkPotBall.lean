/- What the exact law of PotBall does, step by step. -/
import Derived.Test.YtlehhkijigglgaaDoorFrAfterL
namespace Go.Proofs.YtlehhkijigglgaaDoor.ExPotBall
open Go.RowKit
set_option linter.unusedVariables false

set_option maxHeartbeats 400000 in
theorem law_long (r : Int) (c : Bool) (l : Int) (s1 : ByteArray) (w : World) (hl : (1048576 : Int) < (s1.size : Int)) :
    Calls Tryd.prog 4 #[frW r c l, .string s1] w fun e w' => e = .returned (.bool true) ∧ Below w.heap.size w w' := by
  go_enter Tryd.func4, Tryd.ntmps4
  go_wp2
  go_ret
  refine ⟨rfl, ?_⟩
  (repeat (first | exact Below.refl _ _ | exact ‹Below _ _ _› | refine Below.drew ?_ | refine Below.alloc ?_ (by first | omega | (simp; done) | (simp; omega)) _ | refine Below.setCell ?_ (by first | omega | (simp; done) | (simp; omega)) _ | refine Below.trans ?_ (Below.mono ‹Below _ _ _› (by first | omega | (simp; done) | (simp; omega)))))

set_option maxHeartbeats 800000 in
theorem law_of (r : Int) (c : Bool) (l : Int) (s1 : ByteArray) (fr : Int) (fc : Bool) (fl : Int) (o1 : Bool) (hs : (∀ w : World, Calls Tryd.prog 22 #[frW r c l, .string s1] w fun e w' => e = .returned (.tuple #[frW fr fc fl, .bool o1]) ∧ Below w.heap.size w w')) (hi : (∀ w : World, Calls Tryd.prog 23 #[frW r c l, .string s1] w fun e w' => e = .returned (.tuple #[frW fr fc fl, .bool o1]) ∧ Below w.heap.size w w')) (w : World) (hl : ¬ (1048576 : Int) < (s1.size : Int)) :
    Calls Tryd.prog 4 #[frW r c l, .string s1] w fun e w' => e = .returned (.bool true) ∧ Below w.heap.size w w' := by
  have HS := Lib.hid hs; clear hs
  have HI := Lib.hid hi; clear hi
  have q1 : (o1 != o1) = false := by simp
  go_enter Tryd.func4, Tryd.ntmps4
  go_wp2_with fail
  refine (toFrame_any r c l _).mono ?_; rintro e w1 ⟨rfl, b1⟩
  obtain ⟨c1, f1⟩ := bcell b1; have z1 : w.heap.size < w1.heap.size := (by have := b1.size; (try simp at this); omega)
  go_wp2_with fail
  refine (HS.out _).mono ?_; rintro e w2 ⟨rfl, b2⟩
  obtain ⟨c2, f2⟩ := bcell b2; have z2 : w.heap.size < w2.heap.size := (by have := b2.size; (try simp at this); omega)
  go_wp2_with fail
  refine (toFrame_any r c l _).mono ?_; rintro e w3 ⟨rfl, b3⟩
  obtain ⟨c3, f3⟩ := bcell b3; have z3 : w.heap.size < w3.heap.size := (by have := b3.size; (try simp at this); omega)
  go_wp2_with fail
  refine (HI.out _).mono ?_; rintro e w4 ⟨rfl, b4⟩
  have tA := (((FrAt.new w2 fr fc fl).keep b3).keep b4)
  obtain ⟨z0, z1, z2, -, -, -⟩ := tA.cells
  have zA := tA.lt
  go_wp2_with fail
  refine (eqFrame_same _ _ _ _).mono ?_; rintro e w5 ⟨rfl, b5⟩
  go_wp2_with fail
  go_ret
  refine ⟨rfl, ?_⟩
  have sz_b1 := b1.size; (try simp at sz_b1); have sz_b2 := b2.size; (try simp at sz_b2); have sz_b3 := b3.size; (try simp at sz_b3); have sz_b4 := b4.size; (try simp at sz_b4); have sz_b5 := b5.size; (try simp at sz_b5)
  (repeat (first | exact Below.refl _ _ | exact ‹Below _ _ _› | refine Below.drew ?_ | refine Below.alloc ?_ (by first | omega | (simp; done) | (simp; omega)) _ | refine Below.setCell ?_ (by first | omega | (simp; done) | (simp; omega)) _ | refine Below.trans ?_ (Below.mono ‹Below _ _ _› (by first | omega | (simp; done) | (simp; omega)))))

set_option maxHeartbeats 800000 in
theorem spec_bad (r : Int) (c : Bool) (l : Int) (hg : frG r c l = false) (s : ByteArray) (w : World) :
    Calls Tryd.prog 22 #[frW r c l, .string s] w fun e w' => e = .returned (afterV none) ∧ Below w.heap.size w w' := by
  have H := Lib.hid hg; clear hg
  go_enter Tryd.func22, Tryd.ntmps22
  go_wp2_with fail
  refine (frGood_any r c l _).mono ?_; rintro e w1 ⟨rfl, b1⟩
  rw [H.out]
  obtain ⟨tA, tB⟩ := two_new b1
  obtain ⟨z0, z1, z2, v0, v1, v2⟩ := tB.cells
  obtain ⟨p0, p1, p2⟩ := tB.put (.int .i64 0) (.bool false) (.int .i64 0)
  clear tA tB
  go_wp2_with fail
  refine bodyPost_ret (v := .tuple #[frW 0 false 0, .bool false]) (by simp [results, Tryd.results22, go_sem, p0, p1, p2]) rfl ⟨rfl, ?_⟩
  (repeat (first | exact Below.refl _ _ | exact ‹Below _ _ _› | refine Below.drew ?_ | refine Below.alloc ?_ (by first | omega | (simp; done) | (simp; omega)) _ | refine Below.setCell ?_ (by first | omega | (simp; done) | (simp; omega)) _ | refine Below.trans ?_ (Below.mono ‹Below _ _ _› (by first | omega | (simp; done) | (simp; omega)))))

set_option maxHeartbeats 800000 in
theorem spec_len (n : Nat) (hn : n ≤ 36) (s : ByteArray) (hs : s.size ≠ 1) (w : World) :
    Calls Tryd.prog 22 #[frV n, .string s] w fun e w' => e = .returned (afterV none) ∧ Below w.heap.size w w' := by
  have H := Lib.hid (frG_of hn)
  have h1 : ((s.size : Int) != 1) = true := by simp; omega
  clear hs
  go_enter Tryd.func22, Tryd.ntmps22
  go_wp2_with fail
  refine (frGood_any _ _ _ _).mono ?_; rintro e w1 ⟨rfl, b1⟩
  rw [H.out]
  obtain ⟨tA, tB⟩ := two_new b1
  obtain ⟨z0, z1, z2, v0, v1, v2⟩ := tB.cells
  obtain ⟨p0, p1, p2⟩ := tB.put (.int .i64 0) (.bool false) (.int .i64 0)
  clear tA tB
  go_wp2_with fail
  refine bodyPost_ret (v := .tuple #[frW 0 false 0, .bool false]) (by simp [results, Tryd.results22, go_sem, p0, p1, p2]) rfl ⟨rfl, ?_⟩
  (repeat (first | exact Below.refl _ _ | exact ‹Below _ _ _› | refine Below.drew ?_ | refine Below.alloc ?_ (by first | omega | (simp; done) | (simp; omega)) _ | refine Below.setCell ?_ (by first | omega | (simp; done) | (simp; omega)) _ | refine Below.trans ?_ (Below.mono ‹Below _ _ _› (by first | omega | (simp; done) | (simp; omega)))))

theorem index0 (s : ByteArray) (h : 0 < s.size) (w : World) : (Instr.index 9 (.string s) (.int .i64 0)).run Tryd.prog w = .ok (.int .u8 ((s[0]'h).toNat : Int)) w := by
  rw [run_index_string w _ _ _ _ Tryd.underlying9]
  simp [h]
theorem one_list (s : ByteArray) (h : s.size = 1) : s.data.toList = [s[0]] := by
  have h2 := drop_cons s 0 (by omega)
  rw [List.drop_zero, List.drop_eq_nil_of_le (by simp; omega)] at h2
  exact h2

set_option maxHeartbeats 3200000 in
set_option maxRecDepth 100000 in
theorem spec_yes (m : Nat) (hn : m + 1 ≤ 36) (s : ByteArray) (hs : s.size = 1) (hc : s[0] ∈ nextL (m + 1)) (w : World) :
    Calls Tryd.prog 22 #[frV (m + 1), .string s] w fun e w' => e = .returned (.tuple #[frV m, .bool true]) ∧ Below w.heap.size w w' := by
  have H := Lib.hid (frG_of hn)
  have h1 : ((s.size : Int) != 1) = false := by simp; omega
  have hix := index0 s (by omega)
  have hcall := Lib.hid (frPot_yes m (by omega) _ hc)
  clear hc
  generalize s[0] = c at *
  clear hs
  go_enter Tryd.func22, Tryd.ntmps22
  go_wp2_with fail
  refine (frGood_any _ _ _ _).mono ?_; rintro e w1 ⟨rfl, b1⟩
  rw [H.out]
  obtain ⟨tA, tB⟩ := two_new b1
  have hbel : Below w.heap.size w w1 := by (repeat (first | exact Below.refl _ _ | exact ‹Below _ _ _› | refine Below.drew ?_ | refine Below.alloc ?_ (by first | omega | (simp; done) | (simp; omega)) _ | refine Below.setCell ?_ (by first | omega | (simp; done) | (simp; omega)) _ | refine Below.trans ?_ (Below.mono ‹Below _ _ _› (by first | omega | (simp; done) | (simp; omega)))))
  obtain ⟨y0, y1, y2, x0, x1, x2⟩ := tA.cells
  have zA := tA.lt
  have zB := tB.lt
  have HH := Lib.hid (And.intro hbel (And.intro tA tB)); clear hbel tA tB b1
  go_wp2_with fail
  go_region_with (go_at_call 64; refine (hcall.out _).mono ?_; rintro e w2 ⟨rfl, b2⟩; obtain ⟨c2, f2⟩ := bcell b2; have z2 := b2.size; (try simp at z2))
  all_goals clear c2 f2 y0 y1 y2 x0 x1 x2
  all_goals first
    | (have hP := step1 (p := m) HH.out.2.1 HH.out.2.2 HH.out.1 (b2 : Below (w1.alloc zeroC).drew.heap.size (w1.alloc zeroC).drew w2)
       unfold put3 at hP
       generalize (((w2.setCell ⟨w1.heap.size, 0, none⟩ (.int .i64 (frR m))).setCell ⟨w1.heap.size, 1, none⟩ (.bool (frC m))).setCell ⟨w1.heap.size, 2, none⟩ (.int .i64 (frL m))) = X at hP ⊢
       generalize w1.heap.size = bb at hP ⊢)
    | (have hP := step2 (p := m) HH.out.2.1 HH.out.2.2 HH.out.1 (b2 : Below w1.drew.heap.size w1.drew w2)
       generalize w2.alloc (.cells #[.int .i64 (frR m), .bool (frC m), .int .i64 (frL m)] 26) = X at hP ⊢
       generalize w2.heap.size = bb at hP ⊢)
  all_goals
    obtain ⟨tN, tA, tB, hB⟩ := hP
    clear b2 z2
    obtain ⟨d0, d1, d2, -, -, -⟩ := tN.cells
    obtain ⟨g0, g1, g2, g3, g4, g5⟩ := tB.cells
    obtain ⟨p0, p1, p2⟩ := tB.put (.int .i64 (frR m)) (.bool (frC m)) (.int .i64 (frL m))
    have H5 := Lib.hid hB; clear tA tB hB tN
    go_wp2
    refine bodyPost_ret (v := .tuple #[frV m, .bool true]) (by simp [results, Tryd.results22, go_sem, p0, p1, p2]) rfl ⟨rfl, ?_⟩
    have hbel := H5.out
    (repeat (first | exact Below.refl _ _ | exact ‹Below _ _ _› | refine Below.drew ?_ | refine Below.alloc ?_ (by first | omega | (simp; done) | (simp; omega)) _ | refine Below.setCell ?_ (by first | omega | (simp; done) | (simp; omega)) _ | refine Below.trans ?_ (Below.mono ‹Below _ _ _› (by first | omega | (simp; done) | (simp; omega)))))

set_option maxHeartbeats 3200000 in
set_option maxRecDepth 100000 in
theorem spec_no (m : Nat) (hn : m ≤ 36) (s : ByteArray) (hs : s.size = 1) (hc : s[0] ∉ nextL m) (w : World) :
    Calls Tryd.prog 22 #[frV m, .string s] w fun e w' => e = .returned (afterV none) ∧ Below w.heap.size w w' := by
  have H := Lib.hid (frG_of hn)
  have h1 : ((s.size : Int) != 1) = false := by simp; omega
  have hix := index0 s (by omega)
  have hcall := Lib.hid (frPot_no m _ hc)
  clear hc
  generalize s[0] = c at *
  clear hs
  go_enter Tryd.func22, Tryd.ntmps22
  go_wp2_with fail
  refine (frGood_any _ _ _ _).mono ?_; rintro e w1 ⟨rfl, b1⟩
  rw [H.out]
  obtain ⟨tA, tB⟩ := two_new b1
  have hbel : Below w.heap.size w w1 := by (repeat (first | exact Below.refl _ _ | exact ‹Below _ _ _› | refine Below.drew ?_ | refine Below.alloc ?_ (by first | omega | (simp; done) | (simp; omega)) _ | refine Below.setCell ?_ (by first | omega | (simp; done) | (simp; omega)) _ | refine Below.trans ?_ (Below.mono ‹Below _ _ _› (by first | omega | (simp; done) | (simp; omega)))))
  obtain ⟨y0, y1, y2, x0, x1, x2⟩ := tA.cells
  have zA := tA.lt
  have zB := tB.lt
  have HH := Lib.hid (And.intro hbel (And.intro tA tB)); clear hbel tA tB b1
  go_wp2_with fail
  go_region_with (go_at_call 64; refine (hcall.out _).mono ?_; rintro e w2 ⟨rfl, b2⟩; obtain ⟨c2, f2⟩ := bcell b2; have z2 := b2.size; (try simp at z2))
  all_goals clear c2 f2 y0 y1 y2 x0 x1 x2
  all_goals first
    | (have hP := step1 (p := m) HH.out.2.1 HH.out.2.2 HH.out.1 (b2 : Below (w1.alloc zeroC).drew.heap.size (w1.alloc zeroC).drew w2)
       unfold put3 at hP
       generalize (((w2.setCell ⟨w1.heap.size, 0, none⟩ (.int .i64 (frR m))).setCell ⟨w1.heap.size, 1, none⟩ (.bool (frC m))).setCell ⟨w1.heap.size, 2, none⟩ (.int .i64 (frL m))) = X at hP ⊢
       generalize w1.heap.size = bb at hP ⊢)
    | (have hP := step2 (p := m) HH.out.2.1 HH.out.2.2 HH.out.1 (b2 : Below w1.drew.heap.size w1.drew w2)
       generalize w2.alloc (.cells #[.int .i64 (frR m), .bool (frC m), .int .i64 (frL m)] 26) = X at hP ⊢
       generalize w2.heap.size = bb at hP ⊢)
  all_goals
    obtain ⟨tN, tA, tB, hB⟩ := hP
    clear b2 z2
    obtain ⟨g0, g1, g2, g3, g4, g5⟩ := tB.cells
    obtain ⟨p0, p1, p2⟩ := tB.put (.int .i64 0) (.bool false) (.int .i64 0)
    have H5 := Lib.hid hB; clear tA tB hB tN
    go_wp2
    refine bodyPost_ret (v := .tuple #[frW 0 false 0, .bool false]) (by simp [results, Tryd.results22, go_sem, p0, p1, p2]) rfl ⟨rfl, ?_⟩
    have hbel := H5.out
    (repeat (first | exact Below.refl _ _ | exact ‹Below _ _ _› | refine Below.drew ?_ | refine Below.alloc ?_ (by first | omega | (simp; done) | (simp; omega)) _ | refine Below.setCell ?_ (by first | omega | (simp; done) | (simp; omega)) _ | refine Below.trans ?_ (Below.mono ‹Below _ _ _› (by first | omega | (simp; done) | (simp; omega)))))

set_option maxHeartbeats 800000 in
theorem impl_len (r : Int) (c : Bool) (l : Int) (s : ByteArray) (hs : s.size ≠ 1) (w : World) :
    Calls Tryd.prog 23 #[frW r c l, .string s] w fun e w' => e = .returned (afterV none) ∧ Below w.heap.size w w' := by
  have h1 : ((s.size : Int) != 1) = true := by simp; omega
  clear hs
  go_enter Tryd.func23, Tryd.ntmps23
  go_wp2_with fail
  refine bodyPost_ret (v := .tuple #[frW 0 false 0, .bool false]) (by simp [results, Tryd.results23, go_sem]) rfl ⟨rfl, ?_⟩
  (repeat (first | exact Below.refl _ _ | exact ‹Below _ _ _› | refine Below.drew ?_ | refine Below.alloc ?_ (by first | omega | (simp; done) | (simp; omega)) _ | refine Below.setCell ?_ (by first | omega | (simp; done) | (simp; omega)) _ | refine Below.trans ?_ (Below.mono ‹Below _ _ _› (by first | omega | (simp; done) | (simp; omega)))))

set_option maxHeartbeats 800000 in
theorem impl_one (r : Int) (c : Bool) (l : Int) (s : ByteArray) (hs : s.size = 1) (fr : Int) (fc : Bool) (fl : Int) (ok : Bool)
    (hc : ∀ w : World, Calls Tryd.prog 28 #[frW r c l, .string s] w fun e w' => e = .returned (.tuple #[frW fr fc fl, .bool ok]) ∧ Below w.heap.size w w') (w : World) :
    Calls Tryd.prog 23 #[frW r c l, .string s] w fun e w' => e = .returned (.tuple #[frW fr fc fl, .bool ok]) ∧ Below w.heap.size w w' := by
  have h1 : ((s.size : Int) != 1) = false := by simp; omega
  have HC := Lib.hid hc; clear hs hc
  go_enter Tryd.func23, Tryd.ntmps23
  go_wp2_with fail
  refine (HC.out _).mono ?_; rintro e w1 ⟨rfl, b1⟩
  obtain ⟨tA, tB⟩ := two_new b1
  obtain ⟨z0, z1, z2, v0, v1, v2⟩ := tB.cells
  obtain ⟨p0, p1, p2⟩ := tB.put (.int .i64 fr) (.bool fc) (.int .i64 fl)
  clear tA tB
  go_wp2_with fail
  refine bodyPost_ret (v := .tuple #[frW fr fc fl, .bool ok]) (by simp [results, Tryd.results23, go_sem, p0, p1, p2]) rfl ⟨rfl, ?_⟩
  (repeat (first | exact Below.refl _ _ | exact ‹Below _ _ _› | refine Below.drew ?_ | refine Below.alloc ?_ (by first | omega | (simp; done) | (simp; omega)) _ | refine Below.setCell ?_ (by first | omega | (simp; done) | (simp; omega)) _ | refine Below.trans ?_ (Below.mono ‹Below _ _ _› (by first | omega | (simp; done) | (simp; omega)))))

theorem walk (r : Int) (c : Bool) (l : Int) (s : ByteArray) (w : World) :
    Calls Tryd.prog 4 #[frW r c l, .string s] w fun e w' => e = .returned (.bool true) ∧ Below w.heap.size w w' := by
  by_cases hl : (1048576 : Int) < (s.size : Int)
  · exact law_long r c l s w hl
  · by_cases hs : s.size = 1
    · cases hg : frG r c l
      · exact law_of r c l s 0 false 0 false (spec_bad r c l hg s) (impl_one r c l s hs 0 false 0 false (frameAfter_bad r c l hg s)) w hl
      · obtain ⟨n, hn, rfl, rfl, rfl⟩ := frG_n hg
        have h2 := frameAfter_n n hn s
        rw [one_list s hs] at h2
        by_cases hm : s[0] ∈ nextL n
        · obtain ⟨m, rfl⟩ : ∃ m, n = m + 1 := by
            cases n with
            | zero => cases hm
            | succ m => exact ⟨m, rfl⟩
          have ha : after (m + 1) [s[0]] = some m := by simp [after, hm]
          rw [ha] at h2
          exact law_of _ _ _ s (frR m) (frC m) (frL m) true (spec_yes m hn s hs hm) (impl_one _ _ _ s hs _ _ _ _ h2) w hl
        · have ha : after n [s[0]] = none := by
            cases n with
            | zero => rfl
            | succ m => simp [after, hm]
          rw [ha] at h2
          exact law_of _ _ _ s 0 false 0 false (spec_no n hn s hs hm) (impl_one _ _ _ s hs _ _ _ _ h2) w hl
    · cases hg : frG r c l
      · exact law_of r c l s 0 false 0 false (spec_bad r c l hg s) (impl_len r c l s hs) w hl
      · obtain ⟨n, hn, rfl, rfl, rfl⟩ := frG_n hg
        exact law_of _ _ _ s 0 false 0 false (spec_len n hn s hs) (impl_len _ _ _ s hs) w hl
end Go.Proofs.YtlehhkijigglgaaDoor.ExPotBall
