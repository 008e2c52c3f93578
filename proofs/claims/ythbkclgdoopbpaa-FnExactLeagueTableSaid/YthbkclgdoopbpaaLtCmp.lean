/-
  Leagues: two standings compared.
-/
import Derived.Test.YthbkclgdoopbpaaLgStand
import Derived.Test.YthbkclgdoopbpaaLtMath
namespace Go.Proofs.Ythbkclgdoopbpaa
open Go.RowKit
set_option linter.unusedVariables false
set_option linter.unusedSimpArgs false

theorem isNaN_any (x : Int) (w : World) : Calls Try.prog 96 #[.int .i64 x] w fun e w' => e = .returned (.bool false) ∧ w = w' := by
  have h : (x != x) = false := by simp
  go_enter Try.func96, Try.ntmps96
  go_wp2
  go_ret
  exact ⟨rfl, rfl⟩

set_option maxHeartbeats 800000 in
theorem compare_any (a b : Int) (w : World) : Calls Try.prog 92 #[.int .i64 a, .int .i64 b] w fun e w' => e = .returned (.int .i64 (cmpI a b)) ∧ w = w' := by
  by_cases h1 : a < b
  · rw [show cmpI a b = -1 from by simp [cmpI, h1]]
    go_enter Try.func92, Try.ntmps92
    go_wp2_with fail
    refine (isNaN_any _ _).mono ?_; rintro e w' ⟨rfl, rfl⟩
    go_wp2_with fail
    refine (isNaN_any _ _).mono ?_; rintro e w' ⟨rfl, rfl⟩
    go_wp2_with fail
    go_ret
    exact ⟨rfl, rfl⟩
  · by_cases h2 : b < a
    · rw [show cmpI a b = 1 from by simp [cmpI, h1, h2]]
      go_enter Try.func92, Try.ntmps92
      go_wp2_with fail
      refine (isNaN_any _ _).mono ?_; rintro e w' ⟨rfl, rfl⟩
      go_wp2_with fail
      refine (isNaN_any _ _).mono ?_; rintro e w' ⟨rfl, rfl⟩
      go_wp2_with fail
      go_ret
      exact ⟨rfl, rfl⟩
    · rw [show cmpI a b = 0 from by simp [cmpI, h1, h2]]
      go_enter Try.func92, Try.ntmps92
      go_wp2_with fail
      refine (isNaN_any _ _).mono ?_; rintro e w' ⟨rfl, rfl⟩
      go_wp2_with fail
      refine (isNaN_any _ _).mono ?_; rintro e w' ⟨rfl, rfl⟩
      go_wp2_with fail
      go_ret
      exact ⟨rfl, rfl⟩

theorem orV_drop {l : List Int} {k : Nat} (hk : k < l.length) : orV (l.drop k) = if l.getD k 0 = 0 then orV (l.drop (k + 1)) else l.getD k 0 := by
  rw [List.drop_eq_getElem_cons hk, orV]; simp [hk]
set_option maxHeartbeats 800000 in
theorem or_any (l : List Int) (g : Nat) (hl : l.length ≤ 10) (w : World) (hr : Reads w (some ⟨g, 0, none⟩) (ints l)) (hlt : g < w.heap.size) :
    Calls Try.prog 91 #[.slice (some ⟨g, 0, none⟩) l.length l.length] w fun e w' => e = .returned (.int .i64 (orV l)) ∧ w = w' := by
  have HC : Hid (∀ k, k < l.length → w.cell? ⟨g, k, none⟩ = some (.int .i64 (l.getD k 0))) := Lib.hid fun k hk => by
    rcases hr with h | ⟨b, off, e, -, hc⟩
    · rw [show l = [] from by cases l with | nil => rfl | cons a r => simp [ints] at h] at hk; simp at hk
    · cases e
      have := hc k (by rw [ints_len]; exact hk)
      rw [Nat.zero_add, ints_get _ _ hk] at this
      exact this
  clear hr
  have HST := Lib.hid (fun k (hk : k < l.length) => orV_drop hk)
  go_enter Try.func91, Try.ntmps91
  go_wp2_with fail
  go_loopw [8] (fun i wr => ∃ k : Nat, i = .int .i64 k ∧ k ≤ l.length ∧ wr = w ∧ Hid (orV (l.drop k) = orV l)) (fun i _ => l.length - (intOf i).toNat)
  case atStart => exact ⟨0, rfl, Nat.zero_le _, rfl, Lib.hid rfl⟩
  case round =>
    obtain ⟨k, rfl, hk, rfl, hH⟩ := hrel
    by_cases hlk : k < l.length
    · have b1 : (k : Int) < (l.length : Int) := by omega
      have c1 := HC.out k hlk
      have s1 := HST.out k hlk
      generalize l.getD k 0 = x at *
      by_cases q : x = 0
      · have e0 : (x != 0) = false := by simp [q]
        have HH : Hid (orV (l.drop (k + 1)) = orV l) := Lib.hid (by rw [← hH.out, s1, if_pos q])
        clear s1 hH q
        go_wp2_with fail
        go_roundw
        case rel => exact ⟨k + 1, by go_num, by omega, by first | rfl | trivial, HH⟩
        case measure => simp [intOf]; omega
      · have e0 : (x != 0) = true := by simp [q]
        have HH : Hid (x = orV l) := Lib.hid (by rw [← hH.out, s1, if_neg q])
        clear s1 hH q
        go_wp2_with fail
        go_ret
        refine ⟨?_, rfl⟩
        rw [HH.out]; rfl
    · obtain rfl : k = l.length := by omega
      have HH : Hid (0 = orV l) := Lib.hid (by rw [← hH.out, List.drop_length]; rfl)
      go_wp2_with fail
      go_ret
      refine ⟨?_, rfl⟩
      rw [← HH.out]; rfl

/-- A standing as a value. -/
def stV (o : Ord3) (x : Int) : Value := .agg #[.int .i64 x, .int .i64 (o.p x), .int .i64 (o.f x), .int .i64 (o.a x)]
/-- No number of a standing is great. -/
def Ord3.small (o : Ord3) (x : Int) : Prop := (0 ≤ o.f x ∧ o.f x ≤ 100000) ∧ (0 ≤ o.a x ∧ o.a x ≤ 100000)
def TwoS (w : World) (t1 p1 f1 a1 t2 p2 f2 a2 : Int) (W : World) : Prop :=
  ObAt W w.heap.size 81 #[.int .i64 t1, .int .i64 p1, .int .i64 f1, .int .i64 a1] ∧ ObAt W (w.heap.size + 1) 81 #[.int .i64 t2, .int .i64 p2, .int .i64 f2, .int .i64 a2] ∧ Below w.heap.size w W
theorem TwoS.new (w : World) (t1 p1 f1 a1 t2 p2 f2 a2 : Int) : TwoS w t1 p1 f1 a1 t2 p2 f2 a2 ((w.alloc (.cells #[.int .i64 t1, .int .i64 p1, .int .i64 f1, .int .i64 a1] 81)).alloc (.cells #[.int .i64 t2, .int .i64 p2, .int .i64 f2, .int .i64 a2] 81)) :=
  ⟨(ObAt.new w _ _).old _, by
    have := ObAt.new (w.alloc (.cells #[.int .i64 t1, .int .i64 p1, .int .i64 f1, .int .i64 a1] 81)) 81 #[.int .i64 t2, .int .i64 p2, .int .i64 f2, .int .i64 a2]
    simpa using this, by (repeat (first | exact Below.refl _ _ | exact ‹Below _ _ _› | refine Below.drew ?_ | refine Below.alloc ?_ (by first | omega | (simp; done) | (simp; omega)) _ | refine Below.setCell ?_ (by first | omega | (simp; done) | (simp; omega)) _ | refine Below.trans ?_ (Below.mono ‹Below _ _ _› (by first | omega | (simp; done) | (simp; omega)))))⟩
set_option maxHeartbeats 3200000 in
theorem compareTo_any (o : Ord3) (x y : Int) (hx : o.small x) (hy : o.small y) (w : World) :
    Calls Try.prog 78 #[stV o x, stV o y] w fun e w' => e = .returned (.int .i64 (o.cmp x y)) ∧ Below w.heap.size w w' := by
  have hcm : o.cmp x y = orV [cmpI (o.p y) (o.p x), cmpI (o.d y) (o.d x), cmpI (o.f y) (o.f x), cmpI x y] := rfl
  have e1 : o.d y = o.f y - o.a y := rfl
  have e2 : o.d x = o.f x - o.a x := rfl
  obtain ⟨⟨x1, x2⟩, x3, x4⟩ := hx
  obtain ⟨⟨y1, y2⟩, y3, y4⟩ := hy
  rw [hcm, e1, e2]; clear hcm e1 e2
  unfold stV
  generalize o.p x = p1 at *
  generalize o.f x = f1 at *
  generalize o.a x = a1 at *
  generalize o.p y = p2 at *
  generalize o.f y = f2 at *
  generalize o.a y = a2 at *
  have w1 : IntKind.i64.wrap (f1 - a1) = f1 - a1 := by rw [IntKind.wrap_i64]; omega
  have w2 : IntKind.i64.wrap (f2 - a2) = f2 - a2 := by rw [IntKind.wrap_i64]; omega
  clear x1 x2 x3 x4 y1 y2 y3 y4
  have T0 := Lib.hid (TwoS.new w x p1 f1 a1 y p2 f2 a2)
  have HC := Lib.hid (fun a b W => compare_any a b W)
  have HO : Hid (∀ (z1 z2 z3 z4 : Int) (W : World), Calls Try.prog 91 #[.slice (some ⟨W.heap.size, 0, none⟩) 4 4] (W.alloc (.cells #[.int .i64 z1, .int .i64 z2, .int .i64 z3, .int .i64 z4] 3)) fun e w' => e = .returned (.int .i64 (orV [z1, z2, z3, z4])) ∧ W.alloc (.cells #[.int .i64 z1, .int .i64 z2, .int .i64 z3, .int .i64 z4] 3) = w') := Lib.hid fun z1 z2 z3 z4 W => by
    refine or_any [z1, z2, z3, z4] W.heap.size (by simp) _ (.inr ⟨W.heap.size, 0, rfl, by simp, fun j hj => ?_⟩) (by simp)
    rw [Nat.zero_add, (ObAt.new W 3 #[.int .i64 z1, .int .i64 z2, .int .i64 z3, .int .i64 z4]).cell j]
    simp [ints]
  go_enter Try.func78, Try.ntmps78
  go_wp2_with fail
  have hpre := T0.out.1.four
  have hpre2 := T0.out.2.1.four
  refine wp_region_held_drew (S := fun W => (W.cell? ⟨w.heap.size, 0, none⟩ = some (.int .i64 x) ∧ W.cell? ⟨w.heap.size, 1, none⟩ = some (.int .i64 p1) ∧ W.cell? ⟨w.heap.size, 2, none⟩ = some (.int .i64 f1) ∧ W.cell? ⟨w.heap.size, 3, none⟩ = some (.int .i64 a1)) ∧ W.cell? ⟨w.heap.size + 1, 0, none⟩ = some (.int .i64 y) ∧ W.cell? ⟨w.heap.size + 1, 1, none⟩ = some (.int .i64 p2) ∧ W.cell? ⟨w.heap.size + 1, 2, none⟩ = some (.int .i64 f2) ∧ W.cell? ⟨w.heap.size + 1, 3, none⟩ = some (.int .i64 a2)) (by kernel_rfl) ⟨⟨hpre.1, hpre.2.1, hpre.2.2.1, hpre.2.2.2.1⟩, hpre2.1, hpre2.2.1, hpre2.2.2.1, hpre2.2.2.2.1⟩ (fun hHeld => ?_)
  clear hpre hpre2
  (refine wpAnyH_take (i := 0) (v := ?_) rfl (by kernel_rfl) (by kernel_rfl) (by kernel_rfl) (fun _ _ _ h => h) (Or.inl ⟨by kernel_rfl, ?_⟩) (by assumption) ?_; rotate_left; focus (intro w hSw; (try dsimp only at hSw); go_simp; try with_reducible rfl); (try simp only [List.getElem_toArray, List.getElem_cons_succ, List.getElem_cons_zero, Act.put, List.setIfInBounds_toArray, List.set_cons_zero, List.set_cons_succ])); (refine wpAnyH_take (i := 1) (v := ?_) rfl (by kernel_rfl) (by kernel_rfl) (by kernel_rfl) (fun _ _ _ h => h) (Or.inl ⟨by kernel_rfl, ?_⟩) (by assumption) ?_; rotate_left; focus (intro w hSw; (try dsimp only at hSw); go_simp; try with_reducible rfl); (try simp only [List.getElem_toArray, List.getElem_cons_succ, List.getElem_cons_zero, Act.put, List.setIfInBounds_toArray, List.set_cons_zero, List.set_cons_succ])); (refine wpAnyH_take (i := 2) (v := ?_) rfl (by kernel_rfl) (by kernel_rfl) (by kernel_rfl) (fun _ _ _ h => h) (Or.inl ⟨by kernel_rfl, ?_⟩) (by assumption) ?_; rotate_left; focus (intro w hSw; (try dsimp only at hSw); go_simp; try with_reducible rfl); (try simp only [List.getElem_toArray, List.getElem_cons_succ, List.getElem_cons_zero, Act.put, List.setIfInBounds_toArray, List.set_cons_zero, List.set_cons_succ])); (refine wpAnyH_take (i := 3) (v := ?_) rfl (by kernel_rfl) (by kernel_rfl) (by kernel_rfl) (fun _ _ _ h => h) (Or.inl ⟨by kernel_rfl, ?_⟩) (by assumption) ?_; rotate_left; focus (intro w hSw; (try dsimp only at hSw); go_simp; try with_reducible rfl); (try simp only [List.getElem_toArray, List.getElem_cons_succ, List.getElem_cons_zero, Act.put, List.setIfInBounds_toArray, List.set_cons_zero, List.set_cons_succ])); (refine wpAnyH_take (i := 5) (v := ?_) rfl (by kernel_rfl) (by kernel_rfl) (by kernel_rfl) (fun _ _ _ h => h) (Or.inl ⟨by kernel_rfl, ?_⟩) (by assumption) ?_; rotate_left; focus (intro w hSw; (try dsimp only at hSw); go_simp; try with_reducible rfl); (try simp only [List.getElem_toArray, List.getElem_cons_succ, List.getElem_cons_zero, Act.put, List.setIfInBounds_toArray, List.set_cons_zero, List.set_cons_succ])); (refine wpAnyH_take (i := 6) (v := ?_) rfl (by kernel_rfl) (by kernel_rfl) (by kernel_rfl) (fun _ _ _ h => h) (Or.inl ⟨by kernel_rfl, ?_⟩) (by assumption) ?_; rotate_left; focus (intro w hSw; (try dsimp only at hSw); go_simp; try with_reducible rfl); (try simp only [List.getElem_toArray, List.getElem_cons_succ, List.getElem_cons_zero, Act.put, List.setIfInBounds_toArray, List.set_cons_zero, List.set_cons_succ])); (refine wpAnyH_take (i := 7) (v := ?_) rfl (by kernel_rfl) (by kernel_rfl) (by kernel_rfl) (fun _ _ _ h => h) (Or.inl ⟨by kernel_rfl, ?_⟩) (by assumption) ?_; rotate_left; focus (intro w hSw; (try dsimp only at hSw); go_simp; try with_reducible rfl); (try simp only [List.getElem_toArray, List.getElem_cons_succ, List.getElem_cons_zero, Act.put, List.setIfInBounds_toArray, List.set_cons_zero, List.set_cons_succ])); (refine wpAnyH_take (i := 8) (v := ?_) rfl (by kernel_rfl) (by kernel_rfl) (by kernel_rfl) (fun _ _ _ h => h) (Or.inl ⟨by kernel_rfl, ?_⟩) (by assumption) ?_; rotate_left; focus (intro w hSw; (try dsimp only at hSw); go_simp; try with_reducible rfl); (try simp only [List.getElem_toArray, List.getElem_cons_succ, List.getElem_cons_zero, Act.put, List.setIfInBounds_toArray, List.set_cons_zero, List.set_cons_succ])); (refine wpAnyH_take (i := 9) (v := ?_) rfl (by kernel_rfl) (by kernel_rfl) (by kernel_rfl) (fun _ _ _ h => h) (Or.inl ⟨by kernel_rfl, ?_⟩) (by assumption) ?_; rotate_left; focus (intro w hSw; (try dsimp only at hSw); go_simp; try with_reducible rfl); (try simp only [List.getElem_toArray, List.getElem_cons_succ, List.getElem_cons_zero, Act.put, List.setIfInBounds_toArray, List.set_cons_zero, List.set_cons_succ])); (refine wpAnyH_take (i := 10) (v := ?_) rfl (by kernel_rfl) (by kernel_rfl) (by kernel_rfl) (fun _ _ _ h => h) (Or.inl ⟨by kernel_rfl, ?_⟩) (by assumption) ?_; rotate_left; focus (intro w hSw; (try dsimp only at hSw); go_simp; try with_reducible rfl); (try simp only [List.getElem_toArray, List.getElem_cons_succ, List.getElem_cons_zero, Act.put, List.setIfInBounds_toArray, List.set_cons_zero, List.set_cons_succ])); (refine wpAnyH_take (i := 11) (v := ?_) rfl (by kernel_rfl) (by kernel_rfl) (by kernel_rfl) (fun _ _ _ h => h) (Or.inl ⟨by kernel_rfl, ?_⟩) (by assumption) ?_; rotate_left; focus (intro w hSw; (try dsimp only at hSw); go_simp; try with_reducible rfl); (try simp only [List.getElem_toArray, List.getElem_cons_succ, List.getElem_cons_zero, Act.put, List.setIfInBounds_toArray, List.set_cons_zero, List.set_cons_succ])); (refine wpAnyH_take (i := 12) (v := ?_) rfl (by kernel_rfl) (by kernel_rfl) (by kernel_rfl) (fun _ _ _ h => h) (Or.inl ⟨by kernel_rfl, ?_⟩) (by assumption) ?_; rotate_left; focus (intro w hSw; (try dsimp only at hSw); go_simp; try with_reducible rfl); (try simp only [List.getElem_toArray, List.getElem_cons_succ, List.getElem_cons_zero, Act.put, List.setIfInBounds_toArray, List.set_cons_zero, List.set_cons_succ])); (refine wpAnyH_take (i := 13) (v := ?_) rfl (by kernel_rfl) (by kernel_rfl) (by kernel_rfl) (fun _ _ _ h => h) (Or.inl ⟨by kernel_rfl, ?_⟩) (by assumption) ?_; rotate_left; focus (intro w hSw; (try dsimp only at hSw); go_simp; try with_reducible rfl); (try simp only [List.getElem_toArray, List.getElem_cons_succ, List.getElem_cons_zero, Act.put, List.setIfInBounds_toArray, List.set_cons_zero, List.set_cons_succ])); (refine wpAnyH_take (i := 14) (v := ?_) rfl (by kernel_rfl) (by kernel_rfl) (by kernel_rfl) (fun _ _ _ h => h) (Or.inl ⟨by kernel_rfl, ?_⟩) (by assumption) ?_; rotate_left; focus (intro w hSw; (try dsimp only at hSw); go_simp; try with_reducible rfl); (try simp only [List.getElem_toArray, List.getElem_cons_succ, List.getElem_cons_zero, Act.put, List.setIfInBounds_toArray, List.set_cons_zero, List.set_cons_succ])); (refine wpAnyH_take (i := 16) (v := ?_) rfl (by kernel_rfl) (by kernel_rfl) (by kernel_rfl) (fun _ _ _ h => h) (Or.inl ⟨by kernel_rfl, ?_⟩) (by assumption) ?_; rotate_left; focus (intro w hSw; (try dsimp only at hSw); go_simp; try with_reducible rfl); (try simp only [List.getElem_toArray, List.getElem_cons_succ, List.getElem_cons_zero, Act.put, List.setIfInBounds_toArray, List.set_cons_zero, List.set_cons_succ])); (refine wpAnyH_take (i := 17) (v := ?_) rfl (by kernel_rfl) (by kernel_rfl) (by kernel_rfl) (fun _ _ _ h => h) (Or.inl ⟨by kernel_rfl, ?_⟩) (by assumption) ?_; rotate_left; focus (intro w hSw; (try dsimp only at hSw); go_simp; try with_reducible rfl); (try simp only [List.getElem_toArray, List.getElem_cons_succ, List.getElem_cons_zero, Act.put, List.setIfInBounds_toArray, List.set_cons_zero, List.set_cons_succ])); (refine wpAnyH_take (i := 18) (v := ?_) rfl (by kernel_rfl) (by kernel_rfl) (by kernel_rfl) (fun _ _ _ h => h) (Or.inl ⟨by kernel_rfl, ?_⟩) (by assumption) ?_; rotate_left; focus (intro w hSw; (try dsimp only at hSw); go_simp; try with_reducible rfl); (try simp only [List.getElem_toArray, List.getElem_cons_succ, List.getElem_cons_zero, Act.put, List.setIfInBounds_toArray, List.set_cons_zero, List.set_cons_succ])); (refine wpAnyH_take (i := 19) (v := ?_) rfl (by kernel_rfl) (by kernel_rfl) (by kernel_rfl) (fun _ _ _ h => h) (Or.inl ⟨by kernel_rfl, ?_⟩) (by assumption) ?_; rotate_left; focus (intro w hSw; (try dsimp only at hSw); go_simp; try with_reducible rfl); (try simp only [List.getElem_toArray, List.getElem_cons_succ, List.getElem_cons_zero, Act.put, List.setIfInBounds_toArray, List.set_cons_zero, List.set_cons_succ])); (refine wpAnyH_take (i := 21) (v := ?_) rfl (by kernel_rfl) (by kernel_rfl) (by kernel_rfl) (fun _ _ _ h => h) (Or.inl ⟨by kernel_rfl, ?_⟩) (by assumption) ?_; rotate_left; focus (intro w hSw; (try dsimp only at hSw); go_simp; try with_reducible rfl); (try simp only [List.getElem_toArray, List.getElem_cons_succ, List.getElem_cons_zero, Act.put, List.setIfInBounds_toArray, List.set_cons_zero, List.set_cons_succ])); (refine wpAnyH_take (i := 22) (v := ?_) rfl (by kernel_rfl) (by kernel_rfl) (by kernel_rfl) (fun _ _ _ h => h) (Or.inl ⟨by kernel_rfl, ?_⟩) (by assumption) ?_; rotate_left; focus (intro w hSw; (try dsimp only at hSw); go_simp; try with_reducible rfl); (try simp only [List.getElem_toArray, List.getElem_cons_succ, List.getElem_cons_zero, Act.put, List.setIfInBounds_toArray, List.set_cons_zero, List.set_cons_succ])); (refine wpAnyH_take (i := 23) (v := ?_) rfl (by kernel_rfl) (by kernel_rfl) (by kernel_rfl) (fun _ _ _ h => h) (Or.inl ⟨by kernel_rfl, ?_⟩) (by assumption) ?_; rotate_left; focus (intro w hSw; (try dsimp only at hSw); go_simp; try with_reducible rfl); (try simp only [List.getElem_toArray, List.getElem_cons_succ, List.getElem_cons_zero, Act.put, List.setIfInBounds_toArray, List.set_cons_zero, List.set_cons_succ])); (refine wpAnyH_take (i := 24) (v := ?_) rfl (by kernel_rfl) (by kernel_rfl) (by kernel_rfl) (fun _ _ _ h => h) (Or.inl ⟨by kernel_rfl, ?_⟩) (by assumption) ?_; rotate_left; focus (intro w hSw; (try dsimp only at hSw); go_simp; try with_reducible rfl); (try simp only [List.getElem_toArray, List.getElem_cons_succ, List.getElem_cons_zero, Act.put, List.setIfInBounds_toArray, List.set_cons_zero, List.set_cons_succ]))
  have HB := Lib.hid T0.out.2.2.drew
  have HSZ : Hid (∀ X : World, X = ((w.alloc (.cells #[.int .i64 x, .int .i64 p1, .int .i64 f1, .int .i64 a1] 81)).alloc (.cells #[.int .i64 y, .int .i64 p2, .int .i64 f2, .int .i64 a2] 81)).drew → w.heap.size + 1 < X.heap.size) := Lib.hid fun X e => by subst e; simp
  have HSX := Lib.hid (HSZ.out _ rfl)
  clear HSZ T0
  generalize ((w.alloc (.cells #[.int .i64 x, .int .i64 p1, .int .i64 f1, .int .i64 a1] 81)).alloc (.cells #[.int .i64 y, .int .i64 p2, .int .i64 f2, .int .i64 a2] 81)).drew = X at *
  refine wpAnyH_ready (rs := [4]) (by kernel_rfl) (by simp) ?_; refine AllReadyH.cons rfl (fun K hK => ?_) AllReadyH.nil
  go_simp
  go_at_call 92
  refine (HC.out _ _ _).mono ?_; rintro e w5 ⟨rfl, rfl⟩
  go_wp2_with fail
  first
    | refine hK.out _ _ hHeld (fun hHeld => ?_)
    | refine hK _ _ hHeld (fun hHeld => ?_)
  clear hK K
  (try simp only [List.getElem_toArray, List.getElem_cons_succ, List.getElem_cons_zero, Act.put, List.setIfInBounds_toArray, List.set_cons_zero, List.set_cons_succ])
  refine wpAnyH_ready (rs := [15]) (by kernel_rfl) (by simp) ?_; refine AllReadyH.cons rfl (fun K hK => ?_) AllReadyH.nil
  go_simp
  go_at_call 92
  refine (HC.out _ _ _).mono ?_; rintro e w5 ⟨rfl, rfl⟩
  go_wp2_with fail
  first
    | refine hK.out _ _ hHeld (fun hHeld => ?_)
    | refine hK _ _ hHeld (fun hHeld => ?_)
  clear hK K
  (try simp only [List.getElem_toArray, List.getElem_cons_succ, List.getElem_cons_zero, Act.put, List.setIfInBounds_toArray, List.set_cons_zero, List.set_cons_succ])
  refine wpAnyH_ready (rs := [20]) (by kernel_rfl) (by simp) ?_; refine AllReadyH.cons rfl (fun K hK => ?_) AllReadyH.nil
  go_simp
  go_at_call 92
  refine (HC.out _ _ _).mono ?_; rintro e w5 ⟨rfl, rfl⟩
  go_wp2_with fail
  first
    | refine hK.out _ _ hHeld (fun hHeld => ?_)
    | refine hK _ _ hHeld (fun hHeld => ?_)
  clear hK K
  (try simp only [List.getElem_toArray, List.getElem_cons_succ, List.getElem_cons_zero, Act.put, List.setIfInBounds_toArray, List.set_cons_zero, List.set_cons_succ])
  refine wpAnyH_ready (rs := [25]) (by kernel_rfl) (by simp) ?_; refine AllReadyH.cons rfl (fun K hK => ?_) AllReadyH.nil
  go_simp
  go_at_call 92
  refine (HC.out _ _ _).mono ?_; rintro e w5 ⟨rfl, rfl⟩
  go_wp2_with fail
  first
    | refine hK.out _ _ hHeld (fun hHeld => ?_)
    | refine hK _ _ hHeld (fun hHeld => ?_)
  clear hK K
  (try simp only [List.getElem_toArray, List.getElem_cons_succ, List.getElem_cons_zero, Act.put, List.setIfInBounds_toArray, List.set_cons_zero, List.set_cons_succ])
  refine wpAnyH_ready (rs := [26]) (by kernel_rfl) (by simp) ?_; refine AllReadyH.cons rfl (fun K hK => ?_) AllReadyH.nil
  go_simp
  have hh := hHeld
  have HBN := Lib.hid (HB.out.alloc HB.out.size (.cells #[.int .i64 (cmpI p2 p1), .int .i64 (cmpI (f2 - a2) (f1 - a1)), .int .i64 (cmpI f2 f1), .int .i64 (cmpI x y)] 3))
  first
    | refine hK.out _ _ ?_ (fun hHeld => ?_)
    | refine hK _ _ ?_ (fun hHeld => ?_)
  · have hbn := Below.ofNew (w := X) (.cells #[.int .i64 (cmpI p2 p1), .int .i64 (cmpI (f2 - a2) (f1 - a1)), .int .i64 (cmpI f2 f1), .int .i64 (cmpI x y)] 3)
    have hs := HSX.out
    obtain ⟨⟨q1, q2, q3, q4⟩, q5, q6, q7, q8⟩ := hh
    refine ⟨⟨?_, ?_, ?_, ?_⟩, ?_, ?_, ?_, ?_⟩
    all_goals (rw [hbn.cell (by first | omega | (simp; omega))]; assumption)
  clear hK K hh
  (try simp only [List.getElem_toArray, List.getElem_cons_succ, List.getElem_cons_zero, Act.put, List.setIfInBounds_toArray, List.set_cons_zero, List.set_cons_succ])
  refine wpAnyH_ready (rs := [27]) (by kernel_rfl) (by simp) ?_; refine AllReadyH.cons rfl (fun K hK => ?_) AllReadyH.nil
  go_simp
  go_at_call 91
  refine (HO.out _ _ _ _ X).mono ?_; rintro e w5 ⟨rfl, rfl⟩
  go_wp2_with fail
  first
    | refine hK.out _ _ hHeld (fun hHeld => ?_)
    | refine hK _ _ hHeld (fun hHeld => ?_)
  clear hK K
  (try simp only [List.getElem_toArray, List.getElem_cons_succ, List.getElem_cons_zero, Act.put, List.setIfInBounds_toArray, List.set_cons_zero, List.set_cons_succ])
  (refine wpAnyH_take (i := 28) (v := ?_) rfl (by kernel_rfl) (by kernel_rfl) (by kernel_rfl) (fun _ _ _ h => h) (Or.inl ⟨by kernel_rfl, ?_⟩) (by assumption) ?_; rotate_left; focus (intro w hSw; (try dsimp only at hSw); go_simp; try with_reducible rfl); (try simp only [List.getElem_toArray, List.getElem_cons_succ, List.getElem_cons_zero, Act.put, List.setIfInBounds_toArray, List.set_cons_zero, List.set_cons_succ]))
  refine wpAnyH_done (by kernel_rfl) ?_ _
  (try simp only [List.getElem_toArray, List.getElem_cons_succ, List.getElem_cons_zero, Act.put, List.setIfInBounds_toArray, List.set_cons_zero, List.set_cons_succ])
  go_wp2_with fail
  go_ret
  exact ⟨rfl, HBN.out⟩
end Go.Proofs.Ythbkclgdoopbpaa
