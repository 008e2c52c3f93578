/-
  Puzzles: PzMake, PzMakeI, PzMakeP, PzMakeS, PzMakeN.
-/
import Derived.Test.YtbgdngfjeikheaaDoorPzSolA
import Derived.Deep.RegionHeld3
import Derived.Test.YtbgdngfjeikheaaDoorPzDrop
namespace Go.Proofs.YtbgdngfjeikheaaDoor
open Go.RowKit
set_option linter.unusedVariables false
set_option linter.unusedSimpArgs false

def nextZ (z : Nat) : Nat := (z * 271 + 1283) % 10007
theorem nextZ_lt (z : Nat) : nextZ z < 10007 := Nat.mod_lt _ (by decide)
theorem nextNumber_any (z : Nat) (w : World) (hz : z ≤ 1000000) :
    Calls Tryd.prog 55 #[.int .i64 z] w fun e w' => e = .returned (.int .i64 (nextZ z)) ∧ w' = w := by
  have e1 : (z : Int) * 271 = ((z * 271 : Nat) : Int) := by omega
  have e2 : IntKind.i64.wrap ((z : Int) * 271) = (z : Int) * 271 := by rw [IntKind.wrap_i64]; omega
  have e3 : IntKind.i64.wrap ((z : Int) * 271 + 1283) = (z : Int) * 271 + 1283 := by rw [IntKind.wrap_i64]; omega
  have e4 : ((z : Int) * 271 + 1283).tmod 10007 = ((nextZ z : Nat) : Int) := by rw [Int.tmod_eq_emod_of_nonneg (by omega)]; unfold nextZ; omega
  have e5 : ((z : Int) * 271 + 1283) % 10007 = ((nextZ z : Nat) : Int) := by unfold nextZ; omega
  clear e1
  go_enter Tryd.func55, Tryd.ntmps55
  go_wp2_with fail
  go_ret
  exact ⟨ret_int (by first | rfl | (simp [*]; done) | (simp; omega) | omega), rfl⟩
theorem pzNext_any (z : Nat) (w : World) (hz : z ≤ 1000000) :
    Calls Tryd.prog 52 #[.int .i64 z] w fun e w' => e = .returned (.int .i64 (nextZ z)) ∧ w' = w := by
  have e0 : (271 : Int) * (z : Int) = (z : Int) * 271 := by omega
  have e2 : IntKind.i64.wrap ((271 : Int) * (z : Int)) = (271 : Int) * z := by rw [IntKind.wrap_i64]; omega
  have e3 : IntKind.i64.wrap ((271 : Int) * (z : Int) + 1283) = (271 : Int) * z + 1283 := by rw [IntKind.wrap_i64]; omega
  have e4 : ((271 : Int) * (z : Int) + 1283).tmod 10007 = ((nextZ z : Nat) : Int) := by rw [Int.tmod_eq_emod_of_nonneg (by omega)]; unfold nextZ; omega
  have e5 : ((271 : Int) * (z : Int) + 1283) % 10007 = ((nextZ z : Nat) : Int) := by unfold nextZ; omega
  clear e0
  go_enter Tryd.func52, Tryd.ntmps52
  go_wp2_with fail
  go_ret
  exact ⟨ret_int (by first | rfl | (simp [*]; done) | (simp; omega) | omega), rfl⟩

/-- The number A that a number makes. -/
def mkA (k y n : Nat) : Nat := if k = 1 then y % n else if k = 2 ∨ k = 4 then y % 8 + 1 else 0
theorem mkA_ok {k y n : Nat} (hk : k < 6) (hn : 1 ≤ n ∧ n ≤ 8) : kindOk (n : Int) (k : Int) (mkA k y n : Int) := by
  unfold kindOk mkA
  have h1 := Nat.mod_lt y (show n > 0 by omega)
  have h2 := Nat.mod_lt y (show 8 > 0 by omega)
  rcases (show k = 0 ∨ k = 1 ∨ k = 2 ∨ k = 3 ∨ k = 4 ∨ k = 5 by omega) with rfl | rfl | rfl | rfl | rfl | rfl <;> simp <;> omega
theorem mkA_bd {k y n : Nat} (hk : k < 6) (hn : 1 ≤ n ∧ n ≤ 8) (b c : Int) : ∃ lo d mb : Int, bdE n ((k : Int), b, c) = .returned (.agg #[.int .i64 lo, .int .i64 (lo + d - 1), .int .i64 mb]) ∧ 0 ≤ lo ∧ lo ≤ 1 ∧ 1 ≤ d ∧ d ≤ 8 ∧ lo + (y : Int) % d = (mkA k y n : Int) := by
  rcases (show k = 0 ∨ k = 1 ∨ k = 2 ∨ k = 3 ∨ k = 4 ∨ k = 5 by omega) with rfl | rfl | rfl | rfl | rfl | rfl
  · exact ⟨0, 1, 8, rfl, by omega, by omega, by omega, by omega, by simp [mkA]⟩
  · refine ⟨0, n, 1, ?_, by omega, by omega, by omega, by omega, by simp [mkA]⟩
    show _ = _
    simp [bdE, bdC]
  · exact ⟨1, 8, 3, rfl, by omega, by omega, by omega, by omega, by simp [mkA]; omega⟩
  · exact ⟨0, 1, 8, rfl, by omega, by omega, by omega, by omega, by simp [mkA]⟩
  · exact ⟨1, 8, 8, rfl, by omega, by omega, by omega, by omega, by simp [mkA]; omega⟩
  · exact ⟨0, 1, 8, rfl, by omega, by omega, by omega, by omega, by simp [mkA]⟩

set_option maxHeartbeats 800000 in
set_option maxRecDepth 100000 in
theorem pzOf_any (k y : Nat) (s : ByteArray) (w : World) (hk : k < 6) (hy : y ≤ 1000000) (h : hidB s = true) :
    Calls Tryd.prog 53 #[.int .i64 k, .int .i64 y, .string s] w fun e w' => e = .returned (.agg #[.int .i64 k, .int .i64 (mkA k y s.size), .int .i64 (tellK k (mkA k y s.size) s)]) ∧ Below w.heap.size w w' := by
  have hn := (hidB_iff.1 h).1
  have HV := Lib.hid (fun W => pzValue_any (k : Int) (mkA k y s.size : Int) s W (mkA_ok hk hn) h); clear h
  generalize tellK (k : Int) (mkA k y s.size : Int) s = T at *
  have A0 := Lib.hid (And.intro (ObAt.new w 75 #[.int .i64 0, .int .i64 0, .int .i64 0]) (Below.ofNew (w := w) (.cells #[.int .i64 0, .int .i64 0, .int .i64 0] 75)))
  have hfin : ∀ (W : World) (A : Int), ObAt W w.heap.size 75 #[.int .i64 0, .int .i64 0, .int .i64 0] → Below w.heap.size w W → Below w.heap.size w (((W.setCell ⟨w.heap.size, 0, none⟩ (.int .i64 k)).setCell ⟨w.heap.size, 1, none⟩ (.int .i64 A)).setCell ⟨w.heap.size, 2, none⟩ (.int .i64 T)) := fun W A _ hb =>
    ((hb.setCell (p := ⟨w.heap.size, 0, none⟩) (Nat.le_refl _) _).setCell (p := ⟨w.heap.size, 1, none⟩) (Nat.le_refl _) _).setCell (p := ⟨w.heap.size, 2, none⟩) (Nat.le_refl _) _
  have HFIN := Lib.hid hfin; clear hfin
  have hA : ((mkA k y s.size : Nat) : Int) = if k = 1 then (y : Int) % (s.size : Int) else if k = 2 ∨ k = 4 then (y : Int) % 8 + 1 else 0 := by
    unfold mkA; split <;> (try split) <;> omega
  have HA := Lib.hid hA; clear hA
  generalize ((mkA k y s.size : Nat) : Int) = A at *
  have hyn : (0 : Int) ≤ (y : Int) ∧ (y : Int) ≤ 1000000 := by omega
  have hn0 : ¬ (s.size : Int) = 0 := by omega
  have hn00 : ¬ s.size = 0 := by omega
  generalize hK : (k : Int) = K at *
  by_cases h1 : K = 1
  · have c1 : (K = 1) = True := by simp [h1]
    have b1 : (K == 1) = true := by simp [h1]
    have e3 : (y : Int).tmod (s.size : Int) = A := by rw [Int.tmod_eq_emod_of_nonneg (by omega), HA.out, if_pos (by omega)]
    have e4 : (y : Int) % (s.size : Int) = A := by rw [HA.out, if_pos (by omega)]
    have HY := Lib.hid (And.intro hyn (And.intro hK h1)); clear h1 HA hyn hK hk hy
    go_enter Tryd.func53, Tryd.ntmps53
    go_wp2_with fail
    refine (HV.out _).mono ?_; rintro e w2 ⟨rfl, b2⟩
    have A1 := Lib.hid (And.intro (A0.out.1.keep b2) (A0.out.2.trans (b2.mono A0.out.2.size))); clear b2
    obtain ⟨z0, z1, z2, f0, f1, f2⟩ := A1.out.1.three
    have HB := Lib.hid (HFIN.out _ A A1.out.1 A1.out.2)
    go_wp2_with fail
    refine bodyPost_ret (v := .agg #[.int .i64 K, .int .i64 A, .int .i64 T]) ?_ rfl ⟨rfl, HB.out⟩
    simp [results, Tryd.results53, go_sem, *]
  · by_cases h2 : K = 2 ∨ K = 4
    · have n1 : ¬ K = 1 := h1
      have b1 : (K == 1) = false := by simp [h1]
      have e3 : (y : Int).tmod 8 + 1 = A := by rw [Int.tmod_eq_emod_of_nonneg (by omega), HA.out, if_neg (by omega), if_pos (by omega)]
      have e4 : (y : Int) % 8 + 1 = A := by rw [HA.out, if_neg (by omega), if_pos (by omega)]
      have e5 : IntKind.i64.wrap A = A := by rw [IntKind.wrap_i64]; omega
      have HY := Lib.hid (And.intro hyn (And.intro hK h2)); clear h1 HA hK hk hy
      rcases h2 with h2 | h2
      · have c2 : (K = 2) = True := by simp [h2]
        have b2 : (K == 2) = true := by simp [h2]
        clear h2
        go_enter Tryd.func53, Tryd.ntmps53
        go_wp2_with fail
        refine (HV.out _).mono ?_; rintro e w2 ⟨rfl, b2⟩
        have A1 := Lib.hid (And.intro (A0.out.1.keep b2) (A0.out.2.trans (b2.mono A0.out.2.size))); clear b2
        obtain ⟨z0, z1, z2, f0, f1, f2⟩ := A1.out.1.three
        have HB := Lib.hid (HFIN.out _ A A1.out.1 A1.out.2)
        go_wp2_with fail
        refine bodyPost_ret (v := .agg #[.int .i64 K, .int .i64 A, .int .i64 T]) ?_ rfl ⟨rfl, HB.out⟩
        simp [results, Tryd.results53, go_sem, *]
      · have c2 : ¬ K = 2 := by omega
        have b2 : (K == 2) = false := by simp [h2]
        have c4 : (K = 4) = True := by simp [h2]
        have b4 : (K == 4) = true := by simp [h2]
        clear h2
        go_enter Tryd.func53, Tryd.ntmps53
        go_wp2_with fail
        refine (HV.out _).mono ?_; rintro e w2 ⟨rfl, b2⟩
        have A1 := Lib.hid (And.intro (A0.out.1.keep b2) (A0.out.2.trans (b2.mono A0.out.2.size))); clear b2
        obtain ⟨z0, z1, z2, f0, f1, f2⟩ := A1.out.1.three
        have HB := Lib.hid (HFIN.out _ A A1.out.1 A1.out.2)
        go_wp2_with fail
        refine bodyPost_ret (v := .agg #[.int .i64 K, .int .i64 A, .int .i64 T]) ?_ rfl ⟨rfl, HB.out⟩
        simp [results, Tryd.results53, go_sem, *]
    · have n1 : ¬ K = 1 := h1
      have b1 : (K == 1) = false := by simp [h1]
      have c2 : ¬ K = 2 := by omega
      have b2 : (K == 2) = false := by simp [c2]
      have c4 : ¬ K = 4 := by omega
      have b4 : (K == 4) = false := by simp [c4]
      have hA0 : A = 0 := by rw [HA.out, if_neg (by omega), if_neg (by omega)]
      subst hA0
      have HY := Lib.hid hK; clear HA hK hk hy h2 h1
      go_enter Tryd.func53, Tryd.ntmps53
      go_wp2_with fail
      refine (HV.out _).mono ?_; rintro e w2 ⟨rfl, b2⟩
      have A1 := Lib.hid (And.intro (A0.out.1.keep b2) (A0.out.2.trans (b2.mono A0.out.2.size))); clear b2
      obtain ⟨z0, z1, z2, f0, f1, f2⟩ := A1.out.1.three
      have HB := Lib.hid (HFIN.out _ 0 A1.out.1 A1.out.2)
      go_wp2_with fail
      refine bodyPost_ret (v := .agg #[.int .i64 K, .int .i64 0, .int .i64 T]) ?_ rfl ⟨rfl, HB.out⟩
      simp [results, Tryd.results53, go_sem, *]


/-- The result's block, and behind it the clue under way. -/
def CfW (w : World) (K a b : Int) (W : World) : Prop :=
  ObAt W w.heap.size 75 #[.int .i64 0, .int .i64 0, .int .i64 0] ∧ ObAt W (w.heap.size + 1) 75 #[.int .i64 K, .int .i64 a, .int .i64 b] ∧ Below w.heap.size w W
theorem CfW.new (w : World) (K : Int) : CfW w K 0 0 ((w.alloc (.cells #[.int .i64 0, .int .i64 0, .int .i64 0] 75)).alloc (.cells #[.int .i64 K, .int .i64 0, .int .i64 0] 75)) := by
  have h := ObAt.new (w.alloc (.cells #[.int .i64 0, .int .i64 0, .int .i64 0] 75)) 75 #[.int .i64 K, .int .i64 0, .int .i64 0]
  rw [World.size_alloc] at h
  exact ⟨(ObAt.new _ _ _).old _, h, (Below.ofNew _).alloc (Below.ofNew _).size _⟩
theorem CfW.keep {w : World} {K a b : Int} {W W2 : World} (h : CfW w K a b W) (hb : Below W.heap.size W W2) : CfW w K a b W2 := ⟨h.1.keep hb, h.2.1.keep hb, h.2.2.trans (hb.mono h.2.2.size)⟩
theorem CfW.drew' {w : World} {K a b : Int} {W : World} (h : CfW w K a b W) : CfW w K a b W.drew := h.keep (Below.drew (Below.refl _ _))
theorem CfW.putA {w : World} {K a b : Int} {W : World} (h : CfW w K a b W) (x : Int) : CfW w K x b (W.setCell ⟨w.heap.size + 1, 1, none⟩ (.int .i64 x)) :=
  ⟨h.1.other (by omega) _, h.2.1.put 1 _, h.2.2.setCell (p := ⟨w.heap.size + 1, 1, none⟩) (by simp only; omega) _⟩
theorem CfW.putB {w : World} {K a b : Int} {W : World} (h : CfW w K a b W) (x : Int) : CfW w K a x (W.setCell ⟨w.heap.size + 1, 2, none⟩ (.int .i64 x)) :=
  ⟨h.1.other (by omega) _, h.2.1.put 2 _, h.2.2.setCell (p := ⟨w.heap.size + 1, 2, none⟩) (by simp only; omega) _⟩
theorem CfW.res {w : World} {K a b : Int} {W : World} (h : CfW w K a b W) (x y z : Int) : Below w.heap.size w (((W.setCell ⟨w.heap.size, 0, none⟩ (.int .i64 x)).setCell ⟨w.heap.size, 1, none⟩ (.int .i64 y)).setCell ⟨w.heap.size, 2, none⟩ (.int .i64 z)) :=
  ((h.2.2.setCell (p := ⟨w.heap.size, 0, none⟩) (Nat.le_refl _) _).setCell (p := ⟨w.heap.size, 1, none⟩) (Nat.le_refl _) _).setCell (p := ⟨w.heap.size, 2, none⟩) (Nat.le_refl _) _

set_option maxHeartbeats 800000 in
set_option maxRecDepth 100000 in
theorem clueFrom_any (k y : Nat) (s : ByteArray) (pe0 pe1 : Addr) (w : World) (hk : k < 6) (hy : y ≤ 1000000) (h : hidB s = true) (hd : PzDoor w pe0 pe1) :
    Calls Tryd.prog 57 #[.string s, .int .i64 k, .int .i64 y] w fun e w' => e = .returned (.agg #[.int .i64 k, .int .i64 (mkA k y s.size), .int .i64 (tellK k (mkA k y s.size) s)]) ∧ Below w.heap.size w w' := by
  have hn := (hidB_iff.1 h).1
  have HV := Lib.hid (fun W (hW : PzDoor W pe0 pe1) => toldBy_any (k : Int) (mkA k y s.size : Int) 0 s pe0 pe1 W (mkA_ok hk hn) h hW); clear h
  have HD := Lib.hid (fun W (hb : Below w.heap.size w W) => hd.keep hb); clear hd
  generalize tellK (k : Int) (mkA k y s.size : Int) s = T at *
  obtain ⟨lo, d, mb, hbd, l0, l1, d1, d8, hA⟩ := mkA_bd (y := y) hk hn 0 0
  have HBD := Lib.hid (fun W => boundsOf_any (s.size : Int) ((k : Int), 0, 0) W (by omega))
  rw [hbd] at HBD; clear hbd
  have hA0 : (0 : Int) ≤ (mkA k y s.size : Nat) ∧ ((mkA k y s.size : Nat) : Int) ≤ 100 := by
    rw [← hA]
    have := Int.emod_nonneg (y : Int) (show d ≠ 0 by omega)
    have := Int.emod_lt_of_pos (y : Int) (show 0 < d by omega)
    omega
  generalize ((mkA k y s.size : Nat) : Int) = A at *
  obtain ⟨r, hr⟩ : ∃ r, r = (y : Int) % d := ⟨_, rfl⟩
  have e1 : IntKind.i64.wrap (lo + d - 1 - lo) = lo + d - 1 - lo := by rw [IntKind.wrap_i64]; omega
  have e2 : lo + d - 1 - lo + 1 = d := by omega
  have e2b : IntKind.i64.wrap (lo + d - 1 - lo + 1) = d := by rw [IntKind.wrap_i64]; omega
  have e2c : IntKind.i64.wrap d = d := by rw [IntKind.wrap_i64]; omega
  have e3 : (y : Int).tmod d = r := by rw [Int.tmod_eq_emod_of_nonneg (by omega), hr]
  have e4 : (y : Int) % d = r := hr.symm
  have e5 : lo + r = A := by rw [hr]; exact hA
  have e6 : IntKind.i64.wrap r = r := by rw [IntKind.wrap_i64]; omega
  have e7 : IntKind.i64.wrap A = A := by rw [IntKind.wrap_i64]; omega
  have e8 : ¬ d = 0 := by omega
  have HX := Lib.hid (And.intro hr hA); clear hr hA
  generalize hhi : lo + d - 1 = hi at *
  have HH := Lib.hid hhi; clear hhi
  generalize hKK : (k : Int) = KK at *
  have HKK := Lib.hid hKK; clear hKK
  have T0 := Lib.hid (CfW.new w KK)
  obtain ⟨p0, p1, p2, -, -, -⟩ := T0.out.2.1.three
  go_enter Tryd.func57, Tryd.ntmps57
  go_wp2_with fail
  refine (HBD.out _).mono ?_; rintro e wA ⟨rfl, bA⟩
  have bn := Below.ofNew (w := wA) (.cells #[.int .i64 lo, .int .i64 hi, .int .i64 mb] 123)
  have T1 := T0.out.keep bA
  have hgl := T1.2.1.lt
  have T2 : Hid (CfW w KK 0 0 (wA.alloc (.cells #[.int .i64 lo, .int .i64 hi, .int .i64 mb] 123)).drew ∧ ObAt (wA.alloc (.cells #[.int .i64 lo, .int .i64 hi, .int .i64 mb] 123)).drew wA.heap.size 123 #[.int .i64 lo, .int .i64 hi, .int .i64 mb]) := ⟨(T1.keep bn).drew', (ObAt.new _ _ _).drew⟩
  have T2x := Lib.hid (T1.keep bn)
  clear bn T1 bA T0 p0 p1 p2
  go_wp2_with fail
  generalize wA.alloc (.cells #[.int .i64 lo, .int .i64 hi, .int .i64 mb] 123) = X at *
  generalize wA.heap.size = g at *
  have T3 : Hid (CfW w KK A 0 ((X.setCell ⟨w.heap.size + 1, 1, none⟩ (.int .i64 A)).drew) ∧ ObAt ((X.setCell ⟨w.heap.size + 1, 1, none⟩ (.int .i64 A)).drew) g 123 #[.int .i64 lo, .int .i64 hi, .int .i64 mb]) := ⟨(T2x.out.putA A).drew', (ObAt.other (w := X) T2.out.2 (by omega) _).drew⟩
  refine wp_region_held_drew (S := fun wi => wi.cell? ⟨g, 0, none⟩ = some (.int .i64 lo) ∧ wi.cell? ⟨g, 1, none⟩ = some (.int .i64 hi)) (by kernel_rfl) ⟨T2.out.2.cell 0, T2.out.2.cell 1⟩ (fun hHeld => ?_)
  (refine wpAnyH_take (i := 0) (v := ?_) rfl (by kernel_rfl) (by kernel_rfl) (by kernel_rfl) (fun _ _ _ h => h) (Or.inl ⟨by kernel_rfl, ?_⟩) (by assumption) ?_; rotate_left; focus (intro w hSw; (try dsimp only at hSw); go_simp; try with_reducible rfl); (try simp only [List.getElem_toArray, List.getElem_cons_succ, List.getElem_cons_zero, Act.put, List.setIfInBounds_toArray, List.set_cons_zero, List.set_cons_succ])); (refine wpAnyH_take (i := 1) (v := ?_) rfl (by kernel_rfl) (by kernel_rfl) (by kernel_rfl) (fun _ _ _ h => h) (Or.inl ⟨by kernel_rfl, ?_⟩) (by assumption) ?_; rotate_left; focus (intro w hSw; (try dsimp only at hSw); go_simp; try with_reducible rfl); (try simp only [List.getElem_toArray, List.getElem_cons_succ, List.getElem_cons_zero, Act.put, List.setIfInBounds_toArray, List.set_cons_zero, List.set_cons_succ])); (refine wpAnyH_take (i := 2) (v := ?_) rfl (by kernel_rfl) (by kernel_rfl) (by kernel_rfl) (fun _ _ _ h => h) (Or.inl ⟨by kernel_rfl, ?_⟩) (by assumption) ?_; rotate_left; focus (intro w hSw; (try dsimp only at hSw); go_simp; try with_reducible rfl); (try simp only [List.getElem_toArray, List.getElem_cons_succ, List.getElem_cons_zero, Act.put, List.setIfInBounds_toArray, List.set_cons_zero, List.set_cons_succ])); (refine wpAnyH_take (i := 3) (v := ?_) rfl (by kernel_rfl) (by kernel_rfl) (by kernel_rfl) (fun _ _ _ h => h) (Or.inl ⟨by kernel_rfl, ?_⟩) (by assumption) ?_; rotate_left; focus (intro w hSw; (try dsimp only at hSw); go_simp; try with_reducible rfl); (try simp only [List.getElem_toArray, List.getElem_cons_succ, List.getElem_cons_zero, Act.put, List.setIfInBounds_toArray, List.set_cons_zero, List.set_cons_succ])); (refine wpAnyH_take (i := 4) (v := ?_) rfl (by kernel_rfl) (by kernel_rfl) (by kernel_rfl) (fun _ _ _ h => h) (Or.inl ⟨by kernel_rfl, ?_⟩) (by assumption) ?_; rotate_left; focus (intro w hSw; (try dsimp only at hSw); go_simp; try with_reducible rfl); (try simp only [List.getElem_toArray, List.getElem_cons_succ, List.getElem_cons_zero, Act.put, List.setIfInBounds_toArray, List.set_cons_zero, List.set_cons_succ])); (refine wpAnyH_take (i := 5) (v := ?_) rfl (by kernel_rfl) (by kernel_rfl) (by kernel_rfl) (fun _ _ _ h => h) (Or.inl ⟨by kernel_rfl, ?_⟩) (by assumption) ?_; rotate_left; focus (intro w hSw; (try dsimp only at hSw); go_simp; try with_reducible rfl); (try simp only [List.getElem_toArray, List.getElem_cons_succ, List.getElem_cons_zero, Act.put, List.setIfInBounds_toArray, List.set_cons_zero, List.set_cons_succ])); (refine wpAnyH_take (i := 6) (v := ?_) rfl (by kernel_rfl) (by kernel_rfl) (by kernel_rfl) (fun _ _ _ h => h) (Or.inl ⟨by kernel_rfl, ?_⟩) (by assumption) ?_; rotate_left; focus (intro w hSw; (try dsimp only at hSw); go_simp; try with_reducible rfl); (try simp only [List.getElem_toArray, List.getElem_cons_succ, List.getElem_cons_zero, Act.put, List.setIfInBounds_toArray, List.set_cons_zero, List.set_cons_succ])); (refine wpAnyH_take (i := 7) (v := ?_) rfl (by kernel_rfl) (by kernel_rfl) (by kernel_rfl) (fun _ _ _ h => h) (Or.inl ⟨by kernel_rfl, ?_⟩) (by assumption) ?_; rotate_left; focus (intro w hSw; (try dsimp only at hSw); go_simp; try with_reducible rfl); (try simp only [List.getElem_toArray, List.getElem_cons_succ, List.getElem_cons_zero, Act.put, List.setIfInBounds_toArray, List.set_cons_zero, List.set_cons_succ])); (refine wpAnyH_take (i := 8) (v := ?_) rfl (by kernel_rfl) (by kernel_rfl) (by kernel_rfl) (fun _ _ _ h => h) (Or.inl ⟨by kernel_rfl, ?_⟩) (by assumption) ?_; rotate_left; focus (intro w hSw; (try dsimp only at hSw); go_simp; try with_reducible rfl); (try simp only [List.getElem_toArray, List.getElem_cons_succ, List.getElem_cons_zero, Act.put, List.setIfInBounds_toArray, List.set_cons_zero, List.set_cons_succ])); (refine wpAnyH_take (i := 9) (v := ?_) rfl (by kernel_rfl) (by kernel_rfl) (by kernel_rfl) (fun _ _ _ h => h) (Or.inl ⟨by kernel_rfl, ?_⟩) (by assumption) ?_; rotate_left; focus (intro w hSw; (try dsimp only at hSw); go_simp; try with_reducible rfl); (try simp only [List.getElem_toArray, List.getElem_cons_succ, List.getElem_cons_zero, Act.put, List.setIfInBounds_toArray, List.set_cons_zero, List.set_cons_succ])); (refine wpAnyH_take (i := 10) (v := ?_) rfl (by kernel_rfl) (by kernel_rfl) (by kernel_rfl) (fun _ _ _ h => h) (Or.inl ⟨by kernel_rfl, ?_⟩) (by assumption) ?_; rotate_left; focus (intro w hSw; (try dsimp only at hSw); go_simp; try with_reducible rfl); (try simp only [List.getElem_toArray, List.getElem_cons_succ, List.getElem_cons_zero, Act.put, List.setIfInBounds_toArray, List.set_cons_zero, List.set_cons_succ])); (refine wpAnyH_take (i := 11) (v := ?_) rfl (by kernel_rfl) (by kernel_rfl) (by kernel_rfl) (fun _ _ _ h => h) (Or.inl ⟨by kernel_rfl, ?_⟩) (by assumption) ?_; rotate_left; focus (intro w hSw; (try dsimp only at hSw); go_simp; try with_reducible rfl); (try simp only [List.getElem_toArray, List.getElem_cons_succ, List.getElem_cons_zero, Act.put, List.setIfInBounds_toArray, List.set_cons_zero, List.set_cons_succ]))
  clear hHeld
  obtain ⟨z0, z1, z2, f0, f1, f2⟩ := T2.out.1.2.1.three
  refine wpAnyH_ready (rs := [12]) (by kernel_rfl) (by simp) ?_; refine AllReadyH.cons rfl (fun K hK => ?_) AllReadyH.nil
  go_simp
  clear z0 z1 z2 f0 f1 f2
  first
    | refine hK.out _ _ ⟨T3.out.2.cell 0, T3.out.2.cell 1⟩ (fun hHeld => ?_)
    | refine hK _ _ ⟨T3.out.2.cell 0, T3.out.2.cell 1⟩ (fun hHeld => ?_)
  clear hK K
  (try simp only [List.getElem_toArray, List.getElem_cons_succ, List.getElem_cons_zero, Act.put, List.setIfInBounds_toArray, List.set_cons_zero, List.set_cons_succ])
  clear hHeld
  refine wpAnyH_done (by kernel_rfl) ?_ _
  (try simp only [List.getElem_toArray, List.getElem_cons_succ, List.getElem_cons_zero, Act.put, List.setIfInBounds_toArray, List.set_cons_zero, List.set_cons_succ])
  have T4 := Lib.hid T3.out.1; clear T3 T2 T2x
  generalize (X.setCell ⟨w.heap.size + 1, 1, none⟩ (.int .i64 A)).drew = W4 at *
  obtain ⟨p0, p1, p2, -, -, -⟩ := T4.out.2.1.three
  go_wp2_with fail
  refine (HV.out _ (HD.out _ T4.out.2.2)).mono ?_; rintro e w5 ⟨rfl, b5⟩
  have T5 := Lib.hid (T4.out.keep b5); clear b5 p0 p1 p2
  have T6 := Lib.hid (T5.out.putB T)
  obtain ⟨z0, z1, z2, f0, f1, f2⟩ := T5.out.2.1.three
  obtain ⟨y0, y1, y2, -, -, -⟩ := T6.out.2.1.three
  obtain ⟨x0, x1, x2, g0, g1, g2⟩ := T6.out.1.three
  have HB := Lib.hid (T6.out.res KK A T)
  go_wp2_with fail
  refine bodyPost_ret (v := .agg #[.int .i64 KK, .int .i64 A, .int .i64 T]) ?_ rfl ⟨rfl, HB.out⟩
  simp [results, Tryd.results57, go_sem, *]


def zAt (seed : Nat) : Nat → Nat
  | 0 => seed
  | k + 1 => nextZ (nextZ (zAt seed k))
theorem zAt_bd {seed : Nat} (h : seed ≤ 9999) : ∀ k, zAt seed k ≤ 100000
  | 0 => by show seed ≤ _; omega
  | k + 1 => by have := nextZ_lt (nextZ (zAt seed k)); show nextZ _ ≤ _; omega
def mkC (s : ByteArray) (z : Nat) : Cl := ((nextZ z % 6 : Nat), (mkA (nextZ z % 6) (nextZ (nextZ z)) s.size : Nat), tellK (nextZ z % 6 : Nat) (mkA (nextZ z % 6) (nextZ (nextZ z)) s.size : Nat) s)
def mkAll (s : ByteArray) (seed k : Nat) : List Cl := (List.range k).map fun i => mkC s (zAt seed i)
theorem mkAll_len (s : ByteArray) (seed k : Nat) : (mkAll s seed k).length = k := by simp [mkAll]
theorem mkAll_succ (s : ByteArray) (seed k : Nat) : mkAll s seed (k + 1) = mkAll s seed k ++ [mkC s (zAt seed k)] := by
  unfold mkAll; rw [List.range_succ, List.map_append]; rfl
def mkOk (s : ByteArray) (c seed : Int) : Bool := hidB s && decide ((0 ≤ c ∧ c ≤ 6) ∧ 0 ≤ seed ∧ seed ≤ 9999)
/-- The result's block, still empty, and the puzzle under way in a block of its own. -/
def MkI (w : World) (n g : Nat) (m : List Cl) (a : Option Addr) (c' : Nat) (wr : World) : Prop :=
  ObAt wr w.heap.size 24 #[.int .i64 0, .slice none 0 0] ∧ ObAt wr g 24 #[.int .i64 n, .slice a m.length c'] ∧ wr.ownsRow w.heap.size 75 3 (.slice a m.length c') m.length (clus m) ∧ Below w.heap.size w wr ∧ w.heap.size < g
theorem MkI.keep {w : World} {n g : Nat} {m : List Cl} {a : Option Addr} {c' : Nat} {wr w2 : World} (h : MkI w n g m a c' wr) (hb : Below wr.heap.size wr w2) : MkI w n g m a c' w2 :=
  ⟨h.1.keep hb, h.2.1.keep hb, owns_below h.2.2.1 hb, h.2.2.2.1.trans (hb.mono h.2.2.2.1.size), h.2.2.2.2⟩
theorem MkI.put {w : World} {n g : Nat} {m m2 : List Cl} {a a2 : Option Addr} {c' c2 : Nat} {wr : World} (h : MkI w n g m a c' wr) (ho : wr.ownsRow w.heap.size 75 3 (.slice a2 m2.length c2) m2.length (clus m2)) :
    MkI w n g m2 a2 c2 ((wr.setCell ⟨g, 0, none⟩ (.int .i64 n)).setCell ⟨g, 1, none⟩ (.slice a2 m2.length c2)) := by
  obtain ⟨h1, h3, -, h4, h5⟩ := h
  refine ⟨(h1.other (by omega) _).other (by omega) _, (h3.put 0 _).put 1 _, owns_heap ho (fun b e => ?_), ?_, h5⟩
  · have hne : b ≠ g := by
      intro e2
      subst e2
      exact owns_apart (T := 24) (fr := (0, 0)) h3 (by decide) ho e
    rw [Below.heap_setCell _ _ _ _ hne, Below.heap_setCell _ _ _ _ hne]
  · exact (h4.setCell (p := ⟨g, 0, none⟩) (by simp only; omega) _).setCell (p := ⟨g, 1, none⟩) (by simp only; omega) _
theorem MkI.res {w : World} {n g : Nat} {m : List Cl} {a : Option Addr} {c' : Nat} {wr : World} (h : MkI w n g m a c' wr) (u0 u1 : Value) :
    ((wr.setCell ⟨w.heap.size, 0, none⟩ u0).setCell ⟨w.heap.size, 1, none⟩ u1).ownsRow w.heap.size 75 3 (.slice a m.length c') m.length (clus m) ∧ Below w.heap.size w ((wr.setCell ⟨w.heap.size, 0, none⟩ u0).setCell ⟨w.heap.size, 1, none⟩ u1) ∧ ObAt ((wr.setCell ⟨w.heap.size, 0, none⟩ u0).setCell ⟨w.heap.size, 1, none⟩ u1) w.heap.size 24 #[u0, u1] := by
  obtain ⟨h1, h3, ho, h4, h5⟩ := h
  refine ⟨owns_heap ho (fun b e => ?_), (h4.setCell (p := ⟨w.heap.size, 0, none⟩) (Nat.le_refl _) _).setCell (p := ⟨w.heap.size, 1, none⟩) (Nat.le_refl _) _, (h1.put 0 _).put 1 _⟩
  have hne : b ≠ w.heap.size := by
    intro e2
    subst e2
    exact owns_apart (T := 24) (fr := (0, 0)) h1 (by decide) ho e
  rw [Below.heap_setCell _ _ _ _ hne, Below.heap_setCell _ _ _ _ hne]

set_option maxHeartbeats 800000 in
set_option maxRecDepth 100000 in
theorem implMakeOk_any (s : ByteArray) (cn seed : Nat) (pe0 pe1 : Addr) (w : World) (h : hidB s = true) (hc : cn ≤ 6) (hse : seed ≤ 9999) (hd : PzDoor w pe0 pe1) :
    Calls Tryd.prog 14 #[.string s, .int .i64 cn, .int .i64 seed] w fun e w' => PzR s.size (mkAll s seed cn) true w e w' := by
  have hn := (hidB_iff.1 h).1
  have HH := Lib.hid (fun W => areHidden_any s W (by omega))
  rw [h] at HH
  have HCF := Lib.hid (fun k y W (hk : k < 6) (hy : y ≤ 1000000) (hb : Below w.heap.size w W) => clueFrom_any k y s pe0 pe1 W hk hy h (hd.keep hb)); clear h hd
  have HZ := Lib.hid (fun k => zAt_bd hse k)
  have R0 := Lib.hid (And.intro (ObAt.new w 24 #[.int .i64 0, .slice none 0 0]) (Below.ofNew (w := w) (.cells #[.int .i64 0, .slice none 0 0] 24)))
  have q1 : ¬ (cn : Int) < 0 := by omega
  have q2 : ¬ (cn : Int) > 6 := by omega
  have q2b : ¬ (6 : Int) < (cn : Int) := by omega
  have q3 : ¬ (seed : Int) < 0 := by omega
  have q4 : ¬ (seed : Int) > 9999 := by omega
  have q4b : ¬ (9999 : Int) < (seed : Int) := by omega
  have HM0 : Hid (mkAll s seed 0 = []) := rfl
  have HMS := Lib.hid (fun k => And.intro (mkAll_succ s seed k) (mkAll_len s seed k))
  go_enter Tryd.func14, Tryd.ntmps14
  go_wp2_with fail
  refine (HH.out _).mono ?_; rintro e w1 ⟨rfl, b1⟩
  have bn := Below.ofNew (w := w1) (.cells #[.int .i64 s.size, .slice none 0 0] 24)
  have h1 := R0.out.2.trans (b1.mono R0.out.2.size)
  have I0 : Hid (MkI w s.size w1.heap.size (mkAll s seed 0) none 0 (w1.alloc (.cells #[.int .i64 s.size, .slice none 0 0] 24))) :=
    ⟨(R0.out.1.keep b1).keep bn, ObAt.new _ _ _, owns_nil3 _ _ _, h1.trans (bn.mono h1.size), (R0.out.1.keep b1).lt⟩
  clear bn h1 b1 R0
  go_wp2_with fail
  generalize w1.heap.size = g at *
  go_loopw [9, 36] (fun z i wq => ∃ (k : Nat) (a : Option Addr) (c' : Nat), i = .int .i64 k ∧ k ≤ cn ∧ z = .int .i64 (zAt seed k) ∧ Hid (MkI w s.size g (mkAll s seed k) a c' wq)) (fun _ i _ => cn - (intOf i).toNat)
  case atStart => exact ⟨0, none, 0, rfl, Nat.zero_le _, rfl, I0.out⟩
  case round =>
    clear I0
    obtain ⟨k, a, c', rfl, hk, rfl, HJ⟩ := hrel
    by_cases hlt : k < cn
    · have b2 : (k : Int) < (cn : Int) := by omega
      have hz := HZ.out k
      have HST := Lib.hid (HMS.out k)
      have HZS : Hid (zAt seed (k + 1) = nextZ (nextZ (zAt seed k))) := rfl
      have HMC : Hid (mkC s (zAt seed k) = (((nextZ (zAt seed k) % 6 : Nat) : Int), ((mkA (nextZ (zAt seed k) % 6) (nextZ (nextZ (zAt seed k))) s.size : Nat) : Int), tellK ((nextZ (zAt seed k) % 6 : Nat) : Int) ((mkA (nextZ (zAt seed k) % 6) (nextZ (nextZ (zAt seed k))) s.size : Nat) : Int) s)) := rfl
      generalize zAt seed k = z at *
      have hz1 := nextZ_lt z
      have hz2 := nextZ_lt (nextZ z)
      have HN1 := Lib.hid (fun W => nextNumber_any z W (by omega))
      have HN2 := Lib.hid (fun W => nextNumber_any (nextZ z) W (by omega))
      generalize hz3 : nextZ (nextZ z) = y at *
      generalize hz4 : nextZ z = x at *
      have hm : x % 6 < 6 := Nat.mod_lt _ (by decide)
      have e1 : (x : Int).tmod 6 = ((x % 6 : Nat) : Int) := by rw [Int.tmod_eq_emod_of_nonneg (by omega)]; omega
      have e2 : (x : Int) % 6 = ((x % 6 : Nat) : Int) := by omega
      have HCFK := Lib.hid (fun W hb => HCF.out (x % 6) y W hm (by omega) hb)
      generalize x % 6 = kd at *
      generalize tellK (kd : Int) (mkA kd y s.size : Int) s = T at *
      generalize ((mkA kd y s.size : Nat) : Int) = A at *
      have hbd := Below.drew (Below.refl wr.heap.size wr)
      have KD := Lib.hid (HJ.out.keep hbd)
      clear hbd hz1 hz2
      obtain ⟨p0, p1, -, -⟩ := KD.out.2.1.two
      go_wp2_with fail
      refine (HN1.out _).mono ?_; rintro e w2 ⟨rfl, rfl⟩
      go_wp2_with fail
      refine (HN2.out _).mono ?_; rintro e w3 ⟨rfl, rfl⟩
      clear p0 p1
      go_wp2_with fail
      refine wp_region_held_drew (S := fun _ => True) (by kernel_rfl) trivial (fun hHeld => ?_)
      (refine wpAnyH_take (i := 1) (v := ?_) rfl (by kernel_rfl) (by kernel_rfl) (by kernel_rfl) (fun _ _ _ h => h) (Or.inl ⟨by kernel_rfl, ?_⟩) (by assumption) ?_; rotate_left; focus (intro w hSw; (try dsimp only at hSw); go_simp; try with_reducible rfl); (try simp only [List.getElem_toArray, List.getElem_cons_succ, List.getElem_cons_zero, Act.put, List.setIfInBounds_toArray, List.set_cons_zero, List.set_cons_succ])); (refine wpAnyH_take (i := 2) (v := ?_) rfl (by kernel_rfl) (by kernel_rfl) (by kernel_rfl) (fun _ _ _ h => h) (Or.inl ⟨by kernel_rfl, ?_⟩) (by assumption) ?_; rotate_left; focus (intro w hSw; (try dsimp only at hSw); go_simp; try with_reducible rfl); (try simp only [List.getElem_toArray, List.getElem_cons_succ, List.getElem_cons_zero, Act.put, List.setIfInBounds_toArray, List.set_cons_zero, List.set_cons_succ])); (refine wpAnyH_take (i := 3) (v := ?_) rfl (by kernel_rfl) (by kernel_rfl) (by kernel_rfl) (fun _ _ _ h => h) (Or.inl ⟨by kernel_rfl, ?_⟩) (by assumption) ?_; rotate_left; focus (intro w hSw; (try dsimp only at hSw); go_simp; try with_reducible rfl); (try simp only [List.getElem_toArray, List.getElem_cons_succ, List.getElem_cons_zero, Act.put, List.setIfInBounds_toArray, List.set_cons_zero, List.set_cons_succ])); (refine wpAnyH_take (i := 4) (v := ?_) rfl (by kernel_rfl) (by kernel_rfl) (by kernel_rfl) (fun _ _ _ h => h) (Or.inl ⟨by kernel_rfl, ?_⟩) (by assumption) ?_; rotate_left; focus (intro w hSw; (try dsimp only at hSw); go_simp; try with_reducible rfl); (try simp only [List.getElem_toArray, List.getElem_cons_succ, List.getElem_cons_zero, Act.put, List.setIfInBounds_toArray, List.set_cons_zero, List.set_cons_succ]))
      clear hHeld
      refine wpAnyH_ready (rs := [0, 5]) (by kernel_rfl) (by simp) (AllReadyH.cons rfl (fun K hK => ?_) (AllReadyH.cons rfl (fun K hK => ?_) AllReadyH.nil))
      · obtain ⟨p0, p1, -, -⟩ := KD.out.2.1.two
        go_simp
        clear p0 p1
        first
          | refine hK.out _ _ trivial (fun hHeld => ?_)
          | refine hK _ _ trivial (fun hHeld => ?_)
        clear hK K
        (try simp only [List.getElem_toArray, List.getElem_cons_succ, List.getElem_cons_zero, Act.put, List.setIfInBounds_toArray, List.set_cons_zero, List.set_cons_succ])
        clear hHeld
        refine wpAnyH_ready (rs := [5]) (by kernel_rfl) (by simp) ?_; refine AllReadyH.cons rfl (fun K hK => ?_) AllReadyH.nil
        go_simp
        go_at_call 57
        refine (HCFK.out _ KD.out.2.2.2.1).mono ?_; rintro e w5 ⟨rfl, b5⟩
        have K5 := Lib.hid (KD.out.keep b5); clear b5
        go_wp2_with fail
        first
          | refine hK.out _ _ trivial (fun hHeld => ?_)
          | refine hK _ _ trivial (fun hHeld => ?_)
        clear hK K
        (try simp only [List.getElem_toArray, List.getElem_cons_succ, List.getElem_cons_zero, Act.put, List.setIfInBounds_toArray, List.set_cons_zero, List.set_cons_succ])
        clear hHeld
        refine wpAnyH_ready (rs := [6]) (by kernel_rfl) (by simp) ?_; refine AllReadyH.cons rfl (fun K hK => ?_) AllReadyH.nil
        go_simp
        go_at_call 56
        obtain ⟨a7, c7, he7, hc7, hrd7, -⟩ := own_cap K5.out.2.2.1
        injection he7 with x1 x2 x3
        subst x1 x3
        refine (with_any (s.size : Int) (mkAll s seed k) a c' kd A T w5 (by have := HST.out.2; omega) hc7 hrd7).mono ?_; rintro e w6 ⟨a8, c8, rfl, o8, b8⟩
        have K6 := Lib.hid (And.intro (K5.out.keep b8) (owns_mono o8 K5.out.2.2.2.1.size)); clear b8 o8 hc7 hrd7 x2
        go_wp2_with fail
        first
          | refine hK.out _ _ trivial (fun hHeld => ?_)
          | refine hK _ _ trivial (fun hHeld => ?_)
        clear hK K
        (try simp only [List.getElem_toArray, List.getElem_cons_succ, List.getElem_cons_zero, Act.put, List.setIfInBounds_toArray, List.set_cons_zero, List.set_cons_succ])
        clear hHeld
        have he9 : mkAll s seed (k + 1) = mkAll s seed k ++ [((kd : Int), A, T)] := by rw [HST.out.1, HMC.out]
        have hl9 : (mkAll s seed (k + 1)).length = (mkAll s seed k).length + 1 := by rw [he9, List.length_append]; rfl
        have K7' := K6.out.1.put (m2 := mkAll s seed (k + 1)) (a2 := a8) (c2 := c8) (by rw [hl9, he9]; exact K6.out.2)
        rw [hl9] at K7'
        clear hl9 he9
        obtain ⟨z0, z1, f0, f1⟩ := K6.out.1.2.1.two
        have K7 := Lib.hid K7'; clear K7'
        refine wpAnyH_ready (rs := [7]) (by kernel_rfl) (by simp) ?_; refine AllReadyH.cons rfl (fun K hK => ?_) AllReadyH.nil
        go_simp
        clear z0 z1 f0 f1
        first
          | refine hK.out _ _ trivial (fun hHeld => ?_)
          | refine hK _ _ trivial (fun hHeld => ?_)
        clear hK K
        (try simp only [List.getElem_toArray, List.getElem_cons_succ, List.getElem_cons_zero, Act.put, List.setIfInBounds_toArray, List.set_cons_zero, List.set_cons_succ])
        clear hHeld
        refine wpAnyH_done (by kernel_rfl) ?_ _
        (try simp only [List.getElem_toArray, List.getElem_cons_succ, List.getElem_cons_zero, Act.put, List.setIfInBounds_toArray, List.set_cons_zero, List.set_cons_succ])
        go_wp2_with fail
        go_roundw
        case rel => exact ⟨k + 1, a8, c8, by go_num, by omega, by rw [HZS.out], K7⟩
        case measure => simp [intOf]; omega
      · skip
        go_simp
        go_at_call 57
        refine (HCFK.out _ KD.out.2.2.2.1).mono ?_; rintro e w5 ⟨rfl, b5⟩
        have K5 := Lib.hid (KD.out.keep b5); clear b5
        go_wp2_with fail
        first
          | refine hK.out _ _ trivial (fun hHeld => ?_)
          | refine hK _ _ trivial (fun hHeld => ?_)
        clear hK K
        (try simp only [List.getElem_toArray, List.getElem_cons_succ, List.getElem_cons_zero, Act.put, List.setIfInBounds_toArray, List.set_cons_zero, List.set_cons_succ])
        clear hHeld
        refine wpAnyH_ready (rs := [0]) (by kernel_rfl) (by simp) ?_; refine AllReadyH.cons rfl (fun K hK => ?_) AllReadyH.nil
        obtain ⟨p0, p1, -, -⟩ := K5.out.2.1.two
        go_simp
        clear p0 p1
        first
          | refine hK.out _ _ trivial (fun hHeld => ?_)
          | refine hK _ _ trivial (fun hHeld => ?_)
        clear hK K
        (try simp only [List.getElem_toArray, List.getElem_cons_succ, List.getElem_cons_zero, Act.put, List.setIfInBounds_toArray, List.set_cons_zero, List.set_cons_succ])
        clear hHeld
        refine wpAnyH_ready (rs := [6]) (by kernel_rfl) (by simp) ?_; refine AllReadyH.cons rfl (fun K hK => ?_) AllReadyH.nil
        go_simp
        go_at_call 56
        obtain ⟨a7, c7, he7, hc7, hrd7, -⟩ := own_cap K5.out.2.2.1
        injection he7 with x1 x2 x3
        subst x1 x3
        refine (with_any (s.size : Int) (mkAll s seed k) a c' kd A T w5 (by have := HST.out.2; omega) hc7 hrd7).mono ?_; rintro e w6 ⟨a8, c8, rfl, o8, b8⟩
        have K6 := Lib.hid (And.intro (K5.out.keep b8) (owns_mono o8 K5.out.2.2.2.1.size)); clear b8 o8 hc7 hrd7 x2
        go_wp2_with fail
        first
          | refine hK.out _ _ trivial (fun hHeld => ?_)
          | refine hK _ _ trivial (fun hHeld => ?_)
        clear hK K
        (try simp only [List.getElem_toArray, List.getElem_cons_succ, List.getElem_cons_zero, Act.put, List.setIfInBounds_toArray, List.set_cons_zero, List.set_cons_succ])
        clear hHeld
        have he9 : mkAll s seed (k + 1) = mkAll s seed k ++ [((kd : Int), A, T)] := by rw [HST.out.1, HMC.out]
        have hl9 : (mkAll s seed (k + 1)).length = (mkAll s seed k).length + 1 := by rw [he9, List.length_append]; rfl
        have K7' := K6.out.1.put (m2 := mkAll s seed (k + 1)) (a2 := a8) (c2 := c8) (by rw [hl9, he9]; exact K6.out.2)
        rw [hl9] at K7'
        clear hl9 he9
        obtain ⟨z0, z1, f0, f1⟩ := K6.out.1.2.1.two
        have K7 := Lib.hid K7'; clear K7'
        refine wpAnyH_ready (rs := [7]) (by kernel_rfl) (by simp) ?_; refine AllReadyH.cons rfl (fun K hK => ?_) AllReadyH.nil
        go_simp
        clear z0 z1 f0 f1
        first
          | refine hK.out _ _ trivial (fun hHeld => ?_)
          | refine hK _ _ trivial (fun hHeld => ?_)
        clear hK K
        (try simp only [List.getElem_toArray, List.getElem_cons_succ, List.getElem_cons_zero, Act.put, List.setIfInBounds_toArray, List.set_cons_zero, List.set_cons_succ])
        clear hHeld
        refine wpAnyH_done (by kernel_rfl) ?_ _
        (try simp only [List.getElem_toArray, List.getElem_cons_succ, List.getElem_cons_zero, Act.put, List.setIfInBounds_toArray, List.set_cons_zero, List.set_cons_succ])
        go_wp2_with fail
        go_roundw
        case rel => exact ⟨k + 1, a8, c8, by go_num, by omega, by rw [HZS.out], K7⟩
        case measure => simp [intOf]; omega
    · obtain rfl : k = cn := by omega
      obtain ⟨z0, z1, f0, f1⟩ := HJ.out.1.two
      obtain ⟨p0, p1, -, -⟩ := HJ.out.2.1.two
      have HF := Lib.hid (HJ.out.res (.int .i64 s.size) (.slice a (mkAll s seed k).length c'))
      obtain ⟨r0, r1, -, -⟩ := HF.out.2.2.two
      go_wp2_with fail
      refine bodyPost_ret (v := .tuple #[.agg #[.int .i64 s.size, .slice a (mkAll s seed k).length c'], .bool true]) ?_ rfl ⟨a, c', rfl, HF.out.1, HF.out.2.1⟩
      simp [results, Tryd.results14, go_sem, *]


theorem MkI.putS {w : World} {n g : Nat} {m m2 : List Cl} {a a2 : Option Addr} {c' c2 : Nat} {wr w2 : World} (h : ObAt w2 w.heap.size 24 #[.int .i64 0, .slice none 0 0] ∧ ObAt w2 g 24 #[.int .i64 n, .slice a m.length c'] ∧ Below w.heap.size w w2 ∧ w.heap.size < g) (ho : w2.ownsRow w.heap.size 75 3 (.slice a2 m2.length c2) m2.length (clus m2)) :
    MkI w n g m2 a2 c2 (w2.setCell ⟨g, 1, none⟩ (.slice a2 m2.length c2)) := by
  obtain ⟨h1, h3, h4, h5⟩ := h
  refine ⟨h1.other (by omega) _, h3.put 1 _, owns_heap ho (fun b e => ?_), h4.setCell (p := ⟨g, 1, none⟩) (by simp only; omega) _, h5⟩
  have hne : b ≠ g := by
    intro e2
    subst e2
    exact owns_apart (T := 24) (fr := (0, 0)) h3 (by decide) ho e
  rw [Below.heap_setCell _ _ _ _ hne]
/-- One clue more behind a row, with what is known of the world (in a region that draws its order). -/
theorem wp_append_one {w : World} {o : Oper} {a : Act} {K : Act → World → Prop} {Q : Exit → Act → World → Prop} (s x : Operand)
    (ho : o.op = .call { callee := .builtin .append, args := #[s, x], argTypes := #[22, 22] })
    (B : Nat) (v : Value) (m : List Cl) (y : Cl) (ad : Addr) (c : Nat) (hs : a.eval s = v) (hx : a.eval x = .slice (some ad) 1 c)
    (hown : w.ownsRow B 75 3 v m.length (clus m)) (hy : ∀ j u, (clus [y])[j]? = some u → w.cell? (ad.add j) = some u) (hB : B ≤ w.heap.size) (hsz : m.length ≤ 1000)
    (h : ∀ v' w', w'.ownsRow B 75 3 v' (m.length + 1) (clus (m ++ [y])) → w.grownBy w' v.ownBlock → K (a.put o.dst v') w') :
    o.wp Tryd.prog a w K Q := by
  obtain ⟨i0, hi, hz0, hz1, hz2⟩ := info_parts infoClue
  obtain ⟨v', w', hrun, h2, h3, h4, h5⟩ := run_append_own_at (P := Tryd.prog) w B 22 o.type 75 i0 (.agg #[.int .i64 0, .int .i64 0, .int .i64 0]) 3 24 Tryd.underlying22 hi hz0 hz1 hz2 rfl (by decide) v m.length (clus m) hown ad 1 c (clus [y]) (by rw [clus_len]; simp) hy clus_one (by unfold maxLen; omega) (by omega) hB
  exact Lib.wp_append_run w s x _ _ ho v _ hs hx v' w' hrun (h v' w' (by rw [clus_append]; exact h2) h3)

set_option maxHeartbeats 800000 in
set_option maxRecDepth 100000 in
theorem specMakeOk_any (s : ByteArray) (cn seed : Nat) (w : World) (h : hidB s = true) (hc : cn ≤ 6) (hse : seed ≤ 9999) :
    Calls Tryd.prog 13 #[.string s, .int .i64 cn, .int .i64 seed] w fun e w' => PzR s.size (mkAll s seed cn) true w e w' := by
  have hn := (hidB_iff.1 h).1
  have HH := Lib.hid (fun W => pzHidden_any s W (by omega))
  rw [h] at HH
  have HCF := Lib.hid (fun k y W (hk : k < 6) (hy : y ≤ 1000000) => pzOf_any k y s W hk hy h); clear h
  have HZ := Lib.hid (fun k => zAt_bd hse k)
  have R0 := Lib.hid (And.intro (ObAt.new w 24 #[.int .i64 0, .slice none 0 0]) (Below.ofNew (w := w) (.cells #[.int .i64 0, .slice none 0 0] 24)))
  have i1 : inP (cn : Int) 0 6 = true := inP_iff.2 (by omega)
  have i2 : inP (seed : Int) 0 9999 = true := inP_iff.2 (by omega)
  have HI1 := Lib.hid i1
  have HI2 := Lib.hid i2
  clear i1 i2
  have HMS := Lib.hid (fun k => And.intro (mkAll_succ s seed k) (mkAll_len s seed k))
  go_enter Tryd.func13, Tryd.ntmps13
  go_wp2_with fail
  refine (HH.out _).mono ?_; rintro e w1 ⟨rfl, b1⟩
  have R1 := Lib.hid (And.intro (R0.out.1.keep b1) (R0.out.2.trans (b1.mono R0.out.2.size))); clear R0 b1
  go_wp2_with fail
  refine (l1In_pz _ _ _ _).mono ?_; rintro e w2 ⟨rfl, rfl⟩
  rw [HI1.out]
  go_wp2_with fail
  refine (l1In_pz _ _ _ _).mono ?_; rintro e wZ ⟨rfl, rfl⟩
  rw [HI2.out]
  have bn := Below.ofNew (w := w1) (.cells #[.int .i64 s.size, .slice none 0 0] 24)
  have I0 : Hid (MkI w s.size w1.heap.size (mkAll s seed 0) none 0 (w1.alloc (.cells #[.int .i64 s.size, .slice none 0 0] 24))) :=
    ⟨R1.out.1.keep bn, ObAt.new _ _ _, owns_nil3 _ _ _, R1.out.2.trans (bn.mono R1.out.2.size), R1.out.1.lt⟩
  clear bn R1
  go_wp2_with fail
  generalize w1.heap.size = g at *
  go_loopw [1, 9] (fun i z wq => ∃ (k : Nat) (a : Option Addr) (c' : Nat), i = .int .i64 ((cn : Int) - k) ∧ k ≤ cn ∧ z = .int .i64 (zAt seed k) ∧ Hid (MkI w s.size g (mkAll s seed k) a c' wq)) (fun i _ _ => (intOf i).toNat)
  case atStart => exact ⟨0, none, 0, by simp, Nat.zero_le _, rfl, I0.out⟩
  case round =>
    clear I0
    obtain ⟨k, a, c', rfl, hk, rfl, HJ⟩ := hrel
    by_cases hlt : k < cn
    · have b2 : (0 : Int) < (cn : Int) - k := by omega
      have b2b : (k : Int) < (cn : Int) := by omega
      have hz := HZ.out k
      have HST := Lib.hid (HMS.out k)
      have HZS : Hid (zAt seed (k + 1) = nextZ (nextZ (zAt seed k))) := rfl
      have HMC : Hid (mkC s (zAt seed k) = (((nextZ (zAt seed k) % 6 : Nat) : Int), ((mkA (nextZ (zAt seed k) % 6) (nextZ (nextZ (zAt seed k))) s.size : Nat) : Int), tellK ((nextZ (zAt seed k) % 6 : Nat) : Int) ((mkA (nextZ (zAt seed k) % 6) (nextZ (nextZ (zAt seed k))) s.size : Nat) : Int) s)) := rfl
      generalize zAt seed k = z at *
      have hz1 := nextZ_lt z
      have hz2 := nextZ_lt (nextZ z)
      have HN1 := Lib.hid (fun W => pzNext_any z W (by omega))
      have HN2 := Lib.hid (fun W => pzNext_any (nextZ z) W (by omega))
      generalize hz3 : nextZ (nextZ z) = y at *
      generalize hz4 : nextZ z = x at *
      have hm : x % 6 < 6 := Nat.mod_lt _ (by decide)
      have e1 : (x : Int).tmod 6 = ((x % 6 : Nat) : Int) := by rw [Int.tmod_eq_emod_of_nonneg (by omega)]; omega
      have e2 : (x : Int) % 6 = ((x % 6 : Nat) : Int) := by omega
      have HCFK := Lib.hid (HCF.out (x % 6) y wr.drew hm (by omega))
      generalize x % 6 = kd at *
      generalize tellK (kd : Int) (mkA kd y s.size : Int) s = T at *
      generalize ((mkA kd y s.size : Nat) : Int) = A at *
      have hbd := Below.drew (Below.refl wr.heap.size wr)
      have KD := Lib.hid (HJ.out.keep hbd)
      clear hbd hz1 hz2
      go_wp2_with fail
      refine (HN1.out _).mono ?_; rintro e w4 ⟨rfl, rfl⟩
      go_wp2_with fail
      refine (HN2.out _).mono ?_; rintro e w4 ⟨rfl, rfl⟩
      go_wp2_with fail
      refine wp_region_held_drew (S := fun _ => True) (by kernel_rfl) trivial (fun hHeld => ?_)
      (refine wpAnyH_take (i := 0) (v := ?_) rfl (by kernel_rfl) (by kernel_rfl) (by kernel_rfl) (fun _ _ _ h => h) (Or.inl ⟨by kernel_rfl, ?_⟩) (by assumption) ?_; rotate_left; focus (intro w hSw; (try dsimp only at hSw); go_simp; try with_reducible rfl); (try simp only [List.getElem_toArray, List.getElem_cons_succ, List.getElem_cons_zero, Act.put, List.setIfInBounds_toArray, List.set_cons_zero, List.set_cons_succ])); (refine wpAnyH_take (i := 2) (v := ?_) rfl (by kernel_rfl) (by kernel_rfl) (by kernel_rfl) (fun _ _ _ h => h) (Or.inl ⟨by kernel_rfl, ?_⟩) (by assumption) ?_; rotate_left; focus (intro w hSw; (try dsimp only at hSw); go_simp; try with_reducible rfl); (try simp only [List.getElem_toArray, List.getElem_cons_succ, List.getElem_cons_zero, Act.put, List.setIfInBounds_toArray, List.set_cons_zero, List.set_cons_succ])); (refine wpAnyH_take (i := 3) (v := ?_) rfl (by kernel_rfl) (by kernel_rfl) (by kernel_rfl) (fun _ _ _ h => h) (Or.inl ⟨by kernel_rfl, ?_⟩) (by assumption) ?_; rotate_left; focus (intro w hSw; (try dsimp only at hSw); go_simp; try with_reducible rfl); (try simp only [List.getElem_toArray, List.getElem_cons_succ, List.getElem_cons_zero, Act.put, List.setIfInBounds_toArray, List.set_cons_zero, List.set_cons_succ])); (refine wpAnyH_take (i := 4) (v := ?_) rfl (by kernel_rfl) (by kernel_rfl) (by kernel_rfl) (fun _ _ _ h => h) (Or.inl ⟨by kernel_rfl, ?_⟩) (by assumption) ?_; rotate_left; focus (intro w hSw; (try dsimp only at hSw); go_simp; try with_reducible rfl); (try simp only [List.getElem_toArray, List.getElem_cons_succ, List.getElem_cons_zero, Act.put, List.setIfInBounds_toArray, List.set_cons_zero, List.set_cons_succ]))
      clear hHeld
      refine wpAnyH_ready (rs := [1, 5]) (by kernel_rfl) (by simp) (AllReadyH.cons rfl (fun K hK => ?_) (AllReadyH.cons rfl (fun K hK => ?_) AllReadyH.nil))
      · obtain ⟨p0, p1, -, -⟩ := KD.out.2.1.two
        go_simp
        clear p0 p1
        first
          | refine hK.out _ _ trivial (fun hHeld => ?_)
          | refine hK _ _ trivial (fun hHeld => ?_)
        clear hK K
        (try simp only [List.getElem_toArray, List.getElem_cons_succ, List.getElem_cons_zero, Act.put, List.setIfInBounds_toArray, List.set_cons_zero, List.set_cons_succ])
        clear hHeld
        refine wpAnyH_ready (rs := [5]) (by kernel_rfl) (by simp) ?_; refine AllReadyH.cons rfl (fun K hK => ?_) AllReadyH.nil
        go_simp
        go_at_call 53
        refine HCFK.out.mono ?_; rintro e w5 ⟨rfl, b5⟩
        have K5 := Lib.hid (KD.out.keep b5); clear b5
        go_wp2_with fail
        first
          | refine hK.out _ _ trivial (fun hHeld => ?_)
          | refine hK _ _ trivial (fun hHeld => ?_)
        clear hK K
        (try simp only [List.getElem_toArray, List.getElem_cons_succ, List.getElem_cons_zero, Act.put, List.setIfInBounds_toArray, List.set_cons_zero, List.set_cons_succ])
        clear hHeld
        have bn := Below.ofNew (w := w5) (.cells #[.int .i64 kd, .int .i64 A, .int .i64 T] 75)
        have K6 := Lib.hid (And.intro (K5.out.keep bn) (And.intro (one_cells (ObAt.new w5 75 #[.int .i64 kd, .int .i64 A, .int .i64 T])) (Nat.le_trans K5.out.2.2.2.1.size bn.size))); clear bn
        refine wpAnyH_ready (rs := [6]) (by kernel_rfl) (by simp) ?_; refine AllReadyH.cons rfl (fun K hK => ?_) AllReadyH.nil
        go_simp
        first
          | refine hK.out _ _ trivial (fun hHeld => ?_)
          | refine hK _ _ trivial (fun hHeld => ?_)
        clear hK K
        (try simp only [List.getElem_toArray, List.getElem_cons_succ, List.getElem_cons_zero, Act.put, List.setIfInBounds_toArray, List.set_cons_zero, List.set_cons_succ])
        clear hHeld
        refine wpAnyH_ready (rs := [7]) (by kernel_rfl) (by simp) ?_; refine AllReadyH.cons rfl (fun K hK => ?_) AllReadyH.nil
        refine wp_append_one _ _ rfl w.heap.size _ (mkAll s seed k) ((kd : Int), A, T) ⟨w5.heap.size, 0, none⟩ 1 rfl rfl K6.out.1.2.2.1 K6.out.2.1 K6.out.2.2 (by have := HST.out.2; omega) ?_
        intro v' w7 h7 g7
        have K7 := Lib.hid (And.intro (K6.out.1.1.grow (by decide) K6.out.1.2.2.1 g7) (And.intro (K6.out.1.2.1.grow (by decide) K6.out.1.2.2.1 g7) (K6.out.1.2.2.2.1.grown g7 K6.out.2.2 (fun b e => (owns_ge K6.out.1.2.2.1 e).1))))
        obtain ⟨a8, c8, rfl, -, -, -⟩ := own_cap h7
        clear g7
        first
          | refine hK.out _ _ trivial (fun hHeld => ?_)
          | refine hK _ _ trivial (fun hHeld => ?_)
        clear hK K
        (try simp only [List.getElem_toArray, List.getElem_cons_succ, List.getElem_cons_zero, Act.put, List.setIfInBounds_toArray, List.set_cons_zero, List.set_cons_succ])
        clear hHeld
        have he9 : mkAll s seed (k + 1) = mkAll s seed k ++ [((kd : Int), A, T)] := by rw [HST.out.1, HMC.out]
        have hl9 : (mkAll s seed (k + 1)).length = (mkAll s seed k).length + 1 := by rw [he9, List.length_append]; rfl
        have K9' := MkI.putS (wr := w7) (m2 := mkAll s seed (k + 1)) (a2 := a8) (c2 := c8) ⟨K7.out.1, K7.out.2.1, K7.out.2.2, K6.out.1.2.2.2.2⟩ (by rw [hl9, he9]; exact h7)
        rw [hl9] at K9'
        clear hl9 he9 h7
        obtain ⟨z0, z1, f0, f1⟩ := K7.out.2.1.two
        have K9 := Lib.hid K9'; clear K9'
        have hHeld : True := trivial
        (refine wpAnyH_take (i := 8) (v := ?_) rfl (by kernel_rfl) (by kernel_rfl) (by kernel_rfl) (fun _ _ _ h => h) (Or.inl ⟨by kernel_rfl, ?_⟩) (by assumption) ?_; rotate_left; focus (intro w hSw; (try dsimp only at hSw); go_simp; try with_reducible rfl); (try simp only [List.getElem_toArray, List.getElem_cons_succ, List.getElem_cons_zero, Act.put, List.setIfInBounds_toArray, List.set_cons_zero, List.set_cons_succ]))
        refine wpAnyH_ready (rs := [9]) (by kernel_rfl) (by simp) ?_; refine AllReadyH.cons rfl (fun K hK => ?_) AllReadyH.nil
        go_simp
        clear z0 z1 f0 f1
        first
          | refine hK.out _ _ trivial (fun hHeld => ?_)
          | refine hK _ _ trivial (fun hHeld => ?_)
        clear hK K
        (try simp only [List.getElem_toArray, List.getElem_cons_succ, List.getElem_cons_zero, Act.put, List.setIfInBounds_toArray, List.set_cons_zero, List.set_cons_succ])
        clear hHeld
        refine wpAnyH_done (by kernel_rfl) ?_ _
        (try simp only [List.getElem_toArray, List.getElem_cons_succ, List.getElem_cons_zero, Act.put, List.setIfInBounds_toArray, List.set_cons_zero, List.set_cons_succ])
        go_wp2_with fail
        go_roundw
        case rel => exact ⟨k + 1, a8, c8, by go_num, by omega, by rw [HZS.out], K9⟩
        case measure => simp [intOf]; omega
      · skip
        go_simp
        go_at_call 53
        refine HCFK.out.mono ?_; rintro e w5 ⟨rfl, b5⟩
        have K5 := Lib.hid (KD.out.keep b5); clear b5
        go_wp2_with fail
        first
          | refine hK.out _ _ trivial (fun hHeld => ?_)
          | refine hK _ _ trivial (fun hHeld => ?_)
        clear hK K
        (try simp only [List.getElem_toArray, List.getElem_cons_succ, List.getElem_cons_zero, Act.put, List.setIfInBounds_toArray, List.set_cons_zero, List.set_cons_succ])
        clear hHeld
        refine wpAnyH_ready (rs := [1, 6]) (by kernel_rfl) (by simp) (AllReadyH.cons rfl (fun K hK => ?_) (AllReadyH.cons rfl (fun K hK => ?_) AllReadyH.nil))
        · skip
          obtain ⟨p0, p1, -, -⟩ := K5.out.2.1.two
          go_simp
          clear p0 p1
          first
            | refine hK.out _ _ trivial (fun hHeld => ?_)
            | refine hK _ _ trivial (fun hHeld => ?_)
          clear hK K
          (try simp only [List.getElem_toArray, List.getElem_cons_succ, List.getElem_cons_zero, Act.put, List.setIfInBounds_toArray, List.set_cons_zero, List.set_cons_succ])
          clear hHeld
          have bn := Below.ofNew (w := w5) (.cells #[.int .i64 kd, .int .i64 A, .int .i64 T] 75)
          have K6 := Lib.hid (And.intro (K5.out.keep bn) (And.intro (one_cells (ObAt.new w5 75 #[.int .i64 kd, .int .i64 A, .int .i64 T])) (Nat.le_trans K5.out.2.2.2.1.size bn.size))); clear bn
          refine wpAnyH_ready (rs := [6]) (by kernel_rfl) (by simp) ?_; refine AllReadyH.cons rfl (fun K hK => ?_) AllReadyH.nil
          go_simp
          first
            | refine hK.out _ _ trivial (fun hHeld => ?_)
            | refine hK _ _ trivial (fun hHeld => ?_)
          clear hK K
          (try simp only [List.getElem_toArray, List.getElem_cons_succ, List.getElem_cons_zero, Act.put, List.setIfInBounds_toArray, List.set_cons_zero, List.set_cons_succ])
          clear hHeld
          refine wpAnyH_ready (rs := [7]) (by kernel_rfl) (by simp) ?_; refine AllReadyH.cons rfl (fun K hK => ?_) AllReadyH.nil
          refine wp_append_one _ _ rfl w.heap.size _ (mkAll s seed k) ((kd : Int), A, T) ⟨w5.heap.size, 0, none⟩ 1 rfl rfl K6.out.1.2.2.1 K6.out.2.1 K6.out.2.2 (by have := HST.out.2; omega) ?_
          intro v' w7 h7 g7
          have K7 := Lib.hid (And.intro (K6.out.1.1.grow (by decide) K6.out.1.2.2.1 g7) (And.intro (K6.out.1.2.1.grow (by decide) K6.out.1.2.2.1 g7) (K6.out.1.2.2.2.1.grown g7 K6.out.2.2 (fun b e => (owns_ge K6.out.1.2.2.1 e).1))))
          obtain ⟨a8, c8, rfl, -, -, -⟩ := own_cap h7
          clear g7
          first
            | refine hK.out _ _ trivial (fun hHeld => ?_)
            | refine hK _ _ trivial (fun hHeld => ?_)
          clear hK K
          (try simp only [List.getElem_toArray, List.getElem_cons_succ, List.getElem_cons_zero, Act.put, List.setIfInBounds_toArray, List.set_cons_zero, List.set_cons_succ])
          clear hHeld
          have he9 : mkAll s seed (k + 1) = mkAll s seed k ++ [((kd : Int), A, T)] := by rw [HST.out.1, HMC.out]
          have hl9 : (mkAll s seed (k + 1)).length = (mkAll s seed k).length + 1 := by rw [he9, List.length_append]; rfl
          have K9' := MkI.putS (wr := w7) (m2 := mkAll s seed (k + 1)) (a2 := a8) (c2 := c8) ⟨K7.out.1, K7.out.2.1, K7.out.2.2, K6.out.1.2.2.2.2⟩ (by rw [hl9, he9]; exact h7)
          rw [hl9] at K9'
          clear hl9 he9 h7
          obtain ⟨z0, z1, f0, f1⟩ := K7.out.2.1.two
          have K9 := Lib.hid K9'; clear K9'
          have hHeld : True := trivial
          (refine wpAnyH_take (i := 8) (v := ?_) rfl (by kernel_rfl) (by kernel_rfl) (by kernel_rfl) (fun _ _ _ h => h) (Or.inl ⟨by kernel_rfl, ?_⟩) (by assumption) ?_; rotate_left; focus (intro w hSw; (try dsimp only at hSw); go_simp; try with_reducible rfl); (try simp only [List.getElem_toArray, List.getElem_cons_succ, List.getElem_cons_zero, Act.put, List.setIfInBounds_toArray, List.set_cons_zero, List.set_cons_succ]))
          refine wpAnyH_ready (rs := [9]) (by kernel_rfl) (by simp) ?_; refine AllReadyH.cons rfl (fun K hK => ?_) AllReadyH.nil
          go_simp
          clear z0 z1 f0 f1
          first
            | refine hK.out _ _ trivial (fun hHeld => ?_)
            | refine hK _ _ trivial (fun hHeld => ?_)
          clear hK K
          (try simp only [List.getElem_toArray, List.getElem_cons_succ, List.getElem_cons_zero, Act.put, List.setIfInBounds_toArray, List.set_cons_zero, List.set_cons_succ])
          clear hHeld
          refine wpAnyH_done (by kernel_rfl) ?_ _
          (try simp only [List.getElem_toArray, List.getElem_cons_succ, List.getElem_cons_zero, Act.put, List.setIfInBounds_toArray, List.set_cons_zero, List.set_cons_succ])
          go_wp2_with fail
          go_roundw
          case rel => exact ⟨k + 1, a8, c8, by go_num, by omega, by rw [HZS.out], K9⟩
          case measure => simp [intOf]; omega
        · skip
          have bn := Below.ofNew (w := w5) (.cells #[.int .i64 kd, .int .i64 A, .int .i64 T] 75)
          have K6 := Lib.hid (And.intro (K5.out.keep bn) (And.intro (one_cells (ObAt.new w5 75 #[.int .i64 kd, .int .i64 A, .int .i64 T])) (Nat.le_trans K5.out.2.2.2.1.size bn.size))); clear bn
          go_simp
          first
            | refine hK.out _ _ trivial (fun hHeld => ?_)
            | refine hK _ _ trivial (fun hHeld => ?_)
          clear hK K
          (try simp only [List.getElem_toArray, List.getElem_cons_succ, List.getElem_cons_zero, Act.put, List.setIfInBounds_toArray, List.set_cons_zero, List.set_cons_succ])
          clear hHeld
          refine wpAnyH_ready (rs := [1]) (by kernel_rfl) (by simp) ?_; refine AllReadyH.cons rfl (fun K hK => ?_) AllReadyH.nil
          obtain ⟨p0, p1, -, -⟩ := K6.out.1.2.1.two
          go_simp
          clear p0 p1
          first
            | refine hK.out _ _ trivial (fun hHeld => ?_)
            | refine hK _ _ trivial (fun hHeld => ?_)
          clear hK K
          (try simp only [List.getElem_toArray, List.getElem_cons_succ, List.getElem_cons_zero, Act.put, List.setIfInBounds_toArray, List.set_cons_zero, List.set_cons_succ])
          clear hHeld
          refine wpAnyH_ready (rs := [7]) (by kernel_rfl) (by simp) ?_; refine AllReadyH.cons rfl (fun K hK => ?_) AllReadyH.nil
          refine wp_append_one _ _ rfl w.heap.size _ (mkAll s seed k) ((kd : Int), A, T) ⟨w5.heap.size, 0, none⟩ 1 rfl rfl K6.out.1.2.2.1 K6.out.2.1 K6.out.2.2 (by have := HST.out.2; omega) ?_
          intro v' w7 h7 g7
          have K7 := Lib.hid (And.intro (K6.out.1.1.grow (by decide) K6.out.1.2.2.1 g7) (And.intro (K6.out.1.2.1.grow (by decide) K6.out.1.2.2.1 g7) (K6.out.1.2.2.2.1.grown g7 K6.out.2.2 (fun b e => (owns_ge K6.out.1.2.2.1 e).1))))
          obtain ⟨a8, c8, rfl, -, -, -⟩ := own_cap h7
          clear g7
          first
            | refine hK.out _ _ trivial (fun hHeld => ?_)
            | refine hK _ _ trivial (fun hHeld => ?_)
          clear hK K
          (try simp only [List.getElem_toArray, List.getElem_cons_succ, List.getElem_cons_zero, Act.put, List.setIfInBounds_toArray, List.set_cons_zero, List.set_cons_succ])
          clear hHeld
          have he9 : mkAll s seed (k + 1) = mkAll s seed k ++ [((kd : Int), A, T)] := by rw [HST.out.1, HMC.out]
          have hl9 : (mkAll s seed (k + 1)).length = (mkAll s seed k).length + 1 := by rw [he9, List.length_append]; rfl
          have K9' := MkI.putS (wr := w7) (m2 := mkAll s seed (k + 1)) (a2 := a8) (c2 := c8) ⟨K7.out.1, K7.out.2.1, K7.out.2.2, K6.out.1.2.2.2.2⟩ (by rw [hl9, he9]; exact h7)
          rw [hl9] at K9'
          clear hl9 he9 h7
          obtain ⟨z0, z1, f0, f1⟩ := K7.out.2.1.two
          have K9 := Lib.hid K9'; clear K9'
          have hHeld : True := trivial
          (refine wpAnyH_take (i := 8) (v := ?_) rfl (by kernel_rfl) (by kernel_rfl) (by kernel_rfl) (fun _ _ _ h => h) (Or.inl ⟨by kernel_rfl, ?_⟩) (by assumption) ?_; rotate_left; focus (intro w hSw; (try dsimp only at hSw); go_simp; try with_reducible rfl); (try simp only [List.getElem_toArray, List.getElem_cons_succ, List.getElem_cons_zero, Act.put, List.setIfInBounds_toArray, List.set_cons_zero, List.set_cons_succ]))
          refine wpAnyH_ready (rs := [9]) (by kernel_rfl) (by simp) ?_; refine AllReadyH.cons rfl (fun K hK => ?_) AllReadyH.nil
          go_simp
          clear z0 z1 f0 f1
          first
            | refine hK.out _ _ trivial (fun hHeld => ?_)
            | refine hK _ _ trivial (fun hHeld => ?_)
          clear hK K
          (try simp only [List.getElem_toArray, List.getElem_cons_succ, List.getElem_cons_zero, Act.put, List.setIfInBounds_toArray, List.set_cons_zero, List.set_cons_succ])
          clear hHeld
          refine wpAnyH_done (by kernel_rfl) ?_ _
          (try simp only [List.getElem_toArray, List.getElem_cons_succ, List.getElem_cons_zero, Act.put, List.setIfInBounds_toArray, List.set_cons_zero, List.set_cons_succ])
          go_wp2_with fail
          go_roundw
          case rel => exact ⟨k + 1, a8, c8, by go_num, by omega, by rw [HZS.out], K9⟩
          case measure => simp [intOf]; omega
    · obtain rfl : k = cn := by omega
      have b2 : ¬ (0 : Int) < (k : Int) - k := by omega
      obtain ⟨z0, z1, f0, f1⟩ := HJ.out.1.two
      obtain ⟨p0, p1, -, -⟩ := HJ.out.2.1.two
      have HF := Lib.hid (HJ.out.res (.int .i64 s.size) (.slice a (mkAll s seed k).length c'))
      obtain ⟨r0, r1, -, -⟩ := HF.out.2.2.two
      go_wp2_with fail
      refine bodyPost_ret (v := .tuple #[.agg #[.int .i64 s.size, .slice a (mkAll s seed k).length c'], .bool true]) ?_ rfl ⟨a, c', rfl, HF.out.1, HF.out.2.1⟩
      simp [results, Tryd.results13, go_sem, *]


theorem mkOk_iff {s : ByteArray} {c seed : Int} : mkOk s c seed = true ↔ hidB s = true ∧ (0 ≤ c ∧ c ≤ 6) ∧ 0 ≤ seed ∧ seed ≤ 9999 := by
  unfold mkOk; simp
theorem mkOk_not {s : ByteArray} {c seed : Int} (h : mkOk s c seed = false) : hidB s = false ∨ hidB s = true ∧ (c < 0 ∨ (0 ≤ c ∧ 6 < c) ∨ ((0 ≤ c ∧ c ≤ 6) ∧ (seed < 0 ∨ (0 ≤ seed ∧ 9999 < seed)))) := by
  cases hb : hidB s
  · exact .inl rfl
  · refine .inr ⟨rfl, ?_⟩
    have h2 : ¬ mkOk s c seed = true := by simp [h]
    rw [mkOk_iff] at h2
    simp only [hb, true_and] at h2
    omega
theorem MkR.res {w w1 : World} (h : ObAt w1 w.heap.size 24 #[.int .i64 0, .slice none 0 0] ∧ Below w.heap.size w w1) (u0 u1 : Value) : Below w.heap.size w ((w1.setCell ⟨w.heap.size, 0, none⟩ u0).setCell ⟨w.heap.size, 1, none⟩ u1) :=
  (h.2.setCell (p := ⟨w.heap.size, 0, none⟩) (Nat.le_refl _) _).setCell (p := ⟨w.heap.size, 1, none⟩) (Nat.le_refl _) _

set_option maxHeartbeats 800000 in
set_option maxRecDepth 100000 in
theorem implMakeNo_any (s : ByteArray) (c seed : Int) (w : World) (hs : (s.size : Int) ≤ 1048576) (h : mkOk s c seed = false) :
    Calls Tryd.prog 14 #[.string s, .int .i64 c, .int .i64 seed] w fun e w' => PzR 0 [] false w e w' := by
  have HH := Lib.hid (fun W => areHidden_any s W (by omega))
  have R0 := Lib.hid (And.intro (ObAt.new w 24 #[.int .i64 0, .slice none 0 0]) (Below.ofNew (w := w) (.cells #[.int .i64 0, .slice none 0 0] 24)))
  rcases mkOk_not h with hb | ⟨hb, h1 | ⟨h1, h2⟩ | ⟨⟨h1, h2⟩, h3 | ⟨h3, h4⟩⟩⟩
  all_goals
    rw [hb] at HH
    clear hb h
    try (have q1 : ¬ c < 0 := by omega)
    try (have q2 : c > 6 := by omega)
    try (have q2 : ¬ c > 6 := by omega)
    try (have q2b : ¬ 6 < c := by omega)
    try (have q3 : ¬ seed < 0 := by omega)
    go_enter Tryd.func14, Tryd.ntmps14
    go_wp2_with fail
    refine (HH.out _).mono ?_; rintro e w1 ⟨rfl, b1⟩
    have R1 := Lib.hid (And.intro (R0.out.1.keep b1) (R0.out.2.trans (b1.mono R0.out.2.size))); clear b1
    obtain ⟨z0, z1, f0, f1⟩ := R1.out.1.two
    have HF := Lib.hid (fun u0 u1 : Value => MkR.res R1.out u0 u1)
    go_wp2_with fail
    refine bodyPost_ret (v := .tuple #[.agg #[.int .i64 0, .slice none 0 0], .bool false]) ?_ rfl ⟨none, 0, rfl, owns_nil3 _ _ _, HF.out _ _⟩
    simp [results, Tryd.results14, go_sem, *]

set_option maxHeartbeats 800000 in
set_option maxRecDepth 100000 in
theorem specMakeNo_any (s : ByteArray) (c seed : Int) (w : World) (hs : (s.size : Int) ≤ 1048576) (h : mkOk s c seed = false) :
    Calls Tryd.prog 13 #[.string s, .int .i64 c, .int .i64 seed] w fun e w' => PzR 0 [] false w e w' := by
  have HH := Lib.hid (fun W => pzHidden_any s W (by omega))
  have R0 := Lib.hid (And.intro (ObAt.new w 24 #[.int .i64 0, .slice none 0 0]) (Below.ofNew (w := w) (.cells #[.int .i64 0, .slice none 0 0] 24)))
  have hsplit : hidB s = false ∨ hidB s = true ∧ (inP c 0 6 = false ∨ inP c 0 6 = true ∧ inP seed 0 9999 = false) := by
    rcases mkOk_not h with hb | ⟨hb, h1⟩
    · exact .inl hb
    · refine .inr ⟨hb, ?_⟩
      cases e1 : inP c 0 6
      · exact .inl rfl
      · refine .inr ⟨rfl, ?_⟩
        cases e2 : inP seed 0 9999
        · rfl
        · rw [inP_iff] at e1 e2; omega
  clear h
  rcases hsplit with hb | ⟨hb, h1 | ⟨h1, h2⟩⟩
  · rw [hb] at HH
    clear hb
    go_enter Tryd.func13, Tryd.ntmps13
    go_wp2_with fail
    refine (HH.out _).mono ?_; rintro e w1 ⟨rfl, b1⟩
    have R1 := Lib.hid (And.intro (R0.out.1.keep b1) (R0.out.2.trans (b1.mono R0.out.2.size))); clear b1
    obtain ⟨z0, z1, f0, f1⟩ := R1.out.1.two
    have HF := Lib.hid (fun u0 u1 : Value => MkR.res R1.out u0 u1)
    go_wp2_with fail
    refine bodyPost_ret (v := .tuple #[.agg #[.int .i64 0, .slice none 0 0], .bool false]) ?_ rfl ⟨none, 0, rfl, owns_nil3 _ _ _, HF.out _ _⟩
    simp [results, Tryd.results13, go_sem, *]
  · rw [hb] at HH
    clear hb
    have HI1 := Lib.hid h1; clear h1
    go_enter Tryd.func13, Tryd.ntmps13
    go_wp2_with fail
    refine (HH.out _).mono ?_; rintro e w1 ⟨rfl, b1⟩
    have R1 := Lib.hid (And.intro (R0.out.1.keep b1) (R0.out.2.trans (b1.mono R0.out.2.size))); clear b1
    go_wp2_with fail
    refine (l1In_pz _ _ _ _).mono ?_; rintro e w2 ⟨rfl, rfl⟩
    rw [HI1.out]
    obtain ⟨z0, z1, f0, f1⟩ := R1.out.1.two
    have HF := Lib.hid (fun u0 u1 : Value => MkR.res R1.out u0 u1)
    go_wp2_with fail
    refine bodyPost_ret (v := .tuple #[.agg #[.int .i64 0, .slice none 0 0], .bool false]) ?_ rfl ⟨none, 0, rfl, owns_nil3 _ _ _, HF.out _ _⟩
    simp [results, Tryd.results13, go_sem, *]
  · rw [hb] at HH
    clear hb
    have HI1 := Lib.hid h1; clear h1
    have HI2 := Lib.hid h2; clear h2
    go_enter Tryd.func13, Tryd.ntmps13
    go_wp2_with fail
    refine (HH.out _).mono ?_; rintro e w1 ⟨rfl, b1⟩
    have R1 := Lib.hid (And.intro (R0.out.1.keep b1) (R0.out.2.trans (b1.mono R0.out.2.size))); clear b1
    go_wp2_with fail
    refine (l1In_pz _ _ _ _).mono ?_; rintro e w2 ⟨rfl, rfl⟩
    rw [HI1.out]
    go_wp2_with fail
    refine (l1In_pz _ _ _ _).mono ?_; rintro e wZ ⟨rfl, rfl⟩
    rw [HI2.out]
    obtain ⟨z0, z1, f0, f1⟩ := R1.out.1.two
    have HF := Lib.hid (fun u0 u1 : Value => MkR.res R1.out u0 u1)
    go_wp2_with fail
    refine bodyPost_ret (v := .tuple #[.agg #[.int .i64 0, .slice none 0 0], .bool false]) ?_ rfl ⟨none, 0, rfl, owns_nil3 _ _ _, HF.out _ _⟩
    simp [results, Tryd.results13, go_sem, *]

def mkP (s : ByteArray) (c seed : Int) : Int := if mkOk s c seed then s.size else 0
def mkO (s : ByteArray) (c seed : Int) : List Cl := if mkOk s c seed then mkAll s seed.toNat c.toNat else []
theorem mkO_len (s : ByteArray) (c seed : Int) : ((mkO s c seed).length : Int) ≤ 1000 := by
  unfold mkO
  cases h : mkOk s c seed
  · simp
  · obtain ⟨-, ⟨h1, h2⟩, -⟩ := mkOk_iff.1 h
    rw [if_pos rfl, mkAll_len]; omega
theorem implMake_any (s : ByteArray) (c seed : Int) (pe0 pe1 : Addr) (w : World) (hs : (s.size : Int) ≤ 1048576) (hd : PzDoor w pe0 pe1) :
    Calls Tryd.prog 14 #[.string s, .int .i64 c, .int .i64 seed] w fun e w' => PzR (mkP s c seed) (mkO s c seed) (mkOk s c seed) w e w' := by
  cases h : mkOk s c seed
  · have e1 : mkP s c seed = 0 := by unfold mkP; rw [h]; rfl
    have e2 : mkO s c seed = [] := by unfold mkO; rw [h]; rfl
    rw [e1, e2]; exact implMakeNo_any s c seed w hs h
  · have e1 : mkP s c seed = s.size := by unfold mkP; rw [h]; rfl
    have e2 : mkO s c seed = mkAll s seed.toNat c.toNat := by unfold mkO; rw [h]; rfl
    obtain ⟨hb, ⟨h1, h2⟩, h3, h4⟩ := mkOk_iff.1 h
    rw [e1, e2]
    obtain ⟨cn, rfl⟩ : ∃ n : Nat, c = n := ⟨c.toNat, by omega⟩
    obtain ⟨sn, rfl⟩ : ∃ n : Nat, seed = n := ⟨seed.toNat, by omega⟩
    rw [Int.toNat_natCast, Int.toNat_natCast]
    exact implMakeOk_any s cn sn pe0 pe1 w hb (by omega) (by omega) hd
theorem specMake_any (s : ByteArray) (c seed : Int) (w : World) (hs : (s.size : Int) ≤ 1048576) :
    Calls Tryd.prog 13 #[.string s, .int .i64 c, .int .i64 seed] w fun e w' => PzR (mkP s c seed) (mkO s c seed) (mkOk s c seed) w e w' := by
  cases h : mkOk s c seed
  · have e1 : mkP s c seed = 0 := by unfold mkP; rw [h]; rfl
    have e2 : mkO s c seed = [] := by unfold mkO; rw [h]; rfl
    rw [e1, e2]; exact specMakeNo_any s c seed w hs h
  · have e1 : mkP s c seed = s.size := by unfold mkP; rw [h]; rfl
    have e2 : mkO s c seed = mkAll s seed.toNat c.toNat := by unfold mkO; rw [h]; rfl
    obtain ⟨hb, ⟨h1, h2⟩, h3, h4⟩ := mkOk_iff.1 h
    rw [e1, e2]
    obtain ⟨cn, rfl⟩ : ∃ n : Nat, c = n := ⟨c.toNat, by omega⟩
    obtain ⟨sn, rfl⟩ : ∃ n : Nat, seed = n := ⟨seed.toNat, by omega⟩
    rw [Int.toNat_natCast, Int.toNat_natCast]
    exact specMakeOk_any s cn sn w hb (by omega) (by omega)
end Go.Proofs.YtbgdngfjeikheaaDoor
