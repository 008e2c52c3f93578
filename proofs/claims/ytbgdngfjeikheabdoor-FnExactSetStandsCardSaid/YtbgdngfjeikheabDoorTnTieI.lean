/-
  Tennis: how a tie break stands: the program's text.
-/
import Derived.Test.YtbgdngfjeikheabDoorTnTie
import Derived.Test.YtbgdngfjeikheabDoorTnStandI
import Derived.Lib.AppendIntMem
import Derived.Lib.ItoaMem
import Derived.Lib.SmallJoins
namespace Go.Proofs.YtbgdngfjeikheabDoor
open Go.RowKit
set_option linter.unusedVariables false
set_option linter.unusedSimpArgs false

theorem num6_dec : ∀ m : Nat, m < 1000 → Lib.decDigits m = num6 m := by decide +kernel
/-- The library's table of powers of ten, as it is laid. -/
def Tens (w : World) : Prop := Lib.TabIs Tryd.prog w "internal/strconv.uint64pow10" .u64 Lib.pow10Tab
theorem gTens : Tryd.prog.globalNamed "internal/strconv.uint64pow10" = some 4 := by kernel_rfl
theorem Tens.keep {w w' : World} (h : Tens w) (hb : Below w.heap.size w w') : Tens w' := Go.Joins.tab_stays gTens h hb (Nat.le_refl _)
theorem itoa6_any (n : Nat) (hn : n < 1000) (w : World) (ht : Tens w) :
    Calls Tryd.prog 92 #[.int .i64 n] w fun e w' => e = .returned (.string ⟨(num6 n).toArray⟩) ∧ Below w.heap.size w w' := by
  refine (Tryd.strconv_Itoa (n : Int) (by omega) (by omega) w ht).mono ?_
  rintro e w' ⟨rfl, k, os, rfl⟩
  rw [Lib.itoa_nonneg, num6_dec n hn]
  exact ⟨rfl, Lib.below_grow _ _ (Nat.le_refl _) _ _⟩

set_option maxRecDepth 100000 in
set_option maxHeartbeats 6400000 in
theorem tieStand_any (a b : Nat) (w : World) (ha : a ≤ 300) (hb : b ≤ 300) (ht : Tens w) :
    Calls Tryd.prog 53 #[.agg #[.int .i64 a, .int .i64 b]] w fun e w' => e = .returned (.string ⟨(tieL a b (decide (wonN 7 a b ≠ 0))).toArray⟩) ∧ Below w.heap.size w w' := by
  have hwr := fun w => winnerOfRace_any 7 a b w (by omega) (by omega) (by omega) (by omega)
  have hbn := (Below.refl w.heap.size w).alloc (Nat.le_refl _) (.cells #[.int .i64 a, .int .i64 b] 63)
  have hp := Pair.new w a b 63
  have H0 := Lib.hid (And.intro hp (And.intro hbn (ht.keep hbn)))
  clear hbn hp
  have HW := Lib.hid hwr; clear hwr
  have HT := Lib.hid ht; clear ht
  have l1 := num6_len a
  have l2 := num6_len b
  have HIA := Lib.hid (fun w ht => itoa6_any a (by omega) w ht)
  have HIB := Lib.hid (fun w ht => itoa6_any b (by omega) w ht)
  have hv : ∀ e, tieL a b e = num6 a ++ [58] ++ num6 b ++ (if e then [33] else []) := fun e => rfl
  have h3 : wonN 7 a b = 0 ∨ wonN 7 a b = 1 ∨ wonN 7 a b = 2 := by unfold wonN; split <;> (try split) <;> simp
  have HV := Lib.hid (And.intro hv h3); clear hv h3
  generalize wonN 7 a b = n at *
  generalize hta : tieL a b = TL at *
  have HTA := Lib.hid hta; clear hta
  generalize num6 a = n1 at *
  generalize num6 b = n2 at *
  have d1 : ∀ W : World, (Op.stringOp .add ⟨n1.toArray⟩ ⟨#[58]⟩).run Tryd.prog W = .ok (.string ⟨(n1 ++ [58]).toArray⟩) W := fun W => run_string_add_lists W n1 [58] (by omega) (by simp)
  have d2 : ∀ W : World, (Op.stringOp .add ⟨(n1 ++ [58]).toArray⟩ ⟨n2.toArray⟩).run Tryd.prog W = .ok (.string ⟨(n1 ++ [58] ++ n2).toArray⟩) W := fun W => run_string_add_lists W (n1 ++ [58]) n2 (by simp; omega) (by omega)
  have d3 : ∀ W : World, (Op.stringOp .add ⟨(n1 ++ [58] ++ n2).toArray⟩ ⟨#[33]⟩).run Tryd.prog W = .ok (.string ⟨(n1 ++ [58] ++ n2 ++ [33]).toArray⟩) W := fun W => run_string_add_lists W (n1 ++ [58] ++ n2) [33] (by simp; omega) (by simp)
  generalize n1 ++ [58] = m1 at *
  generalize m1 ++ n2 = m2 at *
  generalize hm3 : m2 ++ [33] = m3 at *
  have HM3 := Lib.hid hm3; clear hm3
  go_enter Tryd.func53, Tryd.ntmps53
  go_wp2_with fail
  generalize w.alloc (.cells #[.int .i64 a, .int .i64 b] 63) = W0 at *
  generalize hg : w.heap.size = g at *
  have HG := Lib.hid hg; clear hg
  have KS : Hid (Pair W0.drew g a b ∧ Below g w W0.drew ∧ Tens W0.drew) := Lib.hid ⟨H0.out.1.keep (Below.drew (Below.refl _ _)), H0.out.2.1.trans (Below.drew (Below.refl _ _) |>.mono (Nat.le_of_lt H0.out.1.1)), H0.out.2.2.keep (Below.drew (Below.refl _ _))⟩
  clear H0
  refine wp_region_held_drew (S := fun wi => wi.cell? ⟨g, 0, none⟩ = some (.int .i64 a) ∧ wi.cell? ⟨g, 1, none⟩ = some (.int .i64 b)) (by kernel_rfl) ⟨KS.out.1.2.1, KS.out.1.2.2.1⟩ (fun hHeld => ?_)
  generalize W0.drew = W1 at *
  (refine wpAnyH_take (i := 0) (v := ?_) rfl (by kernel_rfl) (by kernel_rfl) (by kernel_rfl) (fun _ _ _ h => h) (Or.inl ⟨by kernel_rfl, ?_⟩) (by assumption) ?_; rotate_left; focus (intro w hSw; (try dsimp only at hSw); go_simp; try with_reducible rfl); (try simp only [List.getElem_toArray, List.getElem_cons_succ, List.getElem_cons_zero, Act.put, List.setIfInBounds_toArray, List.set_cons_zero, List.set_cons_succ])); (refine wpAnyH_take (i := 1) (v := ?_) rfl (by kernel_rfl) (by kernel_rfl) (by kernel_rfl) (fun _ _ _ h => h) (Or.inl ⟨by kernel_rfl, ?_⟩) (by assumption) ?_; rotate_left; focus (intro w hSw; (try dsimp only at hSw); go_simp; try with_reducible rfl); (try simp only [List.getElem_toArray, List.getElem_cons_succ, List.getElem_cons_zero, Act.put, List.setIfInBounds_toArray, List.set_cons_zero, List.set_cons_succ])); (refine wpAnyH_take (i := 4) (v := ?_) rfl (by kernel_rfl) (by kernel_rfl) (by kernel_rfl) (fun _ _ _ h => h) (Or.inl ⟨by kernel_rfl, ?_⟩) (by assumption) ?_; rotate_left; focus (intro w hSw; (try dsimp only at hSw); go_simp; try with_reducible rfl); (try simp only [List.getElem_toArray, List.getElem_cons_succ, List.getElem_cons_zero, Act.put, List.setIfInBounds_toArray, List.set_cons_zero, List.set_cons_succ])); (refine wpAnyH_take (i := 5) (v := ?_) rfl (by kernel_rfl) (by kernel_rfl) (by kernel_rfl) (fun _ _ _ h => h) (Or.inl ⟨by kernel_rfl, ?_⟩) (by assumption) ?_; rotate_left; focus (intro w hSw; (try dsimp only at hSw); go_simp; try with_reducible rfl); (try simp only [List.getElem_toArray, List.getElem_cons_succ, List.getElem_cons_zero, Act.put, List.setIfInBounds_toArray, List.set_cons_zero, List.set_cons_succ]))
  clear hHeld
  refine wpAnyH_ready (rs := [2]) (by kernel_rfl) (by simp) ?_; refine AllReadyH.cons rfl (fun K hK => ?_) AllReadyH.nil
  go_simp
  go_at_call 92
  refine (HIA.out _ KS.out.2.2).mono ?_; rintro e w2 ⟨rfl, b2⟩
  have K2 := Lib.hid (And.intro (KS.out.1.keep b2) (And.intro (KS.out.2.1.trans (b2.mono (Nat.le_of_lt KS.out.1.1))) (KS.out.2.2.keep b2))); clear b2 KS HIA
  go_wp2_with fail
  first
    | refine hK.out _ _ ⟨K2.out.1.2.1, K2.out.1.2.2.1⟩ (fun hHeld => ?_)
    | refine hK _ _ ⟨K2.out.1.2.1, K2.out.1.2.2.1⟩ (fun hHeld => ?_)
  clear hK K
  (try simp only [List.getElem_toArray, List.getElem_cons_succ, List.getElem_cons_zero, Act.put, List.setIfInBounds_toArray, List.set_cons_zero, List.set_cons_succ])
  (refine wpAnyH_take (i := 3) (v := ?_) rfl (by kernel_rfl) (by kernel_rfl) (by kernel_rfl) (fun _ _ _ h => h) (Or.inl ⟨by kernel_rfl, ?_⟩) (by assumption) ?_; rotate_left; focus (intro w hSw; (try dsimp only at hSw); go_simp; try with_reducible rfl); (try simp only [List.getElem_toArray, List.getElem_cons_succ, List.getElem_cons_zero, Act.put, List.setIfInBounds_toArray, List.set_cons_zero, List.set_cons_succ]))
  clear hHeld
  refine wpAnyH_ready (rs := [6]) (by kernel_rfl) (by simp) ?_; refine AllReadyH.cons rfl (fun K hK => ?_) AllReadyH.nil
  go_simp
  go_at_call 92
  refine (HIB.out _ K2.out.2.2).mono ?_; rintro e w3 ⟨rfl, b3⟩
  have K3 := Lib.hid (And.intro (K2.out.1.keep b3) (K2.out.2.1.trans (b3.mono (Nat.le_of_lt K2.out.1.1)))); clear b3 K2 HIB
  go_wp2_with fail
  first
    | refine hK.out _ _ ⟨K3.out.1.2.1, K3.out.1.2.2.1⟩ (fun hHeld => ?_)
    | refine hK _ _ ⟨K3.out.1.2.1, K3.out.1.2.2.1⟩ (fun hHeld => ?_)
  clear hK K
  (try simp only [List.getElem_toArray, List.getElem_cons_succ, List.getElem_cons_zero, Act.put, List.setIfInBounds_toArray, List.set_cons_zero, List.set_cons_succ])
  (refine wpAnyH_take (i := 7) (v := ?_) rfl (by kernel_rfl) (by kernel_rfl) (by kernel_rfl) (fun _ _ _ h => h) (Or.inl ⟨by kernel_rfl, ?_⟩) (by assumption) ?_; rotate_left; focus (intro w hSw; (try dsimp only at hSw); go_simp; try with_reducible rfl); (try simp only [List.getElem_toArray, List.getElem_cons_succ, List.getElem_cons_zero, Act.put, List.setIfInBounds_toArray, List.set_cons_zero, List.set_cons_succ])); (refine wpAnyH_take (i := 8) (v := ?_) rfl (by kernel_rfl) (by kernel_rfl) (by kernel_rfl) (fun _ _ _ h => h) (Or.inl ⟨by kernel_rfl, ?_⟩) (by assumption) ?_; rotate_left; focus (intro w hSw; (try dsimp only at hSw); go_simp; try with_reducible rfl); (try simp only [List.getElem_toArray, List.getElem_cons_succ, List.getElem_cons_zero, Act.put, List.setIfInBounds_toArray, List.set_cons_zero, List.set_cons_succ]))
  clear hHeld d1 d2
  refine wpAnyH_done (by kernel_rfl) ?_ _
  (try simp only [List.getElem_toArray, List.getElem_cons_succ, List.getElem_cons_zero, Act.put, List.setIfInBounds_toArray, List.set_cons_zero, List.set_cons_succ])
  go_wp2_with fail
  have K4 : Hid (Pair w3.drew g a b ∧ Below g w w3.drew) := Lib.hid ⟨K3.out.1.keep (Below.drew (Below.refl _ _)), K3.out.2.trans (Below.drew (Below.refl _ _) |>.mono (Nat.le_of_lt K3.out.1.1))⟩
  clear K3
  refine wp_region_held_drew (S := fun wi => wi.cell? ⟨g, 0, none⟩ = some (.int .i64 a) ∧ wi.cell? ⟨g, 1, none⟩ = some (.int .i64 b)) (by kernel_rfl) ⟨K4.out.1.2.1, K4.out.1.2.2.1⟩ (fun hHeld => ?_)
  generalize w3.drew = W3 at *
  (refine wpAnyH_take (i := 1) (v := ?_) rfl (by kernel_rfl) (by kernel_rfl) (by kernel_rfl) (fun _ _ _ h => h) (Or.inl ⟨by kernel_rfl, ?_⟩) (by assumption) ?_; rotate_left; focus (intro w hSw; (try dsimp only at hSw); go_simp; try with_reducible rfl); (try simp only [List.getElem_toArray, List.getElem_cons_succ, List.getElem_cons_zero, Act.put, List.setIfInBounds_toArray, List.set_cons_zero, List.set_cons_succ]))
  clear hHeld
  refine wpAnyH_ready (rs := [0]) (by kernel_rfl) (by simp) ?_; refine AllReadyH.cons rfl (fun K hK => ?_) AllReadyH.nil
  go_simp
  go_at_call 52
  refine (tieBreak_any _).mono ?_; rintro e w4 ⟨rfl, b4⟩
  have K5 := Lib.hid (And.intro (K4.out.1.keep b4) (K4.out.2.trans (b4.mono (Nat.le_of_lt K4.out.1.1)))); clear b4 K4
  go_wp2_with fail
  first
    | refine hK.out _ _ ⟨K5.out.1.2.1, K5.out.1.2.2.1⟩ (fun hHeld => ?_)
    | refine hK _ _ ⟨K5.out.1.2.1, K5.out.1.2.2.1⟩ (fun hHeld => ?_)
  clear hK K hHeld
  (try simp only [List.getElem_toArray, List.getElem_cons_succ, List.getElem_cons_zero, Act.put, List.setIfInBounds_toArray, List.set_cons_zero, List.set_cons_succ])
  refine wpAnyH_ready (rs := [2]) (by kernel_rfl) (by simp) ?_; refine AllReadyH.cons rfl (fun K hK => ?_) AllReadyH.nil
  go_simp
  go_at_call 93
  refine (HW.out _).mono ?_; rintro e w6 ⟨rfl, b6⟩
  have K6 := Lib.hid (And.intro (K5.out.1.keep b6) (K5.out.2.trans (b6.mono (Nat.le_of_lt K5.out.1.1)))); clear b6 K5 HW
  go_wp2_with fail
  first
    | refine hK.out _ _ ⟨K6.out.1.2.1, K6.out.1.2.2.1⟩ (fun hHeld => ?_)
    | refine hK _ _ ⟨K6.out.1.2.1, K6.out.1.2.2.1⟩ (fun hHeld => ?_)
  clear hK K
  (try simp only [List.getElem_toArray, List.getElem_cons_succ, List.getElem_cons_zero, Act.put, List.setIfInBounds_toArray, List.set_cons_zero, List.set_cons_succ])
  rcases HV.out.2 with h | h | h
  all_goals
    subst h
  · rw [show sideS 0 = ⟨#[]⟩ from rfl]
    (refine wpAnyH_take (i := 3) (v := ?_) rfl (by kernel_rfl) (by kernel_rfl) (by kernel_rfl) (fun _ _ _ h => h) (Or.inl ⟨by kernel_rfl, ?_⟩) (by assumption) ?_; rotate_left; focus (intro w hSw; (try dsimp only at hSw); go_simp; try with_reducible rfl); (try simp only [List.getElem_toArray, List.getElem_cons_succ, List.getElem_cons_zero, Act.put, List.setIfInBounds_toArray, List.set_cons_zero, List.set_cons_succ]))
    clear hHeld
    refine wpAnyH_done (by kernel_rfl) ?_ _
    (try simp only [List.getElem_toArray, List.getElem_cons_succ, List.getElem_cons_zero, Act.put, List.setIfInBounds_toArray, List.set_cons_zero, List.set_cons_succ])
    go_wp2_with fail
    go_ret
    exact ⟨by have : TL false = m2 := by rw [HV.out.1]; simp
              exact congrArg (fun l : List UInt8 => Ending.returned (.string ⟨l.toArray⟩)) this.symm, by rw [HG.out]; exact K6.out.2⟩
  · rw [show sideS 1 = ⟨#[97]⟩ from rfl]
    (refine wpAnyH_take (i := 3) (v := ?_) rfl (by kernel_rfl) (by kernel_rfl) (by kernel_rfl) (fun _ _ _ h => h) (Or.inl ⟨by kernel_rfl, ?_⟩) (by assumption) ?_; rotate_left; focus (intro w hSw; (try dsimp only at hSw); go_simp; try with_reducible rfl); (try simp only [List.getElem_toArray, List.getElem_cons_succ, List.getElem_cons_zero, Act.put, List.setIfInBounds_toArray, List.set_cons_zero, List.set_cons_succ]))
    clear hHeld
    refine wpAnyH_done (by kernel_rfl) ?_ _
    (try simp only [List.getElem_toArray, List.getElem_cons_succ, List.getElem_cons_zero, Act.put, List.setIfInBounds_toArray, List.set_cons_zero, List.set_cons_succ])
    go_wp2_with fail
    go_ret
    exact ⟨by have : TL true = m3 := by rw [HV.out.1, ← HM3.out]; simp
              exact congrArg (fun l : List UInt8 => Ending.returned (.string ⟨l.toArray⟩)) this.symm, by rw [HG.out]; exact K6.out.2⟩
  · rw [show sideS 2 = ⟨#[98]⟩ from rfl]
    (refine wpAnyH_take (i := 3) (v := ?_) rfl (by kernel_rfl) (by kernel_rfl) (by kernel_rfl) (fun _ _ _ h => h) (Or.inl ⟨by kernel_rfl, ?_⟩) (by assumption) ?_; rotate_left; focus (intro w hSw; (try dsimp only at hSw); go_simp; try with_reducible rfl); (try simp only [List.getElem_toArray, List.getElem_cons_succ, List.getElem_cons_zero, Act.put, List.setIfInBounds_toArray, List.set_cons_zero, List.set_cons_succ]))
    clear hHeld
    refine wpAnyH_done (by kernel_rfl) ?_ _
    (try simp only [List.getElem_toArray, List.getElem_cons_succ, List.getElem_cons_zero, Act.put, List.setIfInBounds_toArray, List.set_cons_zero, List.set_cons_succ])
    go_wp2_with fail
    go_ret
    exact ⟨by have : TL true = m3 := by rw [HV.out.1, ← HM3.out]; simp
              exact congrArg (fun l : List UInt8 => Ending.returned (.string ⟨l.toArray⟩)) this.symm, by rw [HG.out]; exact K6.out.2⟩

end Go.Proofs.YtbgdngfjeikheabDoor
