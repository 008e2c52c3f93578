/-
  Chances: until some side is two points ahead: the model and the program.
-/
import Derived.Test.YthlkndloggmehaaChLow
import Derived.Deep.RegionHeld3
import Derived.Deep.QuietTactic
namespace Go.Proofs.Ythlkndloggmehaa
open Go.RowKit
set_option linter.unusedVariables false
set_option linter.unusedSimpArgs false

set_option maxHeartbeats 400000 in
theorem missed_any (n d : Int) (h1 : 0 ≤ n) (h2 : n ≤ d) (h3 : d ≤ 1000) (w : World) :
    Calls Try.prog 102 #[.agg #[.int .i64 n, .int .i64 d]] w fun e w' => e = .returned (.int .i64 (d - n)) ∧ Below w.heap.size w w' := by
  have t1 : IntKind.i64.wrap (d - n) = d - n := IntWalk.i64_in _ (by omega)
  go_enter Try.func102, Try.ntmps102
  go_wp2
  go_ret
  refine ⟨rfl, ?_⟩
  (repeat (first | exact Below.refl _ _ | exact ‹Below _ _ _› | refine Below.drew ?_ | refine Below.alloc ?_ (by first | omega | (simp; done) | (simp; omega)) _ | refine Below.setCell ?_ (by first | omega | (simp; done) | (simp; omega)) _ | refine Below.trans ?_ (Below.mono ‹Below _ _ _› (by first | omega | (simp; done) | (simp; omega)))))

set_option maxHeartbeats 800000 in
theorem canEitherWin_any (n d : Int) (w : World) :
    Calls Try.prog 91 #[.agg #[.int .i64 n, .int .i64 d]] w fun e w' => e = .returned (.bool (openO n d)) ∧ Below w.heap.size w w' := by
  cases hg : goodO n d
  · have ho : openO n d = false := by simp [openO, hg]
    rw [ho]; clear ho
    have HG := Lib.hid hg; clear hg
    go_enter Try.func91, Try.ntmps91
    go_wp2_with fail
    refine (implAreOdds_any n d _).mono ?_; rintro e w1 ⟨rfl, b1⟩
    rw [HG.out]
    go_wp2_with fail
    go_ret
    refine ⟨rfl, ?_⟩
    have sz_b1 := b1.size; (try simp at sz_b1)
    (repeat (first | exact Below.refl _ _ | exact ‹Below _ _ _› | refine Below.drew ?_ | refine Below.alloc ?_ (by first | omega | (simp; done) | (simp; omega)) _ | refine Below.setCell ?_ (by first | omega | (simp; done) | (simp; omega)) _ | refine Below.trans ?_ (Below.mono ‹Below _ _ _› (by first | omega | (simp; done) | (simp; omega)))))
  · have hb := goodO_bd.1 hg
    by_cases h0 : 0 < n
    · have ho : openO n d = decide (0 < d - n) := by
        rw [Bool.eq_iff_iff, openO_bd, decide_eq_true_eq]; omega
      rw [ho]; clear ho
      have HM := Lib.hid (missed_any n d (by omega) (by omega) (by omega))
      have HG := Lib.hid hg; clear hg hb
      go_enter Try.func91, Try.ntmps91
      go_wp2_with fail
      refine (implAreOdds_any n d _).mono ?_; rintro e w1 ⟨rfl, b1⟩
      rw [HG.out]
      obtain ⟨zA, y0, y1, -, -⟩ := (Pair.new w n d 25).keep b1
      obtain ⟨c1, f1⟩ := bcell b1; have z1 : w.heap.size < w1.heap.size := (by have := b1.size; (try simp at this); omega)
      go_wp2_with fail
      refine (HM.out _).mono ?_; rintro e w2 ⟨rfl, b2⟩
      go_wp2_with fail
      go_ret
      refine ⟨ret_bool (by simp only [decide_eq_decide]; omega), ?_⟩
      have sz_b1 := b1.size; (try simp at sz_b1); have sz_b2 := b2.size; (try simp at sz_b2)
      (repeat (first | exact Below.refl _ _ | exact ‹Below _ _ _› | refine Below.drew ?_ | refine Below.alloc ?_ (by first | omega | (simp; done) | (simp; omega)) _ | refine Below.setCell ?_ (by first | omega | (simp; done) | (simp; omega)) _ | refine Below.trans ?_ (Below.mono ‹Below _ _ _› (by first | omega | (simp; done) | (simp; omega)))))
    · have ho : openO n d = false := by
        cases h : openO n d
        · rfl
        · have := openO_bd.1 h; omega
      rw [ho]; clear ho
      have HG := Lib.hid hg; clear hg hb
      go_enter Try.func91, Try.ntmps91
      go_wp2_with fail
      refine (implAreOdds_any n d _).mono ?_; rintro e w1 ⟨rfl, b1⟩
      rw [HG.out]
      obtain ⟨zA, y0, y1, -, -⟩ := (Pair.new w n d 25).keep b1
      go_wp2_with fail
      go_ret
      refine ⟨rfl, ?_⟩
      have sz_b1 := b1.size; (try simp at sz_b1)
      (repeat (first | exact Below.refl _ _ | exact ‹Below _ _ _› | refine Below.drew ?_ | refine Below.alloc ?_ (by first | omega | (simp; done) | (simp; omega)) _ | refine Below.setCell ?_ (by first | omega | (simp; done) | (simp; omega)) _ | refine Below.trans ?_ (Below.mono ‹Below _ _ _› (by first | omega | (simp; done) | (simp; omega)))))

set_option maxHeartbeats 800000 in
theorem chOpen_any (n d : Int) (w : World) :
    Calls Try.prog 90 #[.agg #[.int .i64 n, .int .i64 d]] w fun e w' => e = .returned (.bool (openO n d)) ∧ Below w.heap.size w w' := by
  cases hg : goodO n d
  · have ho : openO n d = false := by simp [openO, hg]
    rw [ho]; clear ho
    have HG := Lib.hid hg; clear hg
    go_enter Try.func90, Try.ntmps90
    go_wp2_with fail
    refine (chGood_any n d _).mono ?_; rintro e w1 ⟨rfl, b1⟩
    rw [HG.out]
    go_wp2_with fail
    go_ret
    refine ⟨rfl, ?_⟩
    have sz_b1 := b1.size; (try simp at sz_b1)
    (repeat (first | exact Below.refl _ _ | exact ‹Below _ _ _› | refine Below.drew ?_ | refine Below.alloc ?_ (by first | omega | (simp; done) | (simp; omega)) _ | refine Below.setCell ?_ (by first | omega | (simp; done) | (simp; omega)) _ | refine Below.trans ?_ (Below.mono ‹Below _ _ _› (by first | omega | (simp; done) | (simp; omega)))))
  · have hb := goodO_bd.1 hg
    have ho : openO n d = inR n 1 (d - 1) := by simp [openO, hg]
    rw [ho]; clear ho
    have t1 : IntKind.i64.wrap (d - 1) = d - 1 := IntWalk.i64_in _ (by omega)
    have HG := Lib.hid hg; clear hg hb
    go_enter Try.func90, Try.ntmps90
    go_wp2_with fail
    refine (chGood_any n d _).mono ?_; rintro e w1 ⟨rfl, b1⟩
    rw [HG.out]
    obtain ⟨zA, y0, y1, -, -⟩ := (Pair.new w n d 25).keep b1
    go_wp2_with fail
    refine (l1In_any _ _ _ _).mono ?_; rintro e w' ⟨rfl, rfl⟩
    go_wp2_with fail
    go_ret
    refine ⟨rfl, ?_⟩
    have sz_b1 := b1.size; (try simp at sz_b1)
    (repeat (first | exact Below.refl _ _ | exact ‹Below _ _ _› | refine Below.drew ?_ | refine Below.alloc ?_ (by first | omega | (simp; done) | (simp; omega)) _ | refine Below.setCell ?_ (by first | omega | (simp; done) | (simp; omega)) _ | refine Below.trans ?_ (Below.mono ‹Below _ _ _› (by first | omega | (simp; done) | (simp; omega)))))

theorem pr_keep {w X Y : World} {g : Nat} {a b : Value} (bd : Below X.heap.size X Y) (h : X.cell? ⟨g, 0, none⟩ = some a ∧ X.cell? ⟨g, 1, none⟩ = some b ∧ g < X.heap.size ∧ Below g w X) :
    Y.cell? ⟨g, 0, none⟩ = some a ∧ Y.cell? ⟨g, 1, none⟩ = some b ∧ g < Y.heap.size ∧ Below g w Y := by
  obtain ⟨h0, h1, h2, h3⟩ := h
  refine ⟨?_, ?_, Nat.lt_of_lt_of_le h2 bd.size, h3.trans (bd.mono (Nat.le_of_lt h2))⟩
  · rw [bd.cell (p := ⟨g, 0, none⟩) h2]; exact h0
  · rw [bd.cell (p := ⟨g, 1, none⟩) h2]; exact h1

set_option maxHeartbeats 3200000 in
set_option maxRecDepth 100000 in
theorem pairsToOne_any (n d : Int) (ho : openO n d = true) (p q s e : Nat) (hD : OpenD n d p q s e) (w : World) :
    Calls Try.prog 93 #[.agg #[.int .i64 n, .int .i64 d]] w fun e w' => e = .returned (.int .i64 (s : Nat)) ∧ Below w.heap.size w w' := by
  have hb := openO_bd.1 ho
  obtain ⟨pn, qn, sn, -, -, s2, p2, q2, -⟩ := hD
  have HM := Lib.hid (missed_any n d (by omega) (by omega) (by omega))
  have t1 : IntKind.i64.wrap (n * n) = p := by rw [pn]; exact IntWalk.i64_in _ (by omega)
  have t2 : IntKind.i64.wrap ((d - n) * (d - n)) = q := by rw [qn]; exact IntWalk.i64_in _ (by omega)
  have t3 : IntKind.i64.wrap ((p : Int) + q) = s := by rw [sn]; exact IntWalk.i64_in _ (by omega)
  generalize d - n = m at *
  have tA := Pair.new w n d 25
  have B0 := (Below.refl w.heap.size w).alloc (Nat.le_refl _) (.cells #[.int .i64 n, .int .i64 d] 25)
  clear pn qn sn s2 p2 q2 hb ho
  go_enter Try.func93, Try.ntmps93
  go_wp2_with fail
  obtain ⟨s2, s0, s1, -, -⟩ := tA
  have s3 := B0
  generalize w.alloc (.cells #[.int .i64 n, .int .i64 d] 25) = X at *
  generalize hg : w.heap.size = g at *
  clear B0
  refine wp_region_held_drew (S := fun w' => w'.cell? ⟨g, 0, none⟩ = some (.int .i64 n) ∧ w'.cell? ⟨g, 1, none⟩ = some (.int .i64 d) ∧ g < w'.heap.size ∧ Below g w w') (by kernel_rfl) ⟨by simpa using s0, by simpa using s1, by simpa using s2, Below.drew s3⟩ (fun hHeld => ?_)
  (refine wpAnyH_take (i := 0) (v := ?_) rfl (by kernel_rfl) (by kernel_rfl) (by kernel_rfl) (fun _ _ _ h => h) (Or.inl ⟨by kernel_rfl, ?_⟩) (by assumption) ?_; rotate_left; focus (intro w hSw; (try dsimp only at hSw); go_simp; try with_reducible rfl); (try simp only [List.getElem_toArray, List.getElem_cons_succ, List.getElem_cons_zero, Act.put, List.setIfInBounds_toArray, List.set_cons_zero, List.set_cons_succ])); (refine wpAnyH_take (i := 1) (v := ?_) rfl (by kernel_rfl) (by kernel_rfl) (by kernel_rfl) (fun _ _ _ h => h) (Or.inl ⟨by kernel_rfl, ?_⟩) (by assumption) ?_; rotate_left; focus (intro w hSw; (try dsimp only at hSw); go_simp; try with_reducible rfl); (try simp only [List.getElem_toArray, List.getElem_cons_succ, List.getElem_cons_zero, Act.put, List.setIfInBounds_toArray, List.set_cons_zero, List.set_cons_succ])); (refine wpAnyH_take (i := 2) (v := ?_) rfl (by kernel_rfl) (by kernel_rfl) (by kernel_rfl) (fun _ _ _ h => h) (Or.inl ⟨by kernel_rfl, ?_⟩) (by assumption) ?_; rotate_left; focus (intro w hSw; (try dsimp only at hSw); go_simp; try with_reducible rfl); (try simp only [List.getElem_toArray, List.getElem_cons_succ, List.getElem_cons_zero, Act.put, List.setIfInBounds_toArray, List.set_cons_zero, List.set_cons_succ])); (refine wpAnyH_take (i := 3) (v := ?_) rfl (by kernel_rfl) (by kernel_rfl) (by kernel_rfl) (fun _ _ _ h => h) (Or.inl ⟨by kernel_rfl, ?_⟩) (by assumption) ?_; rotate_left; focus (intro w hSw; (try dsimp only at hSw); go_simp; try with_reducible rfl); (try simp only [List.getElem_toArray, List.getElem_cons_succ, List.getElem_cons_zero, Act.put, List.setIfInBounds_toArray, List.set_cons_zero, List.set_cons_succ])); (refine wpAnyH_take (i := 4) (v := ?_) rfl (by kernel_rfl) (by kernel_rfl) (by kernel_rfl) (fun _ _ _ h => h) (Or.inl ⟨by kernel_rfl, ?_⟩) (by assumption) ?_; rotate_left; focus (intro w hSw; (try dsimp only at hSw); go_simp; try with_reducible rfl); (try simp only [List.getElem_toArray, List.getElem_cons_succ, List.getElem_cons_zero, Act.put, List.setIfInBounds_toArray, List.set_cons_zero, List.set_cons_succ])); (refine wpAnyH_take (i := 5) (v := ?_) rfl (by kernel_rfl) (by kernel_rfl) (by kernel_rfl) (fun _ _ _ h => h) (Or.inl ⟨by kernel_rfl, ?_⟩) (by assumption) ?_; rotate_left; focus (intro w hSw; (try dsimp only at hSw); go_simp; try with_reducible rfl); (try simp only [List.getElem_toArray, List.getElem_cons_succ, List.getElem_cons_zero, Act.put, List.setIfInBounds_toArray, List.set_cons_zero, List.set_cons_succ])); (refine wpAnyH_take (i := 7) (v := ?_) rfl (by kernel_rfl) (by kernel_rfl) (by kernel_rfl) (fun _ _ _ h => h) (Or.inl ⟨by kernel_rfl, ?_⟩) (by assumption) ?_; rotate_left; focus (intro w hSw; (try dsimp only at hSw); go_simp; try with_reducible rfl); (try simp only [List.getElem_toArray, List.getElem_cons_succ, List.getElem_cons_zero, Act.put, List.setIfInBounds_toArray, List.set_cons_zero, List.set_cons_succ]))
  refine wpAnyH_ready (rs := [6]) (by kernel_rfl) (by simp) ?_; refine AllReadyH.cons rfl (fun K hK => ?_) AllReadyH.nil
  go_simp
  go_at_call 102
  refine (HM.out _).mono ?_; rintro e w' ⟨rfl, bd⟩
  have KS := Lib.hid (pr_keep bd hHeld); clear hHeld bd
  go_wp2_with fail
  refine hK.out _ _ KS.out (fun hHeld => ?_)
  clear hK K KS
  (try simp only [List.getElem_toArray, List.getElem_cons_succ, List.getElem_cons_zero, Act.put, List.setIfInBounds_toArray, List.set_cons_zero, List.set_cons_succ])
  refine wpAnyH_ready (rs := [8]) (by kernel_rfl) (by simp) ?_; refine AllReadyH.cons rfl (fun K hK => ?_) AllReadyH.nil
  go_simp
  go_at_call 102
  refine (HM.out _).mono ?_; rintro e w' ⟨rfl, bd⟩
  have KS := Lib.hid (pr_keep bd hHeld); clear hHeld bd
  go_wp2_with fail
  refine hK.out _ _ KS.out (fun hHeld => ?_)
  clear hK K KS
  (try simp only [List.getElem_toArray, List.getElem_cons_succ, List.getElem_cons_zero, Act.put, List.setIfInBounds_toArray, List.set_cons_zero, List.set_cons_succ])
  (refine wpAnyH_take (i := 9) (v := ?_) rfl (by kernel_rfl) (by kernel_rfl) (by kernel_rfl) (fun _ _ _ h => h) (Or.inl ⟨by kernel_rfl, ?_⟩) (by assumption) ?_; rotate_left; focus (intro w hSw; (try dsimp only at hSw); go_simp; try with_reducible rfl); (try simp only [List.getElem_toArray, List.getElem_cons_succ, List.getElem_cons_zero, Act.put, List.setIfInBounds_toArray, List.set_cons_zero, List.set_cons_succ])); (refine wpAnyH_take (i := 10) (v := ?_) rfl (by kernel_rfl) (by kernel_rfl) (by kernel_rfl) (fun _ _ _ h => h) (Or.inl ⟨by kernel_rfl, ?_⟩) (by assumption) ?_; rotate_left; focus (intro w hSw; (try dsimp only at hSw); go_simp; try with_reducible rfl); (try simp only [List.getElem_toArray, List.getElem_cons_succ, List.getElem_cons_zero, Act.put, List.setIfInBounds_toArray, List.set_cons_zero, List.set_cons_succ])); (refine wpAnyH_take (i := 11) (v := ?_) rfl (by kernel_rfl) (by kernel_rfl) (by kernel_rfl) (fun _ _ _ h => h) (Or.inl ⟨by kernel_rfl, ?_⟩) (by assumption) ?_; rotate_left; focus (intro w hSw; (try dsimp only at hSw); go_simp; try with_reducible rfl); (try simp only [List.getElem_toArray, List.getElem_cons_succ, List.getElem_cons_zero, Act.put, List.setIfInBounds_toArray, List.set_cons_zero, List.set_cons_succ]))
  refine wpAnyH_done (by kernel_rfl) ?_ _
  have KS := Lib.hid hHeld; clear hHeld
  go_wp2_with fail
  go_ret
  exact ⟨rfl, by rw [hg]; exact KS.out.2.2.2⟩
end Go.Proofs.Ythlkndloggmehaa
