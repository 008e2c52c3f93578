/-
  Frames as texts.
-/
import Derived.Test.YtlehhkijigglgaaDoorFrStep
import Derived.Deep.RegionHeld3
import Derived.Deep.QuietTactic
import Derived.WalkSmall
namespace Go.Proofs.YtlehhkijigglgaaDoor
open Go.RowKit
set_option linter.unusedVariables false

def rN (n : Nat) : Nat := (n - 6) / 2
def lN (n : Nat) : Nat := if n ≤ 6 then 8 - n else 2
theorem frR_N (n : Nat) : frR n = (rN n : Nat) := rfl
theorem frL_N (n : Nat) : frL n = (lN n : Nat) := by unfold frL lN; split <;> omega
theorem rN_lt {n : Nat} (h : n ≤ 36) : rN n < 100 := by unfold rN; omega
theorem lN_lt (n : Nat) : lN n < 100 := by unfold lN; split <;> omega
def sgB (c : Bool) : UInt8 := if c then 99 else 45
def textAB (a b : Nat) (c : Bool) : List UInt8 := (numF 1 a ++ [sgB c]) ++ numF 1 b
def textL (n : Nat) : List UInt8 := textAB (rN n) (lN n) (frC n)
theorem num_dec : ∀ m : Nat, m < 100 → Lib.decDigits m = numF 1 m := by decide +kernel

theorem FrAt.anyDrew {w : World} {g : Nat} {r : Int} {c : Bool} {l : Int} (h : FrAt w g r c l) : FrAt w.drew g r c l := h

theorem txtS_keep {w X Y : World} {g : Nat} {a b : Value} (bd : Below X.heap.size X Y) (h : X.cell? ⟨g, 0, none⟩ = some a ∧ X.cell? ⟨g, 2, none⟩ = some b ∧ g < X.heap.size ∧ Below g w X) :
    Y.cell? ⟨g, 0, none⟩ = some a ∧ Y.cell? ⟨g, 2, none⟩ = some b ∧ g < Y.heap.size ∧ Below g w Y := by
  obtain ⟨h0, h1, h2, h3⟩ := h
  refine ⟨?_, ?_, Nat.lt_of_lt_of_le h2 bd.size, h3.trans (bd.mono (Nat.le_of_lt h2))⟩
  · rw [bd.cell (p := ⟨g, 0, none⟩) h2]; exact h0
  · rw [bd.cell (p := ⟨g, 2, none⟩) h2]; exact h1

set_option maxHeartbeats 3200000 in
set_option maxRecDepth 100000 in
theorem specText_ab (a b : Nat) (ha : a < 100) (hb : b < 100) (c : Bool) (w : World) :
    Calls Tryd.prog 84 #[frW a c b] w fun e w' => e = .returned (.string ⟨(textAB a b c).toArray⟩) ∧ Below w.heap.size w w' := by
  have ih : ∀ (m : Nat) (w : World), m < 100 → Calls Tryd.prog 89 #[.int .i64 m] w fun e w' => e = .returned (.string ⟨(numF 1 m).toArray⟩) ∧ Below w.heap.size w w' := fun m w h => l1Num_any 1 m w (by omega) (by omega)
  have IH := Lib.hid (And.intro (fun w => ih a w ha) (fun w => ih b w hb)); clear ih
  have la := (numF_len 1 a).2
  have lb := (numF_len 1 b).2
  have h1 : ∀ W : World, (Op.stringOp .add ⟨(numF 1 a).toArray⟩ ⟨#[sgB c]⟩).run Tryd.prog W = .ok (.string ⟨(numF 1 a ++ [sgB c]).toArray⟩) W := fun W => run_string_add_lists W (numF 1 a) [sgB c] (by omega) (by simp)
  have h2 : ∀ W : World, (Op.stringOp .add ⟨(numF 1 a ++ [sgB c]).toArray⟩ ⟨(numF 1 b).toArray⟩).run Tryd.prog W = .ok (.string ⟨(textAB a b c).toArray⟩) W := fun W => run_string_add_lists W (numF 1 a ++ [sgB c]) (numF 1 b) (by simp; omega) (by omega)
  clear la lb
  have tA := FrAt.new w a c b
  have zA := tA.lt
  have B0 := (Below.refl w.heap.size w).alloc (Nat.le_refl _) (.cells #[.int .i64 a, .bool c, .int .i64 b] 26)
  generalize textAB a b c = T at *
  cases c
  · simp only [sgB, Bool.false_eq_true, if_false] at h1 h2
    generalize numF 1 a = A at *
    generalize numF 1 b = B at *
    go_enter Tryd.func84, Tryd.ntmps84
    go_wp2_with fail
    obtain ⟨s0, -, s1, -, -, -⟩ := tA.cells
    have s2 := tA.lt
    have s3 := B0
    generalize w.alloc (.cells #[.int .i64 a, .bool false, .int .i64 b] 26) = X at *
    generalize hg : w.heap.size = g at *
    clear tA zA B0 ha hb
    refine wp_region_held_drew (S := fun w' => w'.cell? ⟨g, 0, none⟩ = some (.int .i64 a) ∧ w'.cell? ⟨g, 2, none⟩ = some (.int .i64 b) ∧ g < w'.heap.size ∧ Below g w w') (by kernel_rfl) ⟨by simpa using s0, by simpa using s1, by simpa using s2, Below.drew s3⟩ (fun hHeld => ?_)
    (refine wpAnyH_take (i := 0) (v := ?_) rfl (by kernel_rfl) (by kernel_rfl) (by kernel_rfl) (fun _ _ _ h => h) (Or.inl ⟨by kernel_rfl, ?_⟩) (by assumption) ?_; rotate_left; focus (intro w hSw; (try dsimp only at hSw); go_simp; try with_reducible rfl); (try simp only [List.getElem_toArray, List.getElem_cons_succ, List.getElem_cons_zero, Act.put, List.setIfInBounds_toArray, List.set_cons_zero, List.set_cons_succ])); (refine wpAnyH_take (i := 1) (v := ?_) rfl (by kernel_rfl) (by kernel_rfl) (by kernel_rfl) (fun _ _ _ h => h) (Or.inl ⟨by kernel_rfl, ?_⟩) (by assumption) ?_; rotate_left; focus (intro w hSw; (try dsimp only at hSw); go_simp; try with_reducible rfl); (try simp only [List.getElem_toArray, List.getElem_cons_succ, List.getElem_cons_zero, Act.put, List.setIfInBounds_toArray, List.set_cons_zero, List.set_cons_succ])); (refine wpAnyH_take (i := 3) (v := ?_) rfl (by kernel_rfl) (by kernel_rfl) (by kernel_rfl) (fun _ _ _ h => h) (Or.inl ⟨by kernel_rfl, ?_⟩) (by assumption) ?_; rotate_left; focus (intro w hSw; (try dsimp only at hSw); go_simp; try with_reducible rfl); (try simp only [List.getElem_toArray, List.getElem_cons_succ, List.getElem_cons_zero, Act.put, List.setIfInBounds_toArray, List.set_cons_zero, List.set_cons_succ])); (refine wpAnyH_take (i := 5) (v := ?_) rfl (by kernel_rfl) (by kernel_rfl) (by kernel_rfl) (fun _ _ _ h => h) (Or.inl ⟨by kernel_rfl, ?_⟩) (by assumption) ?_; rotate_left; focus (intro w hSw; (try dsimp only at hSw); go_simp; try with_reducible rfl); (try simp only [List.getElem_toArray, List.getElem_cons_succ, List.getElem_cons_zero, Act.put, List.setIfInBounds_toArray, List.set_cons_zero, List.set_cons_succ])); (refine wpAnyH_take (i := 6) (v := ?_) rfl (by kernel_rfl) (by kernel_rfl) (by kernel_rfl) (fun _ _ _ h => h) (Or.inl ⟨by kernel_rfl, ?_⟩) (by assumption) ?_; rotate_left; focus (intro w hSw; (try dsimp only at hSw); go_simp; try with_reducible rfl); (try simp only [List.getElem_toArray, List.getElem_cons_succ, List.getElem_cons_zero, Act.put, List.setIfInBounds_toArray, List.set_cons_zero, List.set_cons_succ]))
    refine wpAnyH_ready (rs := [2]) (by kernel_rfl) (by simp) ?_; refine AllReadyH.cons rfl (fun K hK => ?_) AllReadyH.nil
    go_simp
    go_at_call 89
    refine (IH.out.1 _).mono ?_; rintro e w' ⟨rfl, bd⟩
    have KS := Lib.hid (txtS_keep bd hHeld); clear hHeld bd
    go_wp2_with fail
    refine hK.out _ _ KS.out (fun hHeld => ?_)
    clear hK K KS
    (try simp only [List.getElem_toArray, List.getElem_cons_succ, List.getElem_cons_zero, Act.put, List.setIfInBounds_toArray, List.set_cons_zero, List.set_cons_succ])
    (refine wpAnyH_take (i := 4) (v := ?_) rfl (by kernel_rfl) (by kernel_rfl) (by kernel_rfl) (fun _ _ _ h => h) (Or.inl ⟨by kernel_rfl, ?_⟩) (by assumption) ?_; rotate_left; focus (intro w hSw; (try dsimp only at hSw); go_simp; try with_reducible rfl); (try simp only [List.getElem_toArray, List.getElem_cons_succ, List.getElem_cons_zero, Act.put, List.setIfInBounds_toArray, List.set_cons_zero, List.set_cons_succ]))
    refine wpAnyH_ready (rs := [7]) (by kernel_rfl) (by simp) ?_; refine AllReadyH.cons rfl (fun K hK => ?_) AllReadyH.nil
    go_simp
    go_at_call 89
    refine (IH.out.2 _).mono ?_; rintro e w' ⟨rfl, bd⟩
    have KS := Lib.hid (txtS_keep bd hHeld); clear hHeld bd
    go_wp2_with fail
    refine hK.out _ _ KS.out (fun hHeld => ?_)
    clear hK K KS
    (try simp only [List.getElem_toArray, List.getElem_cons_succ, List.getElem_cons_zero, Act.put, List.setIfInBounds_toArray, List.set_cons_zero, List.set_cons_succ])
    (refine wpAnyH_take (i := 8) (v := ?_) rfl (by kernel_rfl) (by kernel_rfl) (by kernel_rfl) (fun _ _ _ h => h) (Or.inl ⟨by kernel_rfl, ?_⟩) (by assumption) ?_; rotate_left; focus (intro w hSw; (try dsimp only at hSw); go_simp; try with_reducible rfl); (try simp only [List.getElem_toArray, List.getElem_cons_succ, List.getElem_cons_zero, Act.put, List.setIfInBounds_toArray, List.set_cons_zero, List.set_cons_succ])); (refine wpAnyH_take (i := 9) (v := ?_) rfl (by kernel_rfl) (by kernel_rfl) (by kernel_rfl) (fun _ _ _ h => h) (Or.inl ⟨by kernel_rfl, ?_⟩) (by assumption) ?_; rotate_left; focus (intro w hSw; (try dsimp only at hSw); go_simp; try with_reducible rfl); (try simp only [List.getElem_toArray, List.getElem_cons_succ, List.getElem_cons_zero, Act.put, List.setIfInBounds_toArray, List.set_cons_zero, List.set_cons_succ]))
    refine wpAnyH_done (by kernel_rfl) ?_ _
    have KS := Lib.hid hHeld; clear hHeld
    go_wp2_with fail
    go_ret
    exact ⟨rfl, by rw [hg]; exact KS.out.2.2.2⟩
  · simp only [sgB, if_true] at h1 h2
    generalize numF 1 a = A at *
    generalize numF 1 b = B at *
    go_enter Tryd.func84, Tryd.ntmps84
    go_wp2_with fail
    obtain ⟨s0, -, s1, -, -, -⟩ := tA.cells
    have s2 := tA.lt
    have s3 := B0
    generalize w.alloc (.cells #[.int .i64 a, .bool true, .int .i64 b] 26) = X at *
    generalize hg : w.heap.size = g at *
    clear tA zA B0 ha hb
    refine wp_region_held_drew (S := fun w' => w'.cell? ⟨g, 0, none⟩ = some (.int .i64 a) ∧ w'.cell? ⟨g, 2, none⟩ = some (.int .i64 b) ∧ g < w'.heap.size ∧ Below g w w') (by kernel_rfl) ⟨by simpa using s0, by simpa using s1, by simpa using s2, Below.drew s3⟩ (fun hHeld => ?_)
    (refine wpAnyH_take (i := 0) (v := ?_) rfl (by kernel_rfl) (by kernel_rfl) (by kernel_rfl) (fun _ _ _ h => h) (Or.inl ⟨by kernel_rfl, ?_⟩) (by assumption) ?_; rotate_left; focus (intro w hSw; (try dsimp only at hSw); go_simp; try with_reducible rfl); (try simp only [List.getElem_toArray, List.getElem_cons_succ, List.getElem_cons_zero, Act.put, List.setIfInBounds_toArray, List.set_cons_zero, List.set_cons_succ])); (refine wpAnyH_take (i := 1) (v := ?_) rfl (by kernel_rfl) (by kernel_rfl) (by kernel_rfl) (fun _ _ _ h => h) (Or.inl ⟨by kernel_rfl, ?_⟩) (by assumption) ?_; rotate_left; focus (intro w hSw; (try dsimp only at hSw); go_simp; try with_reducible rfl); (try simp only [List.getElem_toArray, List.getElem_cons_succ, List.getElem_cons_zero, Act.put, List.setIfInBounds_toArray, List.set_cons_zero, List.set_cons_succ])); (refine wpAnyH_take (i := 3) (v := ?_) rfl (by kernel_rfl) (by kernel_rfl) (by kernel_rfl) (fun _ _ _ h => h) (Or.inl ⟨by kernel_rfl, ?_⟩) (by assumption) ?_; rotate_left; focus (intro w hSw; (try dsimp only at hSw); go_simp; try with_reducible rfl); (try simp only [List.getElem_toArray, List.getElem_cons_succ, List.getElem_cons_zero, Act.put, List.setIfInBounds_toArray, List.set_cons_zero, List.set_cons_succ])); (refine wpAnyH_take (i := 5) (v := ?_) rfl (by kernel_rfl) (by kernel_rfl) (by kernel_rfl) (fun _ _ _ h => h) (Or.inl ⟨by kernel_rfl, ?_⟩) (by assumption) ?_; rotate_left; focus (intro w hSw; (try dsimp only at hSw); go_simp; try with_reducible rfl); (try simp only [List.getElem_toArray, List.getElem_cons_succ, List.getElem_cons_zero, Act.put, List.setIfInBounds_toArray, List.set_cons_zero, List.set_cons_succ])); (refine wpAnyH_take (i := 6) (v := ?_) rfl (by kernel_rfl) (by kernel_rfl) (by kernel_rfl) (fun _ _ _ h => h) (Or.inl ⟨by kernel_rfl, ?_⟩) (by assumption) ?_; rotate_left; focus (intro w hSw; (try dsimp only at hSw); go_simp; try with_reducible rfl); (try simp only [List.getElem_toArray, List.getElem_cons_succ, List.getElem_cons_zero, Act.put, List.setIfInBounds_toArray, List.set_cons_zero, List.set_cons_succ]))
    refine wpAnyH_ready (rs := [2]) (by kernel_rfl) (by simp) ?_; refine AllReadyH.cons rfl (fun K hK => ?_) AllReadyH.nil
    go_simp
    go_at_call 89
    refine (IH.out.1 _).mono ?_; rintro e w' ⟨rfl, bd⟩
    have KS := Lib.hid (txtS_keep bd hHeld); clear hHeld bd
    go_wp2_with fail
    refine hK.out _ _ KS.out (fun hHeld => ?_)
    clear hK K KS
    (try simp only [List.getElem_toArray, List.getElem_cons_succ, List.getElem_cons_zero, Act.put, List.setIfInBounds_toArray, List.set_cons_zero, List.set_cons_succ])
    (refine wpAnyH_take (i := 4) (v := ?_) rfl (by kernel_rfl) (by kernel_rfl) (by kernel_rfl) (fun _ _ _ h => h) (Or.inl ⟨by kernel_rfl, ?_⟩) (by assumption) ?_; rotate_left; focus (intro w hSw; (try dsimp only at hSw); go_simp; try with_reducible rfl); (try simp only [List.getElem_toArray, List.getElem_cons_succ, List.getElem_cons_zero, Act.put, List.setIfInBounds_toArray, List.set_cons_zero, List.set_cons_succ]))
    refine wpAnyH_ready (rs := [7]) (by kernel_rfl) (by simp) ?_; refine AllReadyH.cons rfl (fun K hK => ?_) AllReadyH.nil
    go_simp
    go_at_call 89
    refine (IH.out.2 _).mono ?_; rintro e w' ⟨rfl, bd⟩
    have KS := Lib.hid (txtS_keep bd hHeld); clear hHeld bd
    go_wp2_with fail
    refine hK.out _ _ KS.out (fun hHeld => ?_)
    clear hK K KS
    (try simp only [List.getElem_toArray, List.getElem_cons_succ, List.getElem_cons_zero, Act.put, List.setIfInBounds_toArray, List.set_cons_zero, List.set_cons_succ])
    (refine wpAnyH_take (i := 8) (v := ?_) rfl (by kernel_rfl) (by kernel_rfl) (by kernel_rfl) (fun _ _ _ h => h) (Or.inl ⟨by kernel_rfl, ?_⟩) (by assumption) ?_; rotate_left; focus (intro w hSw; (try dsimp only at hSw); go_simp; try with_reducible rfl); (try simp only [List.getElem_toArray, List.getElem_cons_succ, List.getElem_cons_zero, Act.put, List.setIfInBounds_toArray, List.set_cons_zero, List.set_cons_succ])); (refine wpAnyH_take (i := 9) (v := ?_) rfl (by kernel_rfl) (by kernel_rfl) (by kernel_rfl) (fun _ _ _ h => h) (Or.inl ⟨by kernel_rfl, ?_⟩) (by assumption) ?_; rotate_left; focus (intro w hSw; (try dsimp only at hSw); go_simp; try with_reducible rfl); (try simp only [List.getElem_toArray, List.getElem_cons_succ, List.getElem_cons_zero, Act.put, List.setIfInBounds_toArray, List.set_cons_zero, List.set_cons_succ]))
    refine wpAnyH_done (by kernel_rfl) ?_ _
    have KS := Lib.hid hHeld; clear hHeld
    go_wp2_with fail
    go_ret
    exact ⟨rfl, by rw [hg]; exact KS.out.2.2.2⟩

set_option maxHeartbeats 800000 in
theorem specFrameText_bad (r : Int) (c : Bool) (l : Int) (hg : frG r c l = false) (w : World) :
    Calls Tryd.prog 56 #[frW r c l] w fun e w' => e = .returned (.tuple #[.string ⟨#[]⟩, .bool false]) ∧ Below w.heap.size w w' := by
  have H := Lib.hid hg; clear hg
  go_enter Tryd.func56, Tryd.ntmps56
  go_wp2_with fail
  refine (frGood_any _ _ _ _).mono ?_; rintro e w1 ⟨rfl, b1⟩
  rw [H.out]
  go_wp2_with fail
  refine bodyPost_ret (v := .tuple #[.string ⟨#[]⟩, .bool false]) (by simp [results, Tryd.results56, go_sem]) rfl ⟨rfl, ?_⟩
  (repeat (first | exact Below.refl _ _ | exact ‹Below _ _ _› | refine Below.drew ?_ | refine Below.alloc ?_ (by first | omega | (simp; done) | (simp; omega)) _ | refine Below.setCell ?_ (by first | omega | (simp; done) | (simp; omega)) _ | refine Below.trans ?_ (Below.mono ‹Below _ _ _› (by first | omega | (simp; done) | (simp; omega)))))

theorem specText_n (n : Nat) (hn : n ≤ 36) (w : World) :
    Calls Tryd.prog 84 #[frV n] w fun e w' => e = .returned (.string ⟨(textL n).toArray⟩) ∧ Below w.heap.size w w' := by
  have h := specText_ab (rN n) (lN n) (rN_lt hn) (lN_lt n) (frC n) w
  rw [← frR_N, ← frL_N] at h; exact h

set_option maxHeartbeats 800000 in
theorem specFrameText_n (n : Nat) (hn : n ≤ 36) (w : World) :
    Calls Tryd.prog 56 #[frV n] w fun e w' => e = .returned (.tuple #[.string ⟨(textL n).toArray⟩, .bool true]) ∧ Below w.heap.size w w' := by
  have H := Lib.hid (frG_of hn)
  have HT := Lib.hid (specText_n n hn)
  generalize textL n = T at *
  go_enter Tryd.func56, Tryd.ntmps56
  go_wp2_with fail
  refine (frGood_any _ _ _ _).mono ?_; rintro e w1 ⟨rfl, b1⟩
  rw [H.out]
  obtain ⟨c1, f1⟩ := bcell b1; have z1 : w.heap.size < w1.heap.size := (by have := b1.size; (try simp at this); omega)
  go_wp2_with fail
  refine (HT.out _).mono ?_; rintro e w2 ⟨rfl, b2⟩
  go_wp2_with fail
  refine bodyPost_ret (v := .tuple #[.string ⟨T.toArray⟩, .bool true]) (by simp [results, Tryd.results56, go_sem]) rfl ⟨rfl, ?_⟩
  have sz_b1 := b1.size; (try simp at sz_b1); have sz_b2 := b2.size; (try simp at sz_b2)
  (repeat (first | exact Below.refl _ _ | exact ‹Below _ _ _› | refine Below.drew ?_ | refine Below.alloc ?_ (by first | omega | (simp; done) | (simp; omega)) _ | refine Below.setCell ?_ (by first | omega | (simp; done) | (simp; omega)) _ | refine Below.trans ?_ (Below.mono ‹Below _ _ _› (by first | omega | (simp; done) | (simp; omega)))))

set_option maxHeartbeats 800000 in
theorem frameText_bad (r : Int) (c : Bool) (l : Int) (hg : frG r c l = false) (w : World) :
    Calls Tryd.prog 57 #[frW r c l] w fun e w' => e = .returned (.tuple #[.string ⟨#[]⟩, .bool false]) ∧ Below w.heap.size w w' := by
  have H := Lib.hid hg; clear hg
  go_enter Tryd.func57, Tryd.ntmps57
  go_wp2_with fail
  refine (isFrame_any _ _ _ _).mono ?_; rintro e w1 ⟨rfl, b1⟩
  rw [H.out]
  go_wp2_with fail
  refine bodyPost_ret (v := .tuple #[.string ⟨#[]⟩, .bool false]) (by simp [results, Tryd.results57, go_sem]) rfl ⟨rfl, ?_⟩
  (repeat (first | exact Below.refl _ _ | exact ‹Below _ _ _› | refine Below.drew ?_ | refine Below.alloc ?_ (by first | omega | (simp; done) | (simp; omega)) _ | refine Below.setCell ?_ (by first | omega | (simp; done) | (simp; omega)) _ | refine Below.trans ?_ (Below.mono ‹Below _ _ _› (by first | omega | (simp; done) | (simp; omega)))))

set_option maxHeartbeats 3200000 in
set_option maxRecDepth 100000 in
theorem frameText_ab (a b : Nat) (ha : a < 100) (hb : b < 100) (c : Bool) (hg : frG a c b = true) (w : World) :
    Calls Tryd.prog 57 #[frW a c b] w fun e w' => e = .returned (.tuple #[.string ⟨(textAB a b c).toArray⟩, .bool true]) ∧ Below w.heap.size w w' := by
  have H := Lib.hid hg; clear hg
  have ih : ∀ (m : Nat) (w : World), m < 100 → Calls Tryd.prog 85 #[.int .i64 m] w fun e w' => e = .returned (.string ⟨(numF 1 m).toArray⟩) ∧ w' = w := fun m w h => by
    rw [← num_dec m h]; exact Tryd.strconv_Itoa_small m h w
  have IH := Lib.hid (And.intro (fun w => ih a w ha) (fun w => ih b w hb)); clear ih
  have la := (numF_len 1 a).2
  have lb := (numF_len 1 b).2
  have h1 : ∀ W : World, (Op.stringOp .add ⟨(numF 1 a).toArray⟩ ⟨#[sgB c]⟩).run Tryd.prog W = .ok (.string ⟨(numF 1 a ++ [sgB c]).toArray⟩) W := fun W => run_string_add_lists W (numF 1 a) [sgB c] (by omega) (by simp)
  have h2 : ∀ W : World, (Op.stringOp .add ⟨(numF 1 a ++ [sgB c]).toArray⟩ ⟨(numF 1 b).toArray⟩).run Tryd.prog W = .ok (.string ⟨(textAB a b c).toArray⟩) W := fun W => run_string_add_lists W (numF 1 a ++ [sgB c]) (numF 1 b) (by simp; omega) (by omega)
  clear la lb ha hb
  generalize textAB a b c = T at *
  cases c
  all_goals
    simp only [sgB, Bool.false_eq_true, if_false, if_true] at h1 h2
    generalize numF 1 a = A at *
    generalize numF 1 b = B at *
    go_enter Tryd.func57, Tryd.ntmps57
    go_wp2_with fail
    refine (isFrame_any _ _ _ _).mono ?_; rintro e w1 ⟨rfl, b1⟩
    rw [H.out]
    obtain ⟨y0, y1, y2, -, -, -⟩ := ((FrAt.new w _ _ _).keep b1).cells
    have HB := Lib.hid b1; clear b1
    go_wp2_with fail
    go_quiet ((go_at_call 85; (first | exact (IH.out.1 _).mono (fun _ _ h => ⟨h.1, _, h.2⟩) | exact (IH.out.2 _).mono (fun _ _ h => ⟨h.1, _, h.2⟩))))
    go_wp2
    refine bodyPost_ret (v := .tuple #[.string ⟨T.toArray⟩, .bool true]) (by simp [results, Tryd.results57, go_sem]) rfl ⟨rfl, ?_⟩
    have b1 := HB.out
    exact below_drewN (((Below.refl _ _).alloc (Nat.le_refl _) _).trans (b1.mono (by simp))) _

theorem frameText_n (n : Nat) (hn : n ≤ 36) (w : World) :
    Calls Tryd.prog 57 #[frV n] w fun e w' => e = .returned (.tuple #[.string ⟨(textL n).toArray⟩, .bool true]) ∧ Below w.heap.size w w' := by
  have hg := frG_of hn
  rw [frR_N, frL_N] at hg
  have h := frameText_ab (rN n) (lN n) (rN_lt hn) (lN_lt n) (frC n) hg w
  rw [← frR_N, ← frL_N] at h; exact h

end Go.Proofs.YtlehhkijigglgaaDoor
