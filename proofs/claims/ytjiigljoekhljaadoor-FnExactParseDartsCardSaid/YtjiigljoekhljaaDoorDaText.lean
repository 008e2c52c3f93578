/-
  Darts as texts: the model.
-/
import Derived.Test.YtjiigljoekhljaaDoorText
import Derived.Test.YtjiigljoekhljaaDoorDartStruct
import Derived.Test.YtjiigljoekhljaaDoorShelf
import Derived.Deep.RegionHeld3
import Derived.Deep.WholeRow
namespace Go.Proofs.YtjiigljoekhljaaDoor
open Go.RowKit
set_option linter.unusedVariables false

theorem anyH_mono {P : Program} {md : Region.Mode} {ops : Array Oper} {Q : Exit → Act → World → Prop} {S S2 : World → Prop} (hS : ∀ w, S2 w → S w) :
    ∀ (fuel : Nat) (listed : Array Bool) (a : Act) (w : World), wpAnyH P md ops Q S2 fuel listed a w → wpAnyH P md ops Q S fuel listed a w
  | 0, _, _, _, h => h
  | fuel + 1, _, _, _, h => ⟨h.1, fun i hi => wpOp_mono (fun a w hk => ⟨hS w hk.1, anyH_mono hS fuel _ a w hk.2⟩) (h.2 i hi)⟩

def preD (t : Int) : List UInt8 := if t = 2 then [100] else if t = 3 then [116] else []
def textD (n : Nat) (t : Int) : List UInt8 := preD t ++ numF 1 n

/-- The dart's block, and what is old. -/
def DaR (g : Nat) (w Y : World) : Prop := g < Y.heap.size ∧ Below g w Y
theorem da0_keep {g : Nat} {w Y Z : World} {x y : Value} (bd : Below Y.heap.size Y Z) (h : Y.cell? ⟨g, 0, none⟩ = some x ∧ Y.cell? ⟨g, 1, none⟩ = some y ∧ DaR g w Y) :
    Z.cell? ⟨g, 0, none⟩ = some x ∧ Z.cell? ⟨g, 1, none⟩ = some y ∧ DaR g w Z := by
  obtain ⟨h0, h1, h2, h3⟩ := h
  exact ⟨by rw [bd.cell (p := ⟨g, 0, none⟩) h2]; exact h0, by rw [bd.cell (p := ⟨g, 1, none⟩) h2]; exact h1, Nat.lt_of_lt_of_le h2 bd.size, h3.trans (bd.mono (Nat.le_of_lt h2))⟩
theorem da1_keep {g b : Nat} {w Y Z : World} {x y p q r : Value} (bd : Below Y.heap.size Y Z) (h : Y.cell? ⟨g, 0, none⟩ = some x ∧ Y.cell? ⟨g, 1, none⟩ = some y ∧ Y.cell? ⟨b, 0, none⟩ = some p ∧ Y.cell? ⟨b, 1, none⟩ = some q ∧ Y.cell? ⟨b, 2, none⟩ = some r ∧ b < Y.heap.size ∧ DaR g w Y) :
    Z.cell? ⟨g, 0, none⟩ = some x ∧ Z.cell? ⟨g, 1, none⟩ = some y ∧ Z.cell? ⟨b, 0, none⟩ = some p ∧ Z.cell? ⟨b, 1, none⟩ = some q ∧ Z.cell? ⟨b, 2, none⟩ = some r ∧ b < Z.heap.size ∧ DaR g w Z := by
  obtain ⟨h0, h1, h2, h3, h4, h5, h6⟩ := h
  obtain ⟨k0, k1, k2⟩ := da0_keep bd ⟨h0, h1, h6⟩
  exact ⟨k0, k1, by rw [bd.cell (p := ⟨b, 0, none⟩) h5]; exact h2, by rw [bd.cell (p := ⟨b, 1, none⟩) h5]; exact h3, by rw [bd.cell (p := ⟨b, 2, none⟩) h5]; exact h4, Nat.lt_of_lt_of_le h5 bd.size, k2⟩
theorem da_build {g : Nat} {w Y : World} {x y p q r : Value} {T : TypeId} (h : Y.cell? ⟨g, 0, none⟩ = some x ∧ Y.cell? ⟨g, 1, none⟩ = some y ∧ DaR g w Y) :
    (Y.alloc (.cells #[p, q, r] T)).cell? ⟨g, 0, none⟩ = some x ∧ (Y.alloc (.cells #[p, q, r] T)).cell? ⟨g, 1, none⟩ = some y ∧ (Y.alloc (.cells #[p, q, r] T)).cell? ⟨Y.heap.size, 0, none⟩ = some p ∧ (Y.alloc (.cells #[p, q, r] T)).cell? ⟨Y.heap.size, 1, none⟩ = some q ∧ (Y.alloc (.cells #[p, q, r] T)).cell? ⟨Y.heap.size, 2, none⟩ = some r ∧ Y.heap.size < (Y.alloc (.cells #[p, q, r] T)).heap.size ∧ DaR g w (Y.alloc (.cells #[p, q, r] T)) := by
  obtain ⟨h0, h1, h2, h3⟩ := h
  have hn := heap_alloc_last Y (.cells #[p, q, r] T)
  have bd : Below Y.heap.size Y (Y.alloc (.cells #[p, q, r] T)) := (Below.refl _ _).alloc (Nat.le_refl _) _
  obtain ⟨k0, k1, k2⟩ := da0_keep bd ⟨h0, h1, h2, h3⟩
  exact ⟨k0, k1, cell_of_row _ _ 0 _ _ _ hn, cell_of_row _ _ 1 _ _ _ hn, cell_of_row _ _ 2 _ _ _ hn, by simp, k2⟩

set_option maxHeartbeats 3200000 in
set_option maxRecDepth 100000 in
theorem daText_1 (n : Nat) (hn : n < 100) (w : World) :
    Calls Tryd.prog 85 #[.agg #[.int .i64 n, .int .i64 1]] w fun e w' => e = .returned (.string ⟨([] ++ numF 1 n).toArray⟩) ∧ Below w.heap.size w w' := by
  have ih := fun w => l1Num_any 1 n w (by omega) (by omega)
  have IH := Lib.hid ih; clear ih
  have hlen := (numF_len 1 n).2
  have hadd : ∀ W : World, (Op.stringOp .add ⟨#[]⟩ ⟨(numF 1 n).toArray⟩).run Tryd.prog W = .ok (.string ⟨([] ++ numF 1 n).toArray⟩) W := fun W =>
    run_string_add_lists W [] (numF 1 n) (by simp) (by omega)
  clear hlen
  unfold numV at IH
  generalize ([] ++ numF 1 n) = T at *
  generalize numF 1 n = A at *
  have e1 : IntKind.i64.wrap 0 = 0 := by decide
  have s0 : (w.alloc (.cells #[.int .i64 (n : Int), .int .i64 1] 69)).cell? ⟨w.heap.size, 0, none⟩ = some (.int .i64 n) := cell_of_row _ _ 0 _ _ _ (heap_alloc_last w _)
  have s1 : (w.alloc (.cells #[.int .i64 (n : Int), .int .i64 1] 69)).cell? ⟨w.heap.size, 1, none⟩ = some (.int .i64 1) := cell_of_row _ _ 1 _ _ _ (heap_alloc_last w _)
  have s2 : DaR w.heap.size w (w.alloc (.cells #[.int .i64 (n : Int), .int .i64 1] 69)).drew := ⟨by simp, ((Below.refl _ _).alloc (Nat.le_refl _) _).drew⟩
  go_enter Tryd.func85, Tryd.ntmps85
  go_wp2_with fail
  generalize w.alloc (.cells #[.int .i64 (n : Int), .int .i64 1] 69) = X at *
  generalize hg : w.heap.size = g at *
  refine wp_region_held_drew (S := fun w' => w'.cell? ⟨g, 0, none⟩ = some (.int .i64 (n : Int)) ∧ w'.cell? ⟨g, 1, none⟩ = some (.int .i64 1) ∧ DaR g w w') (by kernel_rfl) ⟨by simpa using s0, by simpa using s1, s2⟩ (fun hHeld => ?_)
  clear s0 s1 s2
  generalize X.drew = Z at hHeld ⊢
  (refine wpAnyH_take (i := 1) (v := ?_) rfl (by kernel_rfl) (by kernel_rfl) (by kernel_rfl) (fun _ _ _ h => h) (Or.inl ⟨by kernel_rfl, ?_⟩) (by assumption) ?_; rotate_left; focus (intro w hSw; (try dsimp only at hSw); go_simp; try with_reducible rfl); (try simp only [List.getElem_toArray, List.getElem_cons_succ, List.getElem_cons_zero, Act.put, List.setIfInBounds_toArray, List.set_cons_zero, List.set_cons_succ])); (refine wpAnyH_take (i := 2) (v := ?_) rfl (by kernel_rfl) (by kernel_rfl) (by kernel_rfl) (fun _ _ _ h => h) (Or.inl ⟨by kernel_rfl, ?_⟩) (by assumption) ?_; rotate_left; focus (intro w hSw; (try dsimp only at hSw); go_simp; try with_reducible rfl); (try simp only [List.getElem_toArray, List.getElem_cons_succ, List.getElem_cons_zero, Act.put, List.setIfInBounds_toArray, List.set_cons_zero, List.set_cons_succ])); (refine wpAnyH_take (i := 3) (v := ?_) rfl (by kernel_rfl) (by kernel_rfl) (by kernel_rfl) (fun _ _ _ h => h) (Or.inl ⟨by kernel_rfl, ?_⟩) (by assumption) ?_; rotate_left; focus (intro w hSw; (try dsimp only at hSw); go_simp; try with_reducible rfl); (try simp only [List.getElem_toArray, List.getElem_cons_succ, List.getElem_cons_zero, Act.put, List.setIfInBounds_toArray, List.set_cons_zero, List.set_cons_succ])); (refine wpAnyH_take (i := 6) (v := ?_) rfl (by kernel_rfl) (by kernel_rfl) (by kernel_rfl) (fun _ _ _ h => h) (Or.inl ⟨by kernel_rfl, ?_⟩) (by assumption) ?_; rotate_left; focus (intro w hSw; (try dsimp only at hSw); go_simp; try with_reducible rfl); (try simp only [List.getElem_toArray, List.getElem_cons_succ, List.getElem_cons_zero, Act.put, List.setIfInBounds_toArray, List.set_cons_zero, List.set_cons_succ])); (refine wpAnyH_take (i := 7) (v := ?_) rfl (by kernel_rfl) (by kernel_rfl) (by kernel_rfl) (fun _ _ _ h => h) (Or.inl ⟨by kernel_rfl, ?_⟩) (by assumption) ?_; rotate_left; focus (intro w hSw; (try dsimp only at hSw); go_simp; try with_reducible rfl); (try simp only [List.getElem_toArray, List.getElem_cons_succ, List.getElem_cons_zero, Act.put, List.setIfInBounds_toArray, List.set_cons_zero, List.set_cons_succ]))
  refine wpAnyH_ready (rs := [0, 8]) (by kernel_rfl) (by simp) (AllReadyH.cons rfl (fun K hK => ?_) (AllReadyH.cons rfl (fun K hK => ?_) AllReadyH.nil))
  · have HS := Lib.hid (da_build (p := .string ⟨#[]⟩) (q := .string ⟨#[100]⟩) (r := .string ⟨#[116]⟩) (T := 9) hHeld); clear hHeld
    go_simp
    refine hK.out _ _ ⟨HS.out.1, HS.out.2.1, HS.out.2.2.2.2.2.2⟩ (fun _ => ?_)
    clear hK K
    refine anyH_mono (S2 := (fun y => y.cell? ⟨g, 0, none⟩ = some (.int .i64 (n : Int)) ∧ y.cell? ⟨g, 1, none⟩ = some (.int .i64 1) ∧ y.cell? ⟨Z.heap.size, 0, none⟩ = some (.string ⟨#[]⟩) ∧ y.cell? ⟨Z.heap.size, 1, none⟩ = some (.string ⟨#[100]⟩) ∧ y.cell? ⟨Z.heap.size, 2, none⟩ = some (.string ⟨#[116]⟩) ∧ Z.heap.size < y.heap.size ∧ DaR g w y)) (fun _ h => ⟨h.1, h.2.1, h.2.2.2.2.2.2⟩) _ _ _ _ ?_
    have hHeld := HS.out
    clear HS
    generalize Z.alloc (.cells #[.string ⟨#[]⟩, .string ⟨#[100]⟩, .string ⟨#[116]⟩] 9) = V at *
    generalize Z.heap.size = b at *
    (try simp only [List.getElem_toArray, List.getElem_cons_succ, List.getElem_cons_zero, Act.put, List.setIfInBounds_toArray, List.set_cons_zero, List.set_cons_succ])
    (refine wpAnyH_take (i := 4) (v := ?_) rfl (by kernel_rfl) (by kernel_rfl) (by kernel_rfl) (fun _ _ _ h => h) (Or.inl ⟨by kernel_rfl, ?_⟩) (by assumption) ?_; rotate_left; focus (intro w hSw; (try dsimp only at hSw); go_simp; try with_reducible rfl); (try simp only [List.getElem_toArray, List.getElem_cons_succ, List.getElem_cons_zero, Act.put, List.setIfInBounds_toArray, List.set_cons_zero, List.set_cons_succ])); (refine wpAnyH_take (i := 5) (v := ?_) rfl (by kernel_rfl) (by kernel_rfl) (by kernel_rfl) (fun _ _ _ h => h) (Or.inl ⟨by kernel_rfl, ?_⟩) (by assumption) ?_; rotate_left; focus (intro w hSw; (try dsimp only at hSw); go_simp; try with_reducible rfl); (try simp only [List.getElem_toArray, List.getElem_cons_succ, List.getElem_cons_zero, Act.put, List.setIfInBounds_toArray, List.set_cons_zero, List.set_cons_succ]))
    refine wpAnyH_ready (rs := [8]) (by kernel_rfl) (by simp) (AllReadyH.cons rfl (fun K hK => ?_) AllReadyH.nil)
    have HS := Lib.hid hHeld; clear hHeld
    go_simp
    go_at_call 80
    refine (IH.out _).mono ?_; rintro e w' ⟨rfl, bd⟩
    have KS := Lib.hid (da1_keep bd HS.out); clear HS bd
    go_wp2_with fail
    refine hK.out _ _ KS.out (fun hHeld => ?_)
    clear hK K KS
    (try simp only [List.getElem_toArray, List.getElem_cons_succ, List.getElem_cons_zero, Act.put, List.setIfInBounds_toArray, List.set_cons_zero, List.set_cons_succ])
    (refine wpAnyH_take (i := 9) (v := ?_) rfl (by kernel_rfl) (by kernel_rfl) (by kernel_rfl) (fun _ _ _ h => h) (Or.inl ⟨by kernel_rfl, ?_⟩) (by assumption) ?_; rotate_left; focus (intro w hSw; (try dsimp only at hSw); go_simp; try with_reducible rfl); (try simp only [List.getElem_toArray, List.getElem_cons_succ, List.getElem_cons_zero, Act.put, List.setIfInBounds_toArray, List.set_cons_zero, List.set_cons_succ])); (refine wpAnyH_take (i := 10) (v := ?_) rfl (by kernel_rfl) (by kernel_rfl) (by kernel_rfl) (fun _ _ _ h => h) (Or.inl ⟨by kernel_rfl, ?_⟩) (by assumption) ?_; rotate_left; focus (intro w hSw; (try dsimp only at hSw); go_simp; try with_reducible rfl); (try simp only [List.getElem_toArray, List.getElem_cons_succ, List.getElem_cons_zero, Act.put, List.setIfInBounds_toArray, List.set_cons_zero, List.set_cons_succ]))
    refine wpAnyH_done (by kernel_rfl) ?_ _
    have KS := Lib.hid hHeld.2.2.2.2.2.2.2; clear hHeld
    go_wp2_with fail
    go_ret
    exact ⟨rfl, by rw [hg]; exact KS.out⟩
  · have HS := Lib.hid hHeld; clear hHeld
    go_simp
    go_at_call 80
    refine (IH.out _).mono ?_; rintro e w' ⟨rfl, bd⟩
    have KS := Lib.hid (da0_keep bd HS.out); clear HS bd
    go_wp2_with fail
    refine hK.out _ _ KS.out (fun hHeld => ?_)
    clear hK K KS
    (try simp only [List.getElem_toArray, List.getElem_cons_succ, List.getElem_cons_zero, Act.put, List.setIfInBounds_toArray, List.set_cons_zero, List.set_cons_succ])
    refine wpAnyH_ready (rs := [0]) (by kernel_rfl) (by simp) (AllReadyH.cons rfl (fun K hK => ?_) AllReadyH.nil)
    have HS := Lib.hid (da_build (p := .string ⟨#[]⟩) (q := .string ⟨#[100]⟩) (r := .string ⟨#[116]⟩) (T := 9) hHeld); clear hHeld
    go_simp
    refine hK.out _ _ ⟨HS.out.1, HS.out.2.1, HS.out.2.2.2.2.2.2⟩ (fun _ => ?_)
    clear hK K
    refine anyH_mono (S2 := (fun y => y.cell? ⟨g, 0, none⟩ = some (.int .i64 (n : Int)) ∧ y.cell? ⟨g, 1, none⟩ = some (.int .i64 1) ∧ y.cell? ⟨w'.heap.size, 0, none⟩ = some (.string ⟨#[]⟩) ∧ y.cell? ⟨w'.heap.size, 1, none⟩ = some (.string ⟨#[100]⟩) ∧ y.cell? ⟨w'.heap.size, 2, none⟩ = some (.string ⟨#[116]⟩) ∧ w'.heap.size < y.heap.size ∧ DaR g w y)) (fun _ h => ⟨h.1, h.2.1, h.2.2.2.2.2.2⟩) _ _ _ _ ?_
    have hHeld := HS.out
    clear HS
    generalize w'.alloc (.cells #[.string ⟨#[]⟩, .string ⟨#[100]⟩, .string ⟨#[116]⟩] 9) = V at *
    generalize w'.heap.size = b at *
    (try simp only [List.getElem_toArray, List.getElem_cons_succ, List.getElem_cons_zero, Act.put, List.setIfInBounds_toArray, List.set_cons_zero, List.set_cons_succ])
    (refine wpAnyH_take (i := 4) (v := ?_) rfl (by kernel_rfl) (by kernel_rfl) (by kernel_rfl) (fun _ _ _ h => h) (Or.inl ⟨by kernel_rfl, ?_⟩) (by assumption) ?_; rotate_left; focus (intro w hSw; (try dsimp only at hSw); go_simp; try with_reducible rfl); (try simp only [List.getElem_toArray, List.getElem_cons_succ, List.getElem_cons_zero, Act.put, List.setIfInBounds_toArray, List.set_cons_zero, List.set_cons_succ])); (refine wpAnyH_take (i := 5) (v := ?_) rfl (by kernel_rfl) (by kernel_rfl) (by kernel_rfl) (fun _ _ _ h => h) (Or.inl ⟨by kernel_rfl, ?_⟩) (by assumption) ?_; rotate_left; focus (intro w hSw; (try dsimp only at hSw); go_simp; try with_reducible rfl); (try simp only [List.getElem_toArray, List.getElem_cons_succ, List.getElem_cons_zero, Act.put, List.setIfInBounds_toArray, List.set_cons_zero, List.set_cons_succ])); (refine wpAnyH_take (i := 9) (v := ?_) rfl (by kernel_rfl) (by kernel_rfl) (by kernel_rfl) (fun _ _ _ h => h) (Or.inl ⟨by kernel_rfl, ?_⟩) (by assumption) ?_; rotate_left; focus (intro w hSw; (try dsimp only at hSw); go_simp; try with_reducible rfl); (try simp only [List.getElem_toArray, List.getElem_cons_succ, List.getElem_cons_zero, Act.put, List.setIfInBounds_toArray, List.set_cons_zero, List.set_cons_succ])); (refine wpAnyH_take (i := 10) (v := ?_) rfl (by kernel_rfl) (by kernel_rfl) (by kernel_rfl) (fun _ _ _ h => h) (Or.inl ⟨by kernel_rfl, ?_⟩) (by assumption) ?_; rotate_left; focus (intro w hSw; (try dsimp only at hSw); go_simp; try with_reducible rfl); (try simp only [List.getElem_toArray, List.getElem_cons_succ, List.getElem_cons_zero, Act.put, List.setIfInBounds_toArray, List.set_cons_zero, List.set_cons_succ]))
    refine wpAnyH_done (by kernel_rfl) ?_ _
    have KS := Lib.hid hHeld.2.2.2.2.2.2.2; clear hHeld
    go_wp2_with fail
    go_ret
    exact ⟨rfl, by rw [hg]; exact KS.out⟩

set_option maxHeartbeats 3200000 in
set_option maxRecDepth 100000 in
theorem daText_2 (n : Nat) (hn : n < 100) (w : World) :
    Calls Tryd.prog 85 #[.agg #[.int .i64 n, .int .i64 2]] w fun e w' => e = .returned (.string ⟨([100] ++ numF 1 n).toArray⟩) ∧ Below w.heap.size w w' := by
  have ih := fun w => l1Num_any 1 n w (by omega) (by omega)
  have IH := Lib.hid ih; clear ih
  have hlen := (numF_len 1 n).2
  have hadd : ∀ W : World, (Op.stringOp .add ⟨#[100]⟩ ⟨(numF 1 n).toArray⟩).run Tryd.prog W = .ok (.string ⟨([100] ++ numF 1 n).toArray⟩) W := fun W =>
    run_string_add_lists W [100] (numF 1 n) (by simp) (by omega)
  clear hlen
  unfold numV at IH
  generalize ([100] ++ numF 1 n) = T at *
  generalize numF 1 n = A at *
  have e1 : IntKind.i64.wrap 1 = 1 := by decide
  have s0 : (w.alloc (.cells #[.int .i64 (n : Int), .int .i64 2] 69)).cell? ⟨w.heap.size, 0, none⟩ = some (.int .i64 n) := cell_of_row _ _ 0 _ _ _ (heap_alloc_last w _)
  have s1 : (w.alloc (.cells #[.int .i64 (n : Int), .int .i64 2] 69)).cell? ⟨w.heap.size, 1, none⟩ = some (.int .i64 2) := cell_of_row _ _ 1 _ _ _ (heap_alloc_last w _)
  have s2 : DaR w.heap.size w (w.alloc (.cells #[.int .i64 (n : Int), .int .i64 2] 69)).drew := ⟨by simp, ((Below.refl _ _).alloc (Nat.le_refl _) _).drew⟩
  go_enter Tryd.func85, Tryd.ntmps85
  go_wp2_with fail
  generalize w.alloc (.cells #[.int .i64 (n : Int), .int .i64 2] 69) = X at *
  generalize hg : w.heap.size = g at *
  refine wp_region_held_drew (S := fun w' => w'.cell? ⟨g, 0, none⟩ = some (.int .i64 (n : Int)) ∧ w'.cell? ⟨g, 1, none⟩ = some (.int .i64 2) ∧ DaR g w w') (by kernel_rfl) ⟨by simpa using s0, by simpa using s1, s2⟩ (fun hHeld => ?_)
  clear s0 s1 s2
  generalize X.drew = Z at hHeld ⊢
  (refine wpAnyH_take (i := 1) (v := ?_) rfl (by kernel_rfl) (by kernel_rfl) (by kernel_rfl) (fun _ _ _ h => h) (Or.inl ⟨by kernel_rfl, ?_⟩) (by assumption) ?_; rotate_left; focus (intro w hSw; (try dsimp only at hSw); go_simp; try with_reducible rfl); (try simp only [List.getElem_toArray, List.getElem_cons_succ, List.getElem_cons_zero, Act.put, List.setIfInBounds_toArray, List.set_cons_zero, List.set_cons_succ])); (refine wpAnyH_take (i := 2) (v := ?_) rfl (by kernel_rfl) (by kernel_rfl) (by kernel_rfl) (fun _ _ _ h => h) (Or.inl ⟨by kernel_rfl, ?_⟩) (by assumption) ?_; rotate_left; focus (intro w hSw; (try dsimp only at hSw); go_simp; try with_reducible rfl); (try simp only [List.getElem_toArray, List.getElem_cons_succ, List.getElem_cons_zero, Act.put, List.setIfInBounds_toArray, List.set_cons_zero, List.set_cons_succ])); (refine wpAnyH_take (i := 3) (v := ?_) rfl (by kernel_rfl) (by kernel_rfl) (by kernel_rfl) (fun _ _ _ h => h) (Or.inl ⟨by kernel_rfl, ?_⟩) (by assumption) ?_; rotate_left; focus (intro w hSw; (try dsimp only at hSw); go_simp; try with_reducible rfl); (try simp only [List.getElem_toArray, List.getElem_cons_succ, List.getElem_cons_zero, Act.put, List.setIfInBounds_toArray, List.set_cons_zero, List.set_cons_succ])); (refine wpAnyH_take (i := 6) (v := ?_) rfl (by kernel_rfl) (by kernel_rfl) (by kernel_rfl) (fun _ _ _ h => h) (Or.inl ⟨by kernel_rfl, ?_⟩) (by assumption) ?_; rotate_left; focus (intro w hSw; (try dsimp only at hSw); go_simp; try with_reducible rfl); (try simp only [List.getElem_toArray, List.getElem_cons_succ, List.getElem_cons_zero, Act.put, List.setIfInBounds_toArray, List.set_cons_zero, List.set_cons_succ])); (refine wpAnyH_take (i := 7) (v := ?_) rfl (by kernel_rfl) (by kernel_rfl) (by kernel_rfl) (fun _ _ _ h => h) (Or.inl ⟨by kernel_rfl, ?_⟩) (by assumption) ?_; rotate_left; focus (intro w hSw; (try dsimp only at hSw); go_simp; try with_reducible rfl); (try simp only [List.getElem_toArray, List.getElem_cons_succ, List.getElem_cons_zero, Act.put, List.setIfInBounds_toArray, List.set_cons_zero, List.set_cons_succ]))
  refine wpAnyH_ready (rs := [0, 8]) (by kernel_rfl) (by simp) (AllReadyH.cons rfl (fun K hK => ?_) (AllReadyH.cons rfl (fun K hK => ?_) AllReadyH.nil))
  · have HS := Lib.hid (da_build (p := .string ⟨#[]⟩) (q := .string ⟨#[100]⟩) (r := .string ⟨#[116]⟩) (T := 9) hHeld); clear hHeld
    go_simp
    refine hK.out _ _ ⟨HS.out.1, HS.out.2.1, HS.out.2.2.2.2.2.2⟩ (fun _ => ?_)
    clear hK K
    refine anyH_mono (S2 := (fun y => y.cell? ⟨g, 0, none⟩ = some (.int .i64 (n : Int)) ∧ y.cell? ⟨g, 1, none⟩ = some (.int .i64 2) ∧ y.cell? ⟨Z.heap.size, 0, none⟩ = some (.string ⟨#[]⟩) ∧ y.cell? ⟨Z.heap.size, 1, none⟩ = some (.string ⟨#[100]⟩) ∧ y.cell? ⟨Z.heap.size, 2, none⟩ = some (.string ⟨#[116]⟩) ∧ Z.heap.size < y.heap.size ∧ DaR g w y)) (fun _ h => ⟨h.1, h.2.1, h.2.2.2.2.2.2⟩) _ _ _ _ ?_
    have hHeld := HS.out
    clear HS
    generalize Z.alloc (.cells #[.string ⟨#[]⟩, .string ⟨#[100]⟩, .string ⟨#[116]⟩] 9) = V at *
    generalize Z.heap.size = b at *
    (try simp only [List.getElem_toArray, List.getElem_cons_succ, List.getElem_cons_zero, Act.put, List.setIfInBounds_toArray, List.set_cons_zero, List.set_cons_succ])
    (refine wpAnyH_take (i := 4) (v := ?_) rfl (by kernel_rfl) (by kernel_rfl) (by kernel_rfl) (fun _ _ _ h => h) (Or.inl ⟨by kernel_rfl, ?_⟩) (by assumption) ?_; rotate_left; focus (intro w hSw; (try dsimp only at hSw); go_simp; try with_reducible rfl); (try simp only [List.getElem_toArray, List.getElem_cons_succ, List.getElem_cons_zero, Act.put, List.setIfInBounds_toArray, List.set_cons_zero, List.set_cons_succ])); (refine wpAnyH_take (i := 5) (v := ?_) rfl (by kernel_rfl) (by kernel_rfl) (by kernel_rfl) (fun _ _ _ h => h) (Or.inl ⟨by kernel_rfl, ?_⟩) (by assumption) ?_; rotate_left; focus (intro w hSw; (try dsimp only at hSw); go_simp; try with_reducible rfl); (try simp only [List.getElem_toArray, List.getElem_cons_succ, List.getElem_cons_zero, Act.put, List.setIfInBounds_toArray, List.set_cons_zero, List.set_cons_succ]))
    refine wpAnyH_ready (rs := [8]) (by kernel_rfl) (by simp) (AllReadyH.cons rfl (fun K hK => ?_) AllReadyH.nil)
    have HS := Lib.hid hHeld; clear hHeld
    go_simp
    go_at_call 80
    refine (IH.out _).mono ?_; rintro e w' ⟨rfl, bd⟩
    have KS := Lib.hid (da1_keep bd HS.out); clear HS bd
    go_wp2_with fail
    refine hK.out _ _ KS.out (fun hHeld => ?_)
    clear hK K KS
    (try simp only [List.getElem_toArray, List.getElem_cons_succ, List.getElem_cons_zero, Act.put, List.setIfInBounds_toArray, List.set_cons_zero, List.set_cons_succ])
    (refine wpAnyH_take (i := 9) (v := ?_) rfl (by kernel_rfl) (by kernel_rfl) (by kernel_rfl) (fun _ _ _ h => h) (Or.inl ⟨by kernel_rfl, ?_⟩) (by assumption) ?_; rotate_left; focus (intro w hSw; (try dsimp only at hSw); go_simp; try with_reducible rfl); (try simp only [List.getElem_toArray, List.getElem_cons_succ, List.getElem_cons_zero, Act.put, List.setIfInBounds_toArray, List.set_cons_zero, List.set_cons_succ])); (refine wpAnyH_take (i := 10) (v := ?_) rfl (by kernel_rfl) (by kernel_rfl) (by kernel_rfl) (fun _ _ _ h => h) (Or.inl ⟨by kernel_rfl, ?_⟩) (by assumption) ?_; rotate_left; focus (intro w hSw; (try dsimp only at hSw); go_simp; try with_reducible rfl); (try simp only [List.getElem_toArray, List.getElem_cons_succ, List.getElem_cons_zero, Act.put, List.setIfInBounds_toArray, List.set_cons_zero, List.set_cons_succ]))
    refine wpAnyH_done (by kernel_rfl) ?_ _
    have KS := Lib.hid hHeld.2.2.2.2.2.2.2; clear hHeld
    go_wp2_with fail
    go_ret
    exact ⟨rfl, by rw [hg]; exact KS.out⟩
  · have HS := Lib.hid hHeld; clear hHeld
    go_simp
    go_at_call 80
    refine (IH.out _).mono ?_; rintro e w' ⟨rfl, bd⟩
    have KS := Lib.hid (da0_keep bd HS.out); clear HS bd
    go_wp2_with fail
    refine hK.out _ _ KS.out (fun hHeld => ?_)
    clear hK K KS
    (try simp only [List.getElem_toArray, List.getElem_cons_succ, List.getElem_cons_zero, Act.put, List.setIfInBounds_toArray, List.set_cons_zero, List.set_cons_succ])
    refine wpAnyH_ready (rs := [0]) (by kernel_rfl) (by simp) (AllReadyH.cons rfl (fun K hK => ?_) AllReadyH.nil)
    have HS := Lib.hid (da_build (p := .string ⟨#[]⟩) (q := .string ⟨#[100]⟩) (r := .string ⟨#[116]⟩) (T := 9) hHeld); clear hHeld
    go_simp
    refine hK.out _ _ ⟨HS.out.1, HS.out.2.1, HS.out.2.2.2.2.2.2⟩ (fun _ => ?_)
    clear hK K
    refine anyH_mono (S2 := (fun y => y.cell? ⟨g, 0, none⟩ = some (.int .i64 (n : Int)) ∧ y.cell? ⟨g, 1, none⟩ = some (.int .i64 2) ∧ y.cell? ⟨w'.heap.size, 0, none⟩ = some (.string ⟨#[]⟩) ∧ y.cell? ⟨w'.heap.size, 1, none⟩ = some (.string ⟨#[100]⟩) ∧ y.cell? ⟨w'.heap.size, 2, none⟩ = some (.string ⟨#[116]⟩) ∧ w'.heap.size < y.heap.size ∧ DaR g w y)) (fun _ h => ⟨h.1, h.2.1, h.2.2.2.2.2.2⟩) _ _ _ _ ?_
    have hHeld := HS.out
    clear HS
    generalize w'.alloc (.cells #[.string ⟨#[]⟩, .string ⟨#[100]⟩, .string ⟨#[116]⟩] 9) = V at *
    generalize w'.heap.size = b at *
    (try simp only [List.getElem_toArray, List.getElem_cons_succ, List.getElem_cons_zero, Act.put, List.setIfInBounds_toArray, List.set_cons_zero, List.set_cons_succ])
    (refine wpAnyH_take (i := 4) (v := ?_) rfl (by kernel_rfl) (by kernel_rfl) (by kernel_rfl) (fun _ _ _ h => h) (Or.inl ⟨by kernel_rfl, ?_⟩) (by assumption) ?_; rotate_left; focus (intro w hSw; (try dsimp only at hSw); go_simp; try with_reducible rfl); (try simp only [List.getElem_toArray, List.getElem_cons_succ, List.getElem_cons_zero, Act.put, List.setIfInBounds_toArray, List.set_cons_zero, List.set_cons_succ])); (refine wpAnyH_take (i := 5) (v := ?_) rfl (by kernel_rfl) (by kernel_rfl) (by kernel_rfl) (fun _ _ _ h => h) (Or.inl ⟨by kernel_rfl, ?_⟩) (by assumption) ?_; rotate_left; focus (intro w hSw; (try dsimp only at hSw); go_simp; try with_reducible rfl); (try simp only [List.getElem_toArray, List.getElem_cons_succ, List.getElem_cons_zero, Act.put, List.setIfInBounds_toArray, List.set_cons_zero, List.set_cons_succ])); (refine wpAnyH_take (i := 9) (v := ?_) rfl (by kernel_rfl) (by kernel_rfl) (by kernel_rfl) (fun _ _ _ h => h) (Or.inl ⟨by kernel_rfl, ?_⟩) (by assumption) ?_; rotate_left; focus (intro w hSw; (try dsimp only at hSw); go_simp; try with_reducible rfl); (try simp only [List.getElem_toArray, List.getElem_cons_succ, List.getElem_cons_zero, Act.put, List.setIfInBounds_toArray, List.set_cons_zero, List.set_cons_succ])); (refine wpAnyH_take (i := 10) (v := ?_) rfl (by kernel_rfl) (by kernel_rfl) (by kernel_rfl) (fun _ _ _ h => h) (Or.inl ⟨by kernel_rfl, ?_⟩) (by assumption) ?_; rotate_left; focus (intro w hSw; (try dsimp only at hSw); go_simp; try with_reducible rfl); (try simp only [List.getElem_toArray, List.getElem_cons_succ, List.getElem_cons_zero, Act.put, List.setIfInBounds_toArray, List.set_cons_zero, List.set_cons_succ]))
    refine wpAnyH_done (by kernel_rfl) ?_ _
    have KS := Lib.hid hHeld.2.2.2.2.2.2.2; clear hHeld
    go_wp2_with fail
    go_ret
    exact ⟨rfl, by rw [hg]; exact KS.out⟩

set_option maxHeartbeats 3200000 in
set_option maxRecDepth 100000 in
theorem daText_3 (n : Nat) (hn : n < 100) (w : World) :
    Calls Tryd.prog 85 #[.agg #[.int .i64 n, .int .i64 3]] w fun e w' => e = .returned (.string ⟨([116] ++ numF 1 n).toArray⟩) ∧ Below w.heap.size w w' := by
  have ih := fun w => l1Num_any 1 n w (by omega) (by omega)
  have IH := Lib.hid ih; clear ih
  have hlen := (numF_len 1 n).2
  have hadd : ∀ W : World, (Op.stringOp .add ⟨#[116]⟩ ⟨(numF 1 n).toArray⟩).run Tryd.prog W = .ok (.string ⟨([116] ++ numF 1 n).toArray⟩) W := fun W =>
    run_string_add_lists W [116] (numF 1 n) (by simp) (by omega)
  clear hlen
  unfold numV at IH
  generalize ([116] ++ numF 1 n) = T at *
  generalize numF 1 n = A at *
  have e1 : IntKind.i64.wrap 2 = 2 := by decide
  have s0 : (w.alloc (.cells #[.int .i64 (n : Int), .int .i64 3] 69)).cell? ⟨w.heap.size, 0, none⟩ = some (.int .i64 n) := cell_of_row _ _ 0 _ _ _ (heap_alloc_last w _)
  have s1 : (w.alloc (.cells #[.int .i64 (n : Int), .int .i64 3] 69)).cell? ⟨w.heap.size, 1, none⟩ = some (.int .i64 3) := cell_of_row _ _ 1 _ _ _ (heap_alloc_last w _)
  have s2 : DaR w.heap.size w (w.alloc (.cells #[.int .i64 (n : Int), .int .i64 3] 69)).drew := ⟨by simp, ((Below.refl _ _).alloc (Nat.le_refl _) _).drew⟩
  go_enter Tryd.func85, Tryd.ntmps85
  go_wp2_with fail
  generalize w.alloc (.cells #[.int .i64 (n : Int), .int .i64 3] 69) = X at *
  generalize hg : w.heap.size = g at *
  refine wp_region_held_drew (S := fun w' => w'.cell? ⟨g, 0, none⟩ = some (.int .i64 (n : Int)) ∧ w'.cell? ⟨g, 1, none⟩ = some (.int .i64 3) ∧ DaR g w w') (by kernel_rfl) ⟨by simpa using s0, by simpa using s1, s2⟩ (fun hHeld => ?_)
  clear s0 s1 s2
  generalize X.drew = Z at hHeld ⊢
  (refine wpAnyH_take (i := 1) (v := ?_) rfl (by kernel_rfl) (by kernel_rfl) (by kernel_rfl) (fun _ _ _ h => h) (Or.inl ⟨by kernel_rfl, ?_⟩) (by assumption) ?_; rotate_left; focus (intro w hSw; (try dsimp only at hSw); go_simp; try with_reducible rfl); (try simp only [List.getElem_toArray, List.getElem_cons_succ, List.getElem_cons_zero, Act.put, List.setIfInBounds_toArray, List.set_cons_zero, List.set_cons_succ])); (refine wpAnyH_take (i := 2) (v := ?_) rfl (by kernel_rfl) (by kernel_rfl) (by kernel_rfl) (fun _ _ _ h => h) (Or.inl ⟨by kernel_rfl, ?_⟩) (by assumption) ?_; rotate_left; focus (intro w hSw; (try dsimp only at hSw); go_simp; try with_reducible rfl); (try simp only [List.getElem_toArray, List.getElem_cons_succ, List.getElem_cons_zero, Act.put, List.setIfInBounds_toArray, List.set_cons_zero, List.set_cons_succ])); (refine wpAnyH_take (i := 3) (v := ?_) rfl (by kernel_rfl) (by kernel_rfl) (by kernel_rfl) (fun _ _ _ h => h) (Or.inl ⟨by kernel_rfl, ?_⟩) (by assumption) ?_; rotate_left; focus (intro w hSw; (try dsimp only at hSw); go_simp; try with_reducible rfl); (try simp only [List.getElem_toArray, List.getElem_cons_succ, List.getElem_cons_zero, Act.put, List.setIfInBounds_toArray, List.set_cons_zero, List.set_cons_succ])); (refine wpAnyH_take (i := 6) (v := ?_) rfl (by kernel_rfl) (by kernel_rfl) (by kernel_rfl) (fun _ _ _ h => h) (Or.inl ⟨by kernel_rfl, ?_⟩) (by assumption) ?_; rotate_left; focus (intro w hSw; (try dsimp only at hSw); go_simp; try with_reducible rfl); (try simp only [List.getElem_toArray, List.getElem_cons_succ, List.getElem_cons_zero, Act.put, List.setIfInBounds_toArray, List.set_cons_zero, List.set_cons_succ])); (refine wpAnyH_take (i := 7) (v := ?_) rfl (by kernel_rfl) (by kernel_rfl) (by kernel_rfl) (fun _ _ _ h => h) (Or.inl ⟨by kernel_rfl, ?_⟩) (by assumption) ?_; rotate_left; focus (intro w hSw; (try dsimp only at hSw); go_simp; try with_reducible rfl); (try simp only [List.getElem_toArray, List.getElem_cons_succ, List.getElem_cons_zero, Act.put, List.setIfInBounds_toArray, List.set_cons_zero, List.set_cons_succ]))
  refine wpAnyH_ready (rs := [0, 8]) (by kernel_rfl) (by simp) (AllReadyH.cons rfl (fun K hK => ?_) (AllReadyH.cons rfl (fun K hK => ?_) AllReadyH.nil))
  · have HS := Lib.hid (da_build (p := .string ⟨#[]⟩) (q := .string ⟨#[100]⟩) (r := .string ⟨#[116]⟩) (T := 9) hHeld); clear hHeld
    go_simp
    refine hK.out _ _ ⟨HS.out.1, HS.out.2.1, HS.out.2.2.2.2.2.2⟩ (fun _ => ?_)
    clear hK K
    refine anyH_mono (S2 := (fun y => y.cell? ⟨g, 0, none⟩ = some (.int .i64 (n : Int)) ∧ y.cell? ⟨g, 1, none⟩ = some (.int .i64 3) ∧ y.cell? ⟨Z.heap.size, 0, none⟩ = some (.string ⟨#[]⟩) ∧ y.cell? ⟨Z.heap.size, 1, none⟩ = some (.string ⟨#[100]⟩) ∧ y.cell? ⟨Z.heap.size, 2, none⟩ = some (.string ⟨#[116]⟩) ∧ Z.heap.size < y.heap.size ∧ DaR g w y)) (fun _ h => ⟨h.1, h.2.1, h.2.2.2.2.2.2⟩) _ _ _ _ ?_
    have hHeld := HS.out
    clear HS
    generalize Z.alloc (.cells #[.string ⟨#[]⟩, .string ⟨#[100]⟩, .string ⟨#[116]⟩] 9) = V at *
    generalize Z.heap.size = b at *
    (try simp only [List.getElem_toArray, List.getElem_cons_succ, List.getElem_cons_zero, Act.put, List.setIfInBounds_toArray, List.set_cons_zero, List.set_cons_succ])
    (refine wpAnyH_take (i := 4) (v := ?_) rfl (by kernel_rfl) (by kernel_rfl) (by kernel_rfl) (fun _ _ _ h => h) (Or.inl ⟨by kernel_rfl, ?_⟩) (by assumption) ?_; rotate_left; focus (intro w hSw; (try dsimp only at hSw); go_simp; try with_reducible rfl); (try simp only [List.getElem_toArray, List.getElem_cons_succ, List.getElem_cons_zero, Act.put, List.setIfInBounds_toArray, List.set_cons_zero, List.set_cons_succ])); (refine wpAnyH_take (i := 5) (v := ?_) rfl (by kernel_rfl) (by kernel_rfl) (by kernel_rfl) (fun _ _ _ h => h) (Or.inl ⟨by kernel_rfl, ?_⟩) (by assumption) ?_; rotate_left; focus (intro w hSw; (try dsimp only at hSw); go_simp; try with_reducible rfl); (try simp only [List.getElem_toArray, List.getElem_cons_succ, List.getElem_cons_zero, Act.put, List.setIfInBounds_toArray, List.set_cons_zero, List.set_cons_succ]))
    refine wpAnyH_ready (rs := [8]) (by kernel_rfl) (by simp) (AllReadyH.cons rfl (fun K hK => ?_) AllReadyH.nil)
    have HS := Lib.hid hHeld; clear hHeld
    go_simp
    go_at_call 80
    refine (IH.out _).mono ?_; rintro e w' ⟨rfl, bd⟩
    have KS := Lib.hid (da1_keep bd HS.out); clear HS bd
    go_wp2_with fail
    refine hK.out _ _ KS.out (fun hHeld => ?_)
    clear hK K KS
    (try simp only [List.getElem_toArray, List.getElem_cons_succ, List.getElem_cons_zero, Act.put, List.setIfInBounds_toArray, List.set_cons_zero, List.set_cons_succ])
    (refine wpAnyH_take (i := 9) (v := ?_) rfl (by kernel_rfl) (by kernel_rfl) (by kernel_rfl) (fun _ _ _ h => h) (Or.inl ⟨by kernel_rfl, ?_⟩) (by assumption) ?_; rotate_left; focus (intro w hSw; (try dsimp only at hSw); go_simp; try with_reducible rfl); (try simp only [List.getElem_toArray, List.getElem_cons_succ, List.getElem_cons_zero, Act.put, List.setIfInBounds_toArray, List.set_cons_zero, List.set_cons_succ])); (refine wpAnyH_take (i := 10) (v := ?_) rfl (by kernel_rfl) (by kernel_rfl) (by kernel_rfl) (fun _ _ _ h => h) (Or.inl ⟨by kernel_rfl, ?_⟩) (by assumption) ?_; rotate_left; focus (intro w hSw; (try dsimp only at hSw); go_simp; try with_reducible rfl); (try simp only [List.getElem_toArray, List.getElem_cons_succ, List.getElem_cons_zero, Act.put, List.setIfInBounds_toArray, List.set_cons_zero, List.set_cons_succ]))
    refine wpAnyH_done (by kernel_rfl) ?_ _
    have KS := Lib.hid hHeld.2.2.2.2.2.2.2; clear hHeld
    go_wp2_with fail
    go_ret
    exact ⟨rfl, by rw [hg]; exact KS.out⟩
  · have HS := Lib.hid hHeld; clear hHeld
    go_simp
    go_at_call 80
    refine (IH.out _).mono ?_; rintro e w' ⟨rfl, bd⟩
    have KS := Lib.hid (da0_keep bd HS.out); clear HS bd
    go_wp2_with fail
    refine hK.out _ _ KS.out (fun hHeld => ?_)
    clear hK K KS
    (try simp only [List.getElem_toArray, List.getElem_cons_succ, List.getElem_cons_zero, Act.put, List.setIfInBounds_toArray, List.set_cons_zero, List.set_cons_succ])
    refine wpAnyH_ready (rs := [0]) (by kernel_rfl) (by simp) (AllReadyH.cons rfl (fun K hK => ?_) AllReadyH.nil)
    have HS := Lib.hid (da_build (p := .string ⟨#[]⟩) (q := .string ⟨#[100]⟩) (r := .string ⟨#[116]⟩) (T := 9) hHeld); clear hHeld
    go_simp
    refine hK.out _ _ ⟨HS.out.1, HS.out.2.1, HS.out.2.2.2.2.2.2⟩ (fun _ => ?_)
    clear hK K
    refine anyH_mono (S2 := (fun y => y.cell? ⟨g, 0, none⟩ = some (.int .i64 (n : Int)) ∧ y.cell? ⟨g, 1, none⟩ = some (.int .i64 3) ∧ y.cell? ⟨w'.heap.size, 0, none⟩ = some (.string ⟨#[]⟩) ∧ y.cell? ⟨w'.heap.size, 1, none⟩ = some (.string ⟨#[100]⟩) ∧ y.cell? ⟨w'.heap.size, 2, none⟩ = some (.string ⟨#[116]⟩) ∧ w'.heap.size < y.heap.size ∧ DaR g w y)) (fun _ h => ⟨h.1, h.2.1, h.2.2.2.2.2.2⟩) _ _ _ _ ?_
    have hHeld := HS.out
    clear HS
    generalize w'.alloc (.cells #[.string ⟨#[]⟩, .string ⟨#[100]⟩, .string ⟨#[116]⟩] 9) = V at *
    generalize w'.heap.size = b at *
    (try simp only [List.getElem_toArray, List.getElem_cons_succ, List.getElem_cons_zero, Act.put, List.setIfInBounds_toArray, List.set_cons_zero, List.set_cons_succ])
    (refine wpAnyH_take (i := 4) (v := ?_) rfl (by kernel_rfl) (by kernel_rfl) (by kernel_rfl) (fun _ _ _ h => h) (Or.inl ⟨by kernel_rfl, ?_⟩) (by assumption) ?_; rotate_left; focus (intro w hSw; (try dsimp only at hSw); go_simp; try with_reducible rfl); (try simp only [List.getElem_toArray, List.getElem_cons_succ, List.getElem_cons_zero, Act.put, List.setIfInBounds_toArray, List.set_cons_zero, List.set_cons_succ])); (refine wpAnyH_take (i := 5) (v := ?_) rfl (by kernel_rfl) (by kernel_rfl) (by kernel_rfl) (fun _ _ _ h => h) (Or.inl ⟨by kernel_rfl, ?_⟩) (by assumption) ?_; rotate_left; focus (intro w hSw; (try dsimp only at hSw); go_simp; try with_reducible rfl); (try simp only [List.getElem_toArray, List.getElem_cons_succ, List.getElem_cons_zero, Act.put, List.setIfInBounds_toArray, List.set_cons_zero, List.set_cons_succ])); (refine wpAnyH_take (i := 9) (v := ?_) rfl (by kernel_rfl) (by kernel_rfl) (by kernel_rfl) (fun _ _ _ h => h) (Or.inl ⟨by kernel_rfl, ?_⟩) (by assumption) ?_; rotate_left; focus (intro w hSw; (try dsimp only at hSw); go_simp; try with_reducible rfl); (try simp only [List.getElem_toArray, List.getElem_cons_succ, List.getElem_cons_zero, Act.put, List.setIfInBounds_toArray, List.set_cons_zero, List.set_cons_succ])); (refine wpAnyH_take (i := 10) (v := ?_) rfl (by kernel_rfl) (by kernel_rfl) (by kernel_rfl) (fun _ _ _ h => h) (Or.inl ⟨by kernel_rfl, ?_⟩) (by assumption) ?_; rotate_left; focus (intro w hSw; (try dsimp only at hSw); go_simp; try with_reducible rfl); (try simp only [List.getElem_toArray, List.getElem_cons_succ, List.getElem_cons_zero, Act.put, List.setIfInBounds_toArray, List.set_cons_zero, List.set_cons_succ]))
    refine wpAnyH_done (by kernel_rfl) ?_ _
    have KS := Lib.hid hHeld.2.2.2.2.2.2.2; clear hHeld
    go_wp2_with fail
    go_ret
    exact ⟨rfl, by rw [hg]; exact KS.out⟩

theorem preD_1 : preD 1 = [] := rfl
theorem preD_2 : preD 2 = [100] := rfl
theorem preD_3 : preD 3 = [116] := rfl
theorem good_dart {n t : Int} (h : goodB n t = true) : ∃ m : Nat, n = m ∧ m < 100 ∧ (t = 1 ∨ t = 2 ∨ t = 3) := by
  unfold goodB inR at h
  split at h
  · simp at h; exact ⟨n.toNat, by omega, by omega, by omega⟩
  · simp at h; exact ⟨n.toNat, by omega, by omega, by omega⟩
theorem daText_any (n : Nat) (hn : n < 100) (t : Int) (ht : t = 1 ∨ t = 2 ∨ t = 3) (w : World) :
    Calls Tryd.prog 85 #[.agg #[.int .i64 n, .int .i64 t]] w fun e w' => e = .returned (.string ⟨(textD n t).toArray⟩) ∧ Below w.heap.size w w' := by
  rcases ht with rfl | rfl | rfl
  · exact daText_1 n hn w
  · exact daText_2 n hn w
  · exact daText_3 n hn w
theorem num_dec : ∀ m : Nat, m < 100 → Lib.decDigits m = numF 1 m := by decide +kernel

end Go.Proofs.YtjiigljoekhljaaDoor
