/-
  Frames: how many breaks have so many points (plain): from the front (the program), from behind (the model).
-/
import Derived.Test.YtaplkciomagmiabDoorFrAll
import Derived.Test.YtaplkciomagmiabDoorSliceInt
namespace Go.Proofs.YtaplkciomagmiabDoor
open Go.RowKit
set_option linter.unusedVariables false
set_option linter.unusedSimpArgs false

def scB (c : UInt8) : Int := (c.toNat : Int) - 48
def sumU (l : List UInt8) (f : UInt8 → Int) : Int := l.foldr (fun c s => f c + s) 0
theorem sumU_nil (f : UInt8 → Int) : sumU [] f = 0 := rfl
theorem sumU_cons (c l) (f : UInt8 → Int) : sumU (c :: l) f = f c + sumU l f := rfl
theorem sumU_app (l m) (f : UInt8 → Int) : sumU (l ++ m) f = sumU l f + sumU m f := by
  induction l with
  | nil => rw [sumU_nil]; simp
  | cons d l ih => rw [List.cons_append, sumU_cons, sumU_cons, ih]; omega
theorem sumU_add (f g : UInt8 → Int) (l) : sumU l (fun d => f d + g d) = sumU l f + sumU l g := by
  induction l with
  | nil => simp [sumU_nil]
  | cons d l ih => rw [sumU_cons, sumU_cons, sumU_cons, ih]; omega
theorem sumU_congr {f g : UInt8 → Int} {l} (h : ∀ d ∈ l, f d = g d) : sumU l f = sumU l g := by
  induction l with
  | nil => rfl
  | cons d l ih => rw [sumU_cons, sumU_cons, h d (by simp), ih (fun e he => h e (by simp [he]))]
theorem sumU_zero {f : UInt8 → Int} {l} (h : ∀ d ∈ l, f d = 0) : sumU l f = 0 := by
  induction l with
  | nil => rfl
  | cons d l ih => rw [sumU_cons, h d (by simp), ih (fun e he => h e (by simp [he]))]; rfl
theorem sumU_swap (F : UInt8 → UInt8 → Int) : ∀ l m : List UInt8, sumU l (fun a => sumU m (fun b => F a b)) = sumU m (fun b => sumU l (fun a => F a b))
  | [], m => by rw [sumU_nil]; exact (sumU_zero (fun b _ => rfl)).symm
  | a :: l, m => by
    rw [sumU_cons, sumU_swap F l m, ← sumU_add]
    rfl
theorem sumU_bd (B : Int) (f : UInt8 → Int) : ∀ l : List UInt8, (∀ d ∈ l, 0 ≤ f d ∧ f d ≤ B) → 0 ≤ sumU l f ∧ sumU l f ≤ l.length * B
  | [], _ => by simp [sumU_nil]
  | d :: l, h => by
    rw [sumU_cons]
    have h1 := h d (by simp)
    have h2 := sumU_bd B f l (fun e he => h e (by simp [he]))
    rw [List.length_cons, Int.natCast_add, Int.add_mul]
    omega
theorem sumU_nn (f : UInt8 → Int) : ∀ l : List UInt8, (∀ d ∈ l, 0 ≤ f d) → 0 ≤ sumU l f
  | [], _ => Int.le_refl _
  | d :: l, h => by
    rw [sumU_cons]
    have h1 := h d (by simp)
    have h2 := sumU_nn f l (fun e he => h e (by simp [he]))
    omega
theorem sumU_take_le (f : UInt8 → Int) (l : List UInt8) (j : Nat) (h : ∀ d ∈ l, 0 ≤ f d) : sumU (l.take j) f ≤ sumU l f := by
  have e := sumU_app (l.take j) (l.drop j) f
  rw [List.take_append_drop] at e
  have := sumU_nn f (l.drop j) (fun d hd => h d (List.mem_of_mem_drop hd))
  omega

def dlt (p : Int) : Int := if p = 0 then 1 else 0
/-- How many breaks have p points. -/
def bp : Nat → Int → Int
  | 0, p => dlt p
  | n + 1, p => dlt p + sumU (nextL (n + 1)) fun c => bp n (p - scB c)
/-- .. with just j balls, as the model makes them. -/
def nw (n : Nat) : Nat → Int → Int
  | 0, p => dlt p
  | j + 1, p => sumU (nextL (n - j)) fun c => nw n j (p - scB c)
def accW (n : Nat) : Nat → Int → Int
  | 0, p => dlt p
  | j + 1, p => accW n j p + nw n (j + 1) p
theorem nw_front (n : Nat) : ∀ (j : Nat) (p : Int), nw (n + 1) (j + 1) p = sumU (nextL (n + 1)) fun c => nw n j (p - scB c)
  | 0, p => rfl
  | j + 1, p => by
    show sumU (nextL (n + 1 - (j + 1))) (fun c => nw (n + 1) (j + 1) (p - scB c)) = _
    rw [sumU_congr (g := fun c => sumU (nextL (n + 1)) fun c' => nw n j (p - scB c - scB c')) (fun c _ => nw_front n j _), sumU_swap]
    refine sumU_congr fun c' _ => ?_
    show _ = sumU (nextL (n - j)) (fun c => nw n j (p - scB c' - scB c))
    rw [show n + 1 - (j + 1) = n - j by omega]
    refine sumU_congr fun c _ => ?_
    rw [show p - scB c - scB c' = p - scB c' - scB c by omega]
theorem acc_front (n : Nat) : ∀ (j : Nat) (p : Int), accW (n + 1) (j + 1) p = dlt p + sumU (nextL (n + 1)) fun c => accW n j (p - scB c)
  | 0, p => by
    show dlt p + nw (n + 1) 1 p = _
    rw [nw_front]; rfl
  | j + 1, p => by
    show accW (n + 1) (j + 1) p + nw (n + 1) (j + 1 + 1) p = _
    rw [acc_front n j p, nw_front, Int.add_assoc, ← sumU_add]
    rfl
theorem acc_all : ∀ (n : Nat) (p : Int), accW n n p = bp n p
  | 0, p => rfl
  | n + 1, p => by
    rw [acc_front]
    show _ = dlt p + sumU (nextL (n + 1)) fun c => bp n (p - scB c)
    rw [sumU_congr (fun c _ => acc_all n _)]
theorem scB_next {n : Nat} (hn : n ≤ 36) : ∀ c ∈ nextL n, 1 ≤ scB c ∧ scB c ≤ 7 := by
  have : ∀ m, m ≤ 36 → ∀ c ∈ nextL m, 1 ≤ scB c ∧ scB c ≤ 7 := by decide +kernel
  exact this n hn
theorem nextL_len6 {n : Nat} (hn : n ≤ 36) : (nextL n).length ≤ 6 := by
  have : ∀ m, m ≤ 36 → (nextL m).length ≤ 6 := by decide +kernel
  exact this n hn
theorem dlt_nn (p : Int) : 0 ≤ dlt p ∧ dlt p ≤ 1 := by unfold dlt; split <;> omega
theorem bp_nn : ∀ n p, 0 ≤ bp n p
  | 0, p => (dlt_nn p).1
  | n + 1, p => by
    have h1 := (dlt_nn p).1
    have h2 := sumU_nn (fun c => bp n (p - scB c)) (nextL (n + 1)) (fun c _ => bp_nn n _)
    show 0 ≤ dlt p + _
    omega
theorem nw_nn (n : Nat) : ∀ j p, 0 ≤ nw n j p
  | 0, p => (dlt_nn p).1
  | j + 1, p => sumU_nn _ _ (fun c _ => nw_nn n j _)
theorem nw_neg (n : Nat) (hn : n ≤ 36) : ∀ j p, p < 0 → nw n j p = 0
  | 0, p, h => by show dlt p = 0; unfold dlt; rw [if_neg (by omega)]
  | j + 1, p, h => sumU_zero fun c hc => nw_neg n hn j _ (by have := scB_next (n := n - j) (by omega) c hc; omega)
theorem bp_neg : ∀ n, n ≤ 36 → ∀ p, p < 0 → bp n p = 0
  | 0, _, p, h => by show dlt p = 0; unfold dlt; rw [if_neg (by omega)]
  | n + 1, hn, p, h => by
    show dlt p + _ = 0
    rw [sumU_zero fun c hc => bp_neg n (by omega) _ (by have := scB_next (n := n + 1) hn c hc; omega)]
    unfold dlt; rw [if_neg (by omega)]; rfl
def totF : Nat → Nat
  | 0 => 1
  | n + 1 => 1 + (nextL (n + 1)).length * totF n
theorem totF_bd : ∀ n, n ≤ 36 → totF n ≤ 1000000000000000 := by decide +kernel
theorem bp_tot : ∀ n p, bp n p ≤ totF n
  | 0, p => by show dlt p ≤ 1; exact (dlt_nn p).2
  | n + 1, p => by
    have h := (sumU_bd (totF n) (fun c => bp n (p - scB c)) (nextL (n + 1)) (fun c _ => ⟨bp_nn n _, bp_tot n _⟩)).2
    have h1 := (dlt_nn p).2
    show dlt p + _ ≤ ((1 + (nextL (n + 1)).length * totF n : Nat) : Int)
    push_cast
    omega
theorem bp_bd {n : Nat} (hn : n ≤ 36) (p : Int) : 0 ≤ bp n p ∧ bp n p ≤ 1000000000000000 := by
  have := bp_tot n p
  have := totF_bd n hn
  exact ⟨bp_nn n p, by omega⟩
theorem acc_le (n : Nat) (p : Int) : ∀ j k, accW n j p ≤ accW n (j + k) p
  | j, 0 => Int.le_refl _
  | j, k + 1 => by
    have := acc_le n p j k
    have := nw_nn n (j + k + 1) p
    show _ ≤ accW n (j + k) p + nw n (j + k + 1) p
    omega
theorem acc_bd {n : Nat} (hn : n ≤ 36) {j : Nat} (hj : j ≤ n) (p : Int) : accW n j p ≤ 1000000000000000 := by
  have := acc_le n p j (n - j)
  rw [show j + (n - j) = n by omega, acc_all] at this
  have := (bp_bd hn p).2
  omega
theorem acc_nn (n : Nat) (p : Int) : ∀ j, 0 ≤ accW n j p
  | 0 => (dlt_nn p).1
  | j + 1 => by have := acc_nn n p j; have := nw_nn n (j + 1) p; show 0 ≤ _ + _; omega
theorem nw_bd {n : Nat} (hn : n ≤ 36) {j : Nat} (hj : j ≤ n) (p : Int) : nw n j p ≤ 1000000000000000 := by
  have h := acc_bd hn hj p
  cases j with
  | zero => exact h
  | succ j =>
    have := acc_nn n p j
    have e : accW n (j + 1) p = accW n j p + nw n (j + 1) p := rfl
    omega
/-- The model's row of j + 1 balls, the first i balls of the last kind through. -/
def thenV (n j i : Nat) (p : Int) : Int := sumU ((nextL (n - j)).take i) fun c => nw n j (p - scB c)
theorem thenV_zero (n j : Nat) (p : Int) : thenV n j 0 p = 0 := rfl
theorem thenV_all (n j : Nat) (p : Int) : thenV n j (nextL (n - j)).length p = nw n (j + 1) p := by unfold thenV; rw [List.take_length]; rfl
theorem thenV_succ (n j : Nat) {i : Nat} (h : i < (nextL (n - j)).length) (p : Int) : thenV n j (i + 1) p = thenV n j i p + nw n j (p - scB ((nextL (n - j)).getD i 0)) := by
  unfold thenV
  rw [List.take_succ_eq_append_getElem h, sumU_app, sumU_cons, sumU_nil]
  have e : (nextL (n - j)).getD i 0 = (nextL (n - j))[i] := by simp [h]
  rw [e]; omega
theorem thenV_bd {n : Nat} (hn : n ≤ 36) {j : Nat} (hj : j < n) (i : Nat) (p : Int) : 0 ≤ thenV n j i p ∧ thenV n j i p ≤ 1000000000000000 := by
  have h1 := sumU_take_le (fun c => nw n j (p - scB c)) (nextL (n - j)) i (fun c _ => nw_nn n j _)
  have h2 : sumU (nextL (n - j)) (fun c => nw n j (p - scB c)) ≤ 1000000000000000 := nw_bd hn (show j + 1 ≤ n by omega) p
  exact ⟨sumU_nn _ _ (fun c _ => nw_nn n j _), by unfold thenV; omega⟩
/-- The program's row, the first i balls through. -/
def partV (n i : Nat) (p : Int) : Int := dlt p + sumU ((nextL (n + 1)).take i) fun c => bp n (p - scB c)
theorem partV_zero (n : Nat) (p : Int) : partV n 0 p = dlt p := by unfold partV; rw [List.take_zero, sumU_nil]; omega
theorem partV_all (n : Nat) (p : Int) : partV n (nextL (n + 1)).length p = bp (n + 1) p := by unfold partV; rw [List.take_length]; rfl
theorem partV_succ (n : Nat) {i : Nat} (h : i < (nextL (n + 1)).length) (p : Int) : partV n (i + 1) p = partV n i p + bp n (p - scB ((nextL (n + 1)).getD i 0)) := by
  unfold partV
  rw [List.take_succ_eq_append_getElem h, sumU_app, sumU_cons, sumU_nil]
  have e : (nextL (n + 1)).getD i 0 = (nextL (n + 1))[i] := by simp [h]
  rw [e]; omega
theorem partV_bd {n : Nat} (hn : n + 1 ≤ 36) (i : Nat) (p : Int) : 0 ≤ partV n i p ∧ partV n i p ≤ 1000000000000000 := by
  have h1 := sumU_take_le (fun c => bp n (p - scB c)) (nextL (n + 1)) i (fun c _ => bp_nn n _)
  have h2 : dlt p + sumU (nextL (n + 1)) (fun c => bp n (p - scB c)) ≤ 1000000000000000 := (bp_bd hn p).2
  have h3 := sumU_nn (fun c => bp n (p - scB c)) ((nextL (n + 1)).take i) (fun c _ => bp_nn n _)
  have h4 := dlt_nn p
  unfold partV
  omega
def rowI (M : Nat) (f : Int → Int) : List Int := (List.range M).map fun (i : Nat) => f i
theorem rowI_len (M : Nat) (f : Int → Int) : (rowI M f).length = M := by simp [rowI]
theorem rowI_get {M i : Nat} (f : Int → Int) (h : i < M) : (rowI M f).getD i 0 = f i := by simp [rowI, h]
theorem rowI_congr {M : Nat} {f g : Int → Int} (h : ∀ i : Nat, i < M → f i = g i) : rowI M f = rowI M g := by
  unfold rowI
  refine List.map_congr_left fun i hi => ?_
  rw [h i (List.mem_range.1 hi)]
theorem rowI_step {M c : Nat} {f g : Int → Int} {x : Int} (h : c < M) (hx : f c = x) : (rowI M fun i => if i < (c : Int) then f i else g i).set c x = rowI M fun i => if i < ((c + 1 : Nat) : Int) then f i else g i := by
  apply List.ext_getElem
  · simp [rowI]
  · intro i h1 h2
    rw [List.getElem_set]
    simp only [rowI, List.getElem_map, List.getElem_range]
    by_cases q : c = i
    · subst q; rw [if_pos rfl, if_pos (by omega), hx]
    · rw [if_neg q]
      by_cases q2 : (i : Int) < (c : Int)
      · rw [if_pos q2, if_pos (by omega)]
      · rw [if_neg q2, if_neg (by omega)]
theorem rowI_end {M c : Nat} {f g : Int → Int} (h : M ≤ c) : (rowI M fun i => if i < (c : Int) then f i else g i) = rowI M f := by
  refine rowI_congr fun i hi => ?_
  rw [if_pos (by omega)]
theorem rowI_low {M s : Nat} {f g : Int → Int} (h : ∀ i : Nat, i < s → f i = g i) : (rowI M fun i => if i < (s : Int) then f i else g i) = rowI M g := by
  refine rowI_congr fun i hi => ?_
  by_cases q : (i : Int) < (s : Int)
  · rw [if_pos q, h i (by omega)]
  · rw [if_neg q]
theorem rowI_zero (M : Nat) {f : Int → Int} (h : ∀ i, f i = 0) : rowI M f = List.replicate M 0 := by
  apply List.ext_getElem
  · simp [rowI]
  · intro i h1 h2
    simp only [rowI, List.getElem_map, h, List.getElem_replicate]
theorem rowI_first (M : Nat) : rowI (M + 1) dlt = 1 :: List.replicate M 0 := by
  apply List.ext_getElem
  · simp [rowI]
  · intro i h1 h2
    simp only [rowI, List.getElem_map, List.getElem_range, dlt]
    cases i with
    | zero => rfl
    | succ i => simp; omega

end Go.Proofs.YtaplkciomagmiabDoor
