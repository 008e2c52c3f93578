/-
  Darts: what the program pushes from one tally into the next (plain).
-/
import Derived.Test.YtaplkciomagmiaaDnCan
namespace Go.Proofs.Ytaplkciomagmiaa
open Go.RowKit
set_option linter.unusedVariables false
set_option linter.unusedSimpArgs false

theorem sumD_add (f g : Int × Int → Int) (l : List (Int × Int)) : sumD l (fun d => f d + g d) = sumD l f + sumD l g := by
  induction l with
  | nil => simp [sumD_nil]
  | cons d l ih => rw [sumD_cons, sumD_cons, sumD_cons, ih]; omega
theorem sumD_congr {f g : Int × Int → Int} {l : List (Int × Int)} (h : ∀ d ∈ l, f d = g d) : sumD l f = sumD l g := by
  induction l with
  | nil => rfl
  | cons d l ih => rw [sumD_cons, sumD_cons, h d (by simp), ih (fun e he => h e (by simp [he]))]
theorem sumD_zero {f : Int × Int → Int} {l : List (Int × Int)} (h : ∀ d ∈ l, f d = 0) : sumD l f = 0 := by
  induction l with
  | nil => rfl
  | cons d l ih => rw [sumD_cons, h d (by simp), ih (fun e he => h e (by simp [he]))]; rfl
theorem ways_top : ∀ (k : Nat) (n : Int), 60 * (k : Int) < n → ways k n = 0
  | 0, n, h => by simp only [ways]; rw [if_neg (by omega)]
  | k + 1, n, h => by
    simp only [ways]
    refine sumD_zero fun d hd => ?_
    have := allD_bd d hd
    exact ways_top k _ (by push_cast at h; omega)
def pushV (k : Nat) (c : Int) (j : Nat) (i : Int) : Int :=
  sumD allD (fun d => if i - scD d < c then ways k (i - scD d) else 0) + sumD (allD.take j) (fun d => if i - scD d = c then ways k c else 0)
theorem pushV_start (k : Nat) (i : Int) : pushV k 0 0 i = 0 := by
  unfold pushV
  rw [sumD_zero (fun d _ => by
    by_cases q : i - scD d < 0
    · rw [if_pos q, ways_neg k _ q]
    · rw [if_neg q])]
  rfl
theorem pushV_step (k : Nat) (c : Int) {j : Nat} (hj : j < allD.length) (i : Int) : pushV k c (j + 1) i = pushV k c j i + if i - scD (allD.getD j (0, 0)) = c then ways k c else 0 := by
  unfold pushV
  rw [List.take_succ_eq_append_getElem hj, sumD_app, sumD_cons, sumD_nil]
  have e : allD.getD j (0, 0) = allD[j] := by simp [hj]
  rw [e]; omega
theorem pushV_round (k : Nat) (c : Int) (i : Int) : pushV k c allD.length i = pushV k (c + 1) 0 i := by
  unfold pushV
  rw [List.take_length, List.take_zero, sumD_nil, ← sumD_add, Int.add_zero]
  refine sumD_congr fun d _ => ?_
  by_cases q : i - scD d < c
  · rw [if_pos q, if_neg (by omega), if_pos (by omega)]; omega
  · by_cases q2 : i - scD d = c
    · rw [if_neg q, if_pos q2, if_pos (by omega), q2]; omega
    · rw [if_neg q, if_neg q2, if_neg (by omega)]; rfl
theorem pushV_skip (k : Nat) (c : Int) (h : ways k c = 0) (i : Int) : pushV k c 0 i = pushV k (c + 1) 0 i := by
  rw [← pushV_round]
  unfold pushV
  rw [List.take_length, List.take_zero, sumD_nil, sumD_zero (f := fun d => if i - scD d = c then ways k c else 0) (fun d _ => by rw [h]; split <;> rfl)]
theorem pushV_end (k : Nat) (i : Int) (hi : i ≤ 180) : pushV k 181 0 i = ways (k + 1) i := by
  unfold pushV
  rw [List.take_zero, sumD_nil, Int.add_zero]
  simp only [ways]
  refine sumD_congr fun d hd => ?_
  have := allD_bd d hd
  rw [if_pos (by omega)]
theorem pow62 (k : Nat) (hk : k ≤ 2) : (62 : Int) ^ k ≤ 3844 := by
  have : k = 0 ∨ k = 1 ∨ k = 2 := by omega
  rcases this with rfl | rfl | rfl <;> decide
theorem pushV_bd (k : Nat) (hk : k ≤ 2) (c : Int) (j : Nat) (i : Int) : 0 ≤ pushV k c j i ∧ pushV k c j i ≤ 1000000 := by
  have hp := pow62 k hk
  have h1 := sumD_bd 3844 (fun d => if i - scD d < c then ways k (i - scD d) else 0) allD (fun d _ => by
    have := ways_bd k (i - scD d)
    by_cases q : i - scD d < c
    · simp only [q, if_true]; omega
    · simp only [q, if_false]; omega)
  have h2 := sumD_bd 3844 (fun d => if i - scD d = c then ways k c else 0) (allD.take j) (fun d _ => by
    have := ways_bd k c
    by_cases q : i - scD d = c
    · simp only [q, if_true]; omega
    · simp only [q, if_false]; omega)
  rw [allD_len] at h1
  have h3 : (allD.take j).length ≤ 62 := by rw [List.length_take, allD_len]; omega
  unfold pushV
  constructor
  · omega
  · have : ((allD.take j).length : Int) * 3844 ≤ 62 * 3844 := by omega
    omega
def tallyL (k : Nat) : List Int := rowW 181 (ways k)
theorem tallyL_len (k : Nat) : (tallyL k).length = 181 := rowW_len _ _
theorem ways_in (k : Nat) (hk : k ≤ 3) (n : Int) : wrap64 (ways k n) = ways k n := by
  have h := ways_bd k n
  refine wrap64_in h.1 (Int.le_trans h.2 ?_)
  have : k = 0 ∨ k = 1 ∨ k = 2 ∨ k = 3 := by omega
  rcases this with rfl | rfl | rfl | rfl <;> decide
theorem tallyL_get {k i : Nat} (hk : k ≤ 3) (h : i ≤ 180) : (tallyL k).getD i 0 = ways k i := by
  unfold tallyL
  rw [rowW_get _ (by omega), ways_in k hk]
theorem rowW_put {M p : Nat} {f g : Int → Int} (x : Int) (h : p < M) (hp : f p = x) (ho : ∀ i : Nat, i < M → i ≠ p → f i = g i) : (rowW M g).set p (wrap64 x) = rowW M f := by
  apply List.ext_getElem
  · simp [rowW]
  · intro i h1 h2
    rw [List.getElem_set]
    simp only [rowW, List.getElem_map, List.getElem_range]
    by_cases q : p = i
    · subst q; rw [if_pos rfl, hp]
    · rw [if_neg q, ho i (by simp [rowW] at h2; omega) (fun e => q e.symm)]
end Go.Proofs.Ytaplkciomagmiaa
