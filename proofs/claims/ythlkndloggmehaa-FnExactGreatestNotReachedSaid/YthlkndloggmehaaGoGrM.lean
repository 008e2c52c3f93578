/-
  Goals, plain facts: the greatest score that is not reached, as both sides have it.
-/
import Derived.Test.YthlkndloggmehaaGoFrob
import Derived.Test.YthlkndloggmehaaGoFst
namespace Go.Proofs.Ythlkndloggmehaa
set_option linter.unusedVariables false

def gcdN (ks : List Int) : Nat := gcdG (natK ks) 0
/-- The greatest score below n that is not reached. -/
def topN (ks : List Int) : Nat → Option Nat
  | 0 => none
  | n + 1 => if fewP ks n = 1000 then some n else topN ks n
def grN (ks : List Int) : Option Nat := if goodK ks = true ∧ gcdN ks = 1 then topN ks 401 else none
def grV : Option Nat → Int
  | none => 0
  | some n => (n : Int)

theorem out_last (ks : List Int) : ∀ n, (outG ks n).getLast? = (topN ks n).map fun j => (j : Int)
  | 0 => rfl
  | n + 1 => by
    rw [outG_succ, topN]
    by_cases h : fewP ks n = 1000
    · rw [if_pos h, if_pos h]; simp
    · rw [if_neg h, if_neg h]; exact out_last ks n
theorem top_lt {ks : List Int} : ∀ {n j : Nat}, topN ks n = some j → j < n
  | n + 1, j, h => by
    unfold topN at h
    split at h
    · cases h; omega
    · have := top_lt h; omega
theorem top_down {ks : List Int} {n m : Nat} (h : n ≤ m) (hr : ∀ j, n ≤ j → j < m → fewP ks j ≠ 1000) : topN ks m = topN ks n := by
  induction m with
  | zero => obtain rfl : n = 0 := by omega
            rfl
  | succ m ih =>
    by_cases e : n = m + 1
    · rw [e]
    · rw [topN, if_neg (hr m (by omega) (by omega))]
      exact ih (by omega) (fun j h1 h2 => hr j h1 (by omega))
theorem top_some {ks : List Int} {n j : Nat} (hj : j < n) (h : fewP ks j = 1000) : ∃ t, topN ks n = some t := by
  induction n with
  | zero => omega
  | succ n ih =>
    unfold topN
    by_cases e : fewP ks n = 1000
    · rw [if_pos e]; exact ⟨n, rfl⟩
    · rw [if_neg e]
      refine ih ?_
      by_cases e2 : j = n
      · subst e2; exact absurd h e
      · omega

theorem rises_nat {lo : Int} (h0 : 0 ≤ lo) : ∀ {ks : List Int}, risesB 20 lo ks = true → risesN lo.toNat (natK ks) := by
  intro ks
  induction ks generalizing lo with
  | nil => intro _; trivial
  | cons x r ih =>
    intro h
    simp only [risesB, Bool.and_eq_true, decide_eq_true_eq] at h
    have h2 := ih (by omega) h.2
    exact ⟨show lo.toNat ≤ x.toNat by omega, show x.toNat ≤ 20 by omega, by rw [show (x + 1).toNat = x.toNat + 1 by omega] at h2; exact h2⟩
theorem all_few {ks : List Int} (hg : goodK ks = true) (h1 : gcdN ks = 1) : ∀ s, 380 ≤ s → s ≤ 800 → fewP ks s ≠ 1000 := by
  have hk : ∀ x ∈ ks, 1 ≤ x := fun x hx => (good_mem hg x hx).1
  obtain ⟨l1, l2⟩ := good_len hg
  have hri : risesB 20 1 ks = true := by simp only [goodK, Bool.and_eq_true] at hg; exact hg.2
  refine all_reached (fun s => fewP ks s ≠ 1000) (by rw [fewP_zero]; decide) (natK ks) (rises_nat (by omega) hri) (by simpa [natK] using l2) (by intro e; have := congrArg List.length e; simp [natK] at this; rw [this] at l1; simp at l1) h1 ?_
  intro p hp s hs hb
  have hp' := (natK_mem hk).1 hp
  have h2 := few_add hk hp' s
  have h3 := fewP_bd hk (s := s) (by omega)
  have hs' : fewP ks s ≠ 1000 := hs
  show fewP ks (s + p) ≠ 1000
  omega
theorem one_all {ks : List Int} (hk : ∀ x ∈ ks, 1 ≤ x) (h1 : (1 : Int) ∈ ks) : ∀ s, fewP ks s ≤ s
  | 0 => by rw [fewP_zero]; simp
  | s + 1 => by
    have := few_add (p := 1) hk (by simpa using h1) s
    have := one_all hk h1 s
    push_cast; omega
theorem top_none {ks : List Int} {n : Nat} (h : ∀ j, j < n → fewP ks j ≠ 1000) : topN ks n = none := by
  rw [top_down (Nat.zero_le n) (fun j _ hj => h j hj)]; rfl
theorem one_out {ks : List Int} (h : ∀ x ∈ ks, 1 < x) : fewP ks 1 = 1000 := by
  rw [fewP_succ]
  rcases fold_is (tabP ks 0) ((0 + 1 : Nat) : Int) ks 1000 with e | ⟨p, hp, h1, _⟩
  · exact e
  · have := h p hp; omega
theorem rises_gt {hi lo : Int} {x : Int} {r : List Int} (h : risesB hi lo (x :: r) = true) : ∀ y ∈ r, x < y := by
  simp only [risesB, Bool.and_eq_true, decide_eq_true_eq] at h
  intro y hy
  have := rises_mem h.2 y hy; omega
theorem gcd_pos {ks : List Int} (hg : goodK ks = true) : gcdN ks ≠ 0 := by
  have hk : ∀ x ∈ ks, 1 ≤ x := fun x hx => (good_mem hg x hx).1
  have hpos : ∀ (l : List Nat) (g : Nat), (g ≠ 0 ∨ ∃ p ∈ l, p ≠ 0) → gcdG l g ≠ 0 := by
    intro l
    induction l with
    | nil => intro g h; rcases h with h | ⟨_, h, _⟩; exact h; cases h
    | cons p r ih =>
      intro g h
      refine ih (Nat.gcd g p) ?_
      rcases h with h | ⟨q, hq, h⟩
      · left; intro e; exact h (Nat.eq_zero_of_gcd_eq_zero_left e)
      · rcases List.mem_cons.1 hq with rfl | hq
        · left; intro e; exact h (Nat.eq_zero_of_gcd_eq_zero_right e)
        · exact .inr ⟨q, hq, h⟩
  obtain ⟨l1, l2⟩ := good_len hg
  refine hpos _ 0 (.inr ?_)
  cases ks with
  | nil => simp at l1
  | cons x r => exact ⟨x.toNat, by simp [natK], by have := hk x (by simp); omega⟩

/-- The model's way: from 800 down. -/
theorem gr_model {ks : List Int} (hg : goodK ks = true) (h1 : gcdN ks = 1) (h0 : ks.getD 0 0 ≠ 1) : ∃ t, grN ks = some t ∧ topN ks 801 = some t ∧ t ≤ 400 := by
  have e : topN ks 801 = topN ks 401 := top_down (by omega) (fun j h1' h2 => all_few hg h1 j (by omega) (by omega))
  have hk : ∀ x ∈ ks, 1 ≤ x := fun x hx => (good_mem hg x hx).1
  obtain ⟨l1, l2⟩ := good_len hg
  have hri : risesB 20 1 ks = true := by simp only [goodK, Bool.and_eq_true] at hg; exact hg.2
  have hout : fewP ks 1 = 1000 := by
    refine one_out ?_
    cases ks with
    | nil => simp at l1
    | cons x r =>
      have hx := hk x (by simp)
      simp at h0
      intro y hy
      rcases List.mem_cons.1 hy with rfl | hy
      · omega
      · have := rises_gt hri y hy; omega
  obtain ⟨t, ht⟩ := top_some (ks := ks) (n := 401) (by omega : 1 < 401) hout
  have := top_lt ht
  exact ⟨t, by unfold grN; rw [if_pos ⟨hg, h1⟩]; exact ht, by rw [e]; exact ht, by omega⟩
theorem gr_one {ks : List Int} (hg : goodK ks = true) (h0 : ks.getD 0 0 = 1) : grN ks = none := by
  have hk : ∀ x ∈ ks, 1 ≤ x := fun x hx => (good_mem hg x hx).1
  unfold grN
  split
  · refine top_none fun j hj => ?_
    have h1 : (1 : Int) ∈ ks := by
      cases ks with
      | nil => simp at h0
      | cons x r => simp at h0; simp [h0]
    have := one_all hk h1 j
    omega
  · rfl
theorem gr_div {ks : List Int} (h : gcdN ks ≠ 1) : grN ks = none := by
  unfold grN; rw [if_neg (fun h' => h h'.2)]
theorem gr_bad {ks : List Int} (h : goodK ks = false) : grN ks = none := by
  unfold grN; rw [if_neg (by simp [h])]
end Go.Proofs.Ythlkndloggmehaa
