/-
  Darts: least numbers of darts, and how many lists there are (plain).
-/
import Derived.Test.YtaplkciomagmiaaDnAll
namespace Go.Proofs.Ytaplkciomagmiaa
open Go.RowKit
set_option linter.unusedVariables false
set_option linter.unusedSimpArgs false

def scD (d : Int × Int) : Int := d.1 * d.2
def dblD (d : Int × Int) : Bool := d.2 == 2
theorem allD_bd : ∀ d ∈ allD, 1 ≤ scD d ∧ scD d ≤ 60 ∧ 1 ≤ d.1 ∧ d.1 ≤ 25 ∧ 1 ≤ d.2 ∧ d.2 ≤ 3 := by decide +kernel
theorem allD_len : allD.length = 62 := by decide +kernel
theorem allD_12 : ((1, 2) : Int × Int) ∈ allD := by decide +kernel
theorem allD_11 : ((1, 1) : Int × Int) ∈ allD := by decide +kernel
theorem allD_21 : ((2, 1) : Int × Int) ∈ allD := by decide +kernel

/-- There is a finish of n with just k darts. -/
def finB : Nat → Int → Bool
  | 0, _ => false
  | 1, n => allD.any fun d => decide (scD d = n) && dblD d
  | k + 2, n => allD.any fun d => finB (k + 1) (n - scD d)

theorem finB_pos : ∀ k n, finB k n = true → 1 ≤ n ∧ n ≤ 60 * k
  | 0, n, h => by simp [finB] at h
  | 1, n, h => by
    simp only [finB, List.any_eq_true, Bool.and_eq_true, decide_eq_true_eq] at h
    obtain ⟨d, hd, h1, _⟩ := h
    have := allD_bd d hd
    omega
  | k + 2, n, h => by
    simp only [finB, List.any_eq_true] at h
    obtain ⟨d, hd, h1⟩ := h
    have := finB_pos (k + 1) _ h1
    have := allD_bd d hd
    omega
theorem finB_any : ∀ m : Nat, 2 ≤ m → ∃ k, finB (k + 1) (m : Int) = true
  | m, hm => by
    by_cases h2 : m = 2
    · subst h2; exact ⟨0, by simp only [finB, List.any_eq_true]; exact ⟨_, allD_12, by decide⟩⟩
    by_cases h3 : m = 3
    · subst h3; exact ⟨1, by
        simp only [finB, List.any_eq_true]; exact ⟨_, allD_11, _, allD_12, by decide⟩⟩
    obtain ⟨k, hk⟩ := finB_any (m - 2) (by omega)
    refine ⟨k + 1, ?_⟩
    simp only [finB, List.any_eq_true]
    refine ⟨_, allD_21, ?_⟩
    rw [show (m : Int) - scD (2, 1) = ((m - 2 : Nat) : Int) by unfold scD; simp; omega]
    exact hk

/-- What one dart makes of the least number of darts so far. -/
def candF (tab : List Int) (n : Int) (d : Int × Int) : Int :=
  if n - scD d = 0 ∧ dblD d = true then 1 else if 0 < n - scD d ∧ 0 < tab.getD (n - scD d).toNat 0 then 1 + tab.getD (n - scD d).toNat 0 else 0
def stepF (tab : List Int) (n : Int) (cur : Int) (d : Int × Int) : Int :=
  if 0 < candF tab n d ∧ (cur = 0 ∨ candF tab n d < cur) then candF tab n d else cur
def nextF (tab : List Int) (n : Int) : Int := allD.foldl (stepF tab n) 0
def fewT : Nat → List Int
  | 0 => []
  | k + 1 => fewT k ++ [nextF (fewT k) k]
def fewN (n : Nat) : Int := nextF (fewT n) n
theorem fewT_len : ∀ k, (fewT k).length = k
  | 0 => rfl
  | k + 1 => by simp [fewT, fewT_len k]
theorem fewT_at : ∀ k n, n < k → (fewT k).getD n 0 = fewN n
  | 0, n, h => by omega
  | k + 1, n, h => by
    unfold fewT
    by_cases hn : n < k
    · rw [List.getD_eq_getElem?_getD, List.getElem?_append_left (by rw [fewT_len]; exact hn), ← List.getD_eq_getElem?_getD, fewT_at k n hn]
    · obtain rfl : n = k := by omega
      rw [List.getD_eq_getElem?_getD, List.getElem?_append_right (by rw [fewT_len]; omega), fewT_len]
      simp [fewN]

/-- c is 0 with no candidate, or the least candidate. -/
def LeastF (P : Int → Prop) (c : Int) : Prop := (c = 0 ∧ ∀ x, 0 < x → ¬ P x) ∨ (0 < c ∧ P c ∧ ∀ x, 0 < x → P x → c ≤ x)
theorem fold_least (tab : List Int) (n : Int) : ∀ (l l0 : List (Int × Int)) (c : Int), LeastF (fun x => ∃ d ∈ l0, candF tab n d = x) c → LeastF (fun x => ∃ d ∈ l0 ++ l, candF tab n d = x) (l.foldl (stepF tab n) c)
  | [], l0, c, h => by simpa using h
  | d :: l, l0, c, h => by
    rw [List.foldl_cons, show l0 ++ d :: l = (l0 ++ [d]) ++ l by simp]
    refine fold_least tab n l (l0 ++ [d]) _ ?_
    unfold stepF
    rcases h with ⟨rfl, h⟩ | ⟨h0, ⟨e, he, hec⟩, h⟩
    · by_cases hp : 0 < candF tab n d
      · rw [if_pos ⟨hp, .inl rfl⟩]
        refine .inr ⟨hp, ⟨d, by simp, rfl⟩, ?_⟩
        rintro x hx ⟨e, he, rfl⟩
        rcases List.mem_append.1 he with he | he
        · exact absurd ⟨e, he, rfl⟩ (h _ hx)
        · simp at he; subst he; omega
      · rw [if_neg (fun q => hp q.1)]
        refine .inl ⟨rfl, ?_⟩
        rintro x hx ⟨e, he, rfl⟩
        rcases List.mem_append.1 he with he | he
        · exact h _ hx ⟨e, he, rfl⟩
        · simp at he; subst he; omega
    · by_cases hp : 0 < candF tab n d ∧ (c = 0 ∨ candF tab n d < c)
      · rw [if_pos hp]
        refine .inr ⟨hp.1, ⟨d, by simp, rfl⟩, ?_⟩
        rintro x hx ⟨e', he, rfl⟩
        rcases List.mem_append.1 he with he | he
        · have := h _ hx ⟨e', he, rfl⟩; omega
        · simp at he; subst he; omega
      · rw [if_neg hp]
        refine .inr ⟨h0, ⟨e, by simp [he], hec⟩, ?_⟩
        rintro x hx ⟨e', he, rfl⟩
        rcases List.mem_append.1 he with he | he
        · exact h _ hx ⟨e', he, rfl⟩
        · simp at he; subst he; omega
theorem nextF_least (tab : List Int) (n : Int) : LeastF (fun x => ∃ d ∈ allD, candF tab n d = x) (nextF tab n) := by
  have := fold_least tab n allD [] 0 (.inl ⟨rfl, by simp⟩)
  rw [List.nil_append] at this
  exact this

/-- The least number of darts. -/
theorem fewN_is (n : Nat) : LeastF (fun x => ∃ k : Nat, x = k ∧ finB k n = true) (fewN n) := by
  induction n using Nat.strongRecOn with
  | ind n ih =>
    have hcand : ∀ x, 0 < x → ((∃ d ∈ allD, candF (fewT n) n d = x) → ∃ k : Nat, x = k ∧ finB k n = true) := by
      rintro x hx ⟨d, hd, rfl⟩
      have hb := allD_bd d hd
      unfold candF at hx ⊢
      by_cases h1 : (n : Int) - scD d = 0 ∧ dblD d = true
      · rw [if_pos h1]
        exact ⟨1, rfl, by simp only [finB, List.any_eq_true]; exact ⟨d, hd, by simp [h1.2]; omega⟩⟩
      · rw [if_neg h1] at hx ⊢
        by_cases h2 : 0 < (n : Int) - scD d ∧ 0 < (fewT n).getD ((n : Int) - scD d).toNat 0
        · rw [if_pos h2]
          have hlt : ((n : Int) - scD d).toNat < n := by omega
          rw [fewT_at n _ hlt] at h2 ⊢
          rcases ih _ hlt with ⟨h0, _⟩ | ⟨h0, ⟨k, hk, hf⟩, _⟩
          · omega
          · refine ⟨k + 1, by omega, ?_⟩
            obtain ⟨k, rfl⟩ : ∃ k', k = k' + 1 := ⟨k - 1, by omega⟩
            simp only [finB, List.any_eq_true]
            refine ⟨d, hd, ?_⟩
            rw [show (n : Int) - scD d = (((n : Int) - scD d).toNat : Int) by omega]; exact hf
        · rw [if_neg h2] at hx; omega
    have hback : ∀ k : Nat, finB k n = true → ∃ d ∈ allD, 0 < candF (fewT n) n d ∧ candF (fewT n) n d ≤ k := by
      intro k hk
      match k, hk with
      | 0, hk => simp [finB] at hk
      | 1, hk =>
        simp only [finB, List.any_eq_true, Bool.and_eq_true, decide_eq_true_eq] at hk
        obtain ⟨d, hd, h1, h2⟩ := hk
        refine ⟨d, hd, ?_⟩
        unfold candF
        rw [if_pos ⟨by omega, h2⟩]
        omega
      | k + 2, hk =>
        simp only [finB, List.any_eq_true] at hk
        obtain ⟨d, hd, h1⟩ := hk
        refine ⟨d, hd, ?_⟩
        have hb := allD_bd d hd
        have hp := finB_pos _ _ h1
        unfold candF
        have hlt : ((n : Int) - scD d).toNat < n := by omega
        rw [if_neg (fun q => by omega), fewT_at n _ hlt]
        rw [show (n : Int) - scD d = (((n : Int) - scD d).toNat : Int) by omega] at h1
        rcases ih _ hlt with ⟨h0, hn⟩ | ⟨h0, _, hm⟩
        · exact absurd ⟨k + 1, rfl, h1⟩ (hn _ (by omega))
        · have := hm _ (by omega) ⟨k + 1, rfl, h1⟩
          rw [if_pos ⟨by omega, h0⟩]
          omega
    rcases nextF_least (fewT n) n with ⟨h0, hn⟩ | ⟨h0, hc, hm⟩
    · refine .inl ⟨h0, ?_⟩
      rintro x hx ⟨k, rfl, hk⟩
      obtain ⟨d, hd, h1, _⟩ := hback k hk
      exact hn _ h1 ⟨d, hd, rfl⟩
    · refine .inr ⟨h0, hcand _ h0 hc, ?_⟩
      rintro x hx ⟨k, rfl, hk⟩
      obtain ⟨d, hd, h1, h2⟩ := hback k hk
      have := hm _ h1 ⟨d, hd, rfl⟩
      show nextF (fewT n) n ≤ _
      omega
theorem fewN_zero : fewN 0 = 0 := by decide +kernel
theorem fewN_one : fewN 1 = 0 := by decide +kernel
theorem fewN_nn (n : Nat) : 0 ≤ fewN n := by rcases fewN_is n with ⟨h, _⟩ | ⟨h, _⟩ <;> omega
theorem fewN_pos (n : Nat) (h : 2 ≤ n) : 0 < fewN n := by
  obtain ⟨k, hk⟩ := finB_any n h
  rcases fewN_is n with ⟨_, hn⟩ | ⟨h, _⟩
  · exact absurd ⟨k + 1, rfl, hk⟩ (hn _ (by omega))
  · exact h
theorem fewN_le (n k : Nat) (h : finB k n = true) : fewN n ≤ k := by
  have hk : 0 < k := by cases k; simp [finB] at h; omega
  rcases fewN_is n with ⟨h0, _⟩ | ⟨_, _, hm⟩
  · omega
  · exact hm _ (by omega) ⟨k, rfl, h⟩
theorem fewN_fin (n : Nat) (h : 0 < fewN n) : finB (fewN n).toNat n = true := by
  rcases fewN_is n with ⟨h0, _⟩ | ⟨_, ⟨k, hk, hf⟩, _⟩
  · omega
  · rw [hk]; simpa using hf
/-- Finishes with at most so many darts. -/
def canB (n : Int) : Nat → Bool
  | 0 => false
  | k + 1 => canB n k || finB (k + 1) n
theorem canB_iff (n : Int) : ∀ k, canB n k = true ↔ ∃ j, j ≤ k ∧ finB j n = true
  | 0 => by
    simp only [canB]
    constructor
    · intro h; cases h
    · rintro ⟨j, hj, h⟩
      obtain rfl : j = 0 := by omega
      simp [finB] at h
  | k + 1 => by
    simp only [canB, Bool.or_eq_true, canB_iff n k]
    constructor
    · rintro (⟨j, hj, h⟩ | h)
      · exact ⟨j, by omega, h⟩
      · exact ⟨k + 1, by omega, h⟩
    · rintro ⟨j, hj, h⟩
      by_cases e : j = k + 1
      · subst e; exact .inr h
      · exact .inl ⟨j, by omega, h⟩
theorem canB_few (n k : Nat) : canB n k = (decide (0 < fewN n) && decide (fewN n ≤ k)) := by
  apply Bool.eq_iff_iff.2
  rw [canB_iff, Bool.and_eq_true, decide_eq_true_eq, decide_eq_true_eq]
  constructor
  · rintro ⟨j, hj, h⟩
    have h1 := fewN_le n j h
    refine ⟨?_, by omega⟩
    have := finB_pos _ _ h
    exact Decidable.byContradiction fun q => by
      rcases fewN_is n with ⟨_, hn⟩ | ⟨hp, _⟩
      · have hj0 : 0 < j := by cases j; simp [finB] at h; omega
        exact hn j (by omega) ⟨j, rfl, h⟩
      · exact q hp
  · rintro ⟨h1, h2⟩
    exact ⟨_, by omega, fewN_fin n h1⟩
theorem canB_top (n : Int) (k : Nat) (hk : k ≤ 3) (hn : 180 < n) : canB n k = false := by
  cases h : canB n k
  · rfl
  · obtain ⟨j, hj, h⟩ := (canB_iff n k).1 h
    have := finB_pos _ _ h
    omega

/-- How many lists of just k darts have the sum n. -/
def sumD (l : List (Int × Int)) (f : Int × Int → Int) : Int := (l.map f).foldl (· + ·) 0
theorem foldl_add (l : List Int) (a : Int) : l.foldl (· + ·) a = a + l.foldl (· + ·) 0 := by
  induction l generalizing a with
  | nil => simp
  | cons x l ih => rw [List.foldl_cons, ih, List.foldl_cons, ih (0 + x)]; omega
theorem sumD_nil (f : Int × Int → Int) : sumD [] f = 0 := rfl
theorem sumD_cons (d) (l) (f : Int × Int → Int) : sumD (d :: l) f = f d + sumD l f := by
  unfold sumD
  rw [List.map_cons, List.foldl_cons, foldl_add]; omega
theorem sumD_app (l m) (f : Int × Int → Int) : sumD (l ++ m) f = sumD l f + sumD m f := by
  induction l with
  | nil => rw [sumD_nil]; simp
  | cons d l ih => rw [List.cons_append, sumD_cons, sumD_cons, ih]; omega
theorem sumD_bd (B : Int) (f : Int × Int → Int) : ∀ l : List (Int × Int), (∀ d ∈ l, 0 ≤ f d ∧ f d ≤ B) → 0 ≤ sumD l f ∧ sumD l f ≤ l.length * B
  | [], _ => by simp [sumD_nil]
  | d :: l, h => by
    rw [sumD_cons]
    have h1 := h d (by simp)
    have h2 := sumD_bd B f l (fun e he => h e (by simp [he]))
    rw [List.length_cons, Int.natCast_add, Int.add_mul]
    omega
theorem sumD_pos (f : Int × Int → Int) : ∀ l : List (Int × Int), (∀ d ∈ l, 0 ≤ f d) → (0 < sumD l f ↔ ∃ d ∈ l, 0 < f d)
  | [], _ => by simp [sumD_nil]
  | d :: l, h => by
    rw [sumD_cons]
    have h1 := h d (by simp)
    have h2 := sumD_pos f l (fun e he => h e (by simp [he]))
    have h3 : 0 ≤ sumD l f := by
      clear h2 h1
      induction l with
      | nil => simp [sumD_nil]
      | cons e l ih => rw [sumD_cons]; have := h e (by simp); have := ih (fun x hx => h x (by simp at hx ⊢; rcases hx with hx | hx <;> simp [hx])); omega
    constructor
    · intro hp
      by_cases h0 : 0 < f d
      · exact ⟨d, by simp, h0⟩
      · obtain ⟨e, he, hq⟩ := h2.1 (by omega)
        exact ⟨e, by simp [he], hq⟩
    · rintro ⟨e, he, hq⟩
      rcases List.mem_cons.1 he with rfl | he
      · omega
      · have := h2.2 ⟨e, he, hq⟩; omega
def ways : Nat → Int → Int
  | 0, n => if n = 0 then 1 else 0
  | k + 1, n => sumD allD fun d => ways k (n - scD d)
def finW (k : Nat) (n : Int) : Int := sumD (allD.filter dblD) fun d => ways (k - 1) (n - scD d)
theorem ways_bd : ∀ k n, 0 ≤ ways k n ∧ ways k n ≤ 62 ^ k
  | 0, n => by simp only [ways]; split <;> simp
  | k + 1, n => by
    have := sumD_bd (62 ^ k) (fun d => ways k (n - scD d)) allD (fun d _ => ways_bd k _)
    rw [allD_len] at this
    simp only [ways]
    refine ⟨this.1, ?_⟩
    rw [Int.pow_succ, Int.mul_comm]
    exact this.2
theorem ways_neg : ∀ k n, n < 0 → ways k n = 0
  | 0, n, h => by simp only [ways]; rw [if_neg (by omega)]
  | k + 1, n, h => by
    simp only [ways]
    have hb := sumD_bd 0 (fun d => ways k (n - scD d)) allD (fun d hd => by
      have := allD_bd d hd
      have := ways_neg k (n - scD d) (by omega)
      omega)
    omega
theorem ways_pos (k : Nat) (n : Int) : 0 < ways (k + 1) n ↔ ∃ d ∈ allD, 0 < ways k (n - scD d) := sumD_pos _ _ (fun d _ => (ways_bd k _).1)
theorem finW_pos (k : Nat) (n : Int) : 0 < finW k n ↔ ∃ d ∈ allD, dblD d = true ∧ 0 < ways (k - 1) (n - scD d) := by
  unfold finW
  rw [sumD_pos _ _ (fun d _ => (ways_bd _ _).1)]
  constructor
  · rintro ⟨d, hd, h⟩; exact ⟨d, (List.mem_filter.1 hd).1, (List.mem_filter.1 hd).2, h⟩
  · rintro ⟨d, hd, h1, h2⟩; exact ⟨d, List.mem_filter.2 ⟨hd, h1⟩, h2⟩
theorem finW_fin : ∀ (k : Nat) (n : Int), 0 < finW (k + 1) n ↔ finB (k + 1) n = true
  | 0, n => by
    rw [finW_pos]
    simp only [finB, List.any_eq_true, Bool.and_eq_true, decide_eq_true_eq]
    constructor
    · rintro ⟨d, hd, h1, h2⟩
      refine ⟨d, hd, ?_, h1⟩
      rw [show 0 + 1 - 1 = 0 from rfl] at h2
      unfold ways at h2
      split at h2 <;> omega
    · rintro ⟨d, hd, h1, h2⟩
      refine ⟨d, hd, h2, ?_⟩
      rw [show 0 + 1 - 1 = 0 from rfl]
      unfold ways
      rw [if_pos (by omega)]; omega
  | k + 1, n => by
    simp only [finB, List.any_eq_true]
    rw [finW_pos]
    constructor
    · rintro ⟨d, hd, h1, h2⟩
      rw [show k + 1 + 1 - 1 = k + 1 from rfl, ways_pos] at h2
      obtain ⟨e, he, h2⟩ := h2
      refine ⟨e, he, (finW_fin k _).1 ((finW_pos _ _).2 ⟨d, hd, h1, ?_⟩)⟩
      rw [show n - scD e - scD d = n - scD d - scD e by omega]; exact h2
    · rintro ⟨e, he, h⟩
      obtain ⟨d, hd, h1, h2⟩ := (finW_pos _ _).1 ((finW_fin k _).2 h)
      refine ⟨d, hd, h1, ?_⟩
      rw [show k + 1 + 1 - 1 = k + 1 from rfl, ways_pos]
      exact ⟨e, he, by rw [show n - scD d - scD e = n - scD e - scD d by omega]; exact h2⟩

end Go.Proofs.Ytaplkciomagmiaa
