/-
  Goals, plain facts: kinds without a common divisor reach every score from 380 on (seen up to 800).
-/
import Derived.Test.YthlkndloggmehaaGoMath
namespace Go.Proofs.Ythlkndloggmehaa
set_option linter.unusedVariables false

/-- Bits of scores that are reached: with one kind more, up to 800. -/
def twice (B m p : Nat) : Nat → Nat
  | 0 => m
  | n + 1 => twice B ((m ||| (m <<< p)) % 2 ^ B) (p + p) n
def withK (B m p : Nat) : Nat := twice B m p 10
def allBits (L m : Nat) : Bool := m >>> 380 == 2 ^ L - 1

/-- Every way to go on with greater kinds comes to a divisor 1 with all scores reached, or has another divisor at its end. -/
def goOn (B L : Nat) : Nat → Nat → Nat → Nat → Nat → Bool
  | 0, _, _, _, _ => true
  | f + 1, lo, len, m, g =>
    (Nat.blt 20 lo) || (len == 0) ||
      ((let g' := Nat.gcd g lo
        let m' := withK B m lo
        if g' == 1 then allBits L m' else goOn B L f (lo + 1) (len - 1) m' g') && goOn B L f (lo + 1) len m g)

set_option maxRecDepth 100000 in
theorem goOn_all : goOn 801 421 21 1 5 1 0 = true := by decide +kernel

/-- A set of scores that is closed under one kind more, as bits. -/
theorem twice_in (B : Nat) (R : Nat → Prop) (p : Nat) (hR : ∀ s, R s → s + p < B → R (s + p)) : ∀ (n m k : Nat), (∀ s, m.testBit s = true → s < B → R s) → ∀ s, (twice B m (p * k) n).testBit s = true → s < B → R s
  | 0, m, k, hm, s, h, hs => hm s h hs
  | n + 1, m, k, hm, s, h, hs => by
    rw [twice, show p * k + p * k = p * (k + k) by rw [Nat.mul_add]] at h
    refine twice_in B R p hR n _ (k + k) (fun t ht ht2 => ?_) s h hs
    rw [Nat.testBit_mod_two_pow, Nat.testBit_or, Nat.testBit_shiftLeft] at ht
    simp only [Bool.and_eq_true, decide_eq_true_eq, Bool.or_eq_true] at ht
    rcases ht.2 with ht | ⟨h1, h2⟩
    · exact hm t ht ht2
    · have h3 := hm _ h2 (by omega)
      have hall : ∀ j, j ≤ k → R (t - p * k + p * j) := by
        intro j
        induction j with
        | zero => intro _; simpa using h3
        | succ j ih =>
          intro hj
          have := hR _ (ih (by omega)) (by
            have : p * j + p ≤ p * k := by rw [← Nat.mul_succ]; exact Nat.mul_le_mul_left p hj
            omega)
          rw [Nat.mul_succ, ← Nat.add_assoc]; exact this
      have := hall k (Nat.le_refl _)
      rwa [show t - p * k + p * k = t by omega] at this
theorem withK_in (B : Nat) (R : Nat → Prop) (p m : Nat) (hR : ∀ s, R s → s + p < B → R (s + p)) (hm : ∀ s, m.testBit s = true → s < B → R s) : ∀ s, (withK B m p).testBit s = true → s < B → R s := by
  have := twice_in B R p hR 10 m 1 hm
  rw [Nat.mul_one] at this
  exact this

theorem allBits_get {L m : Nat} (h : allBits L m = true) (s : Nat) (h1 : 380 ≤ s) (h2 : s < 380 + L) : m.testBit s = true := by
  have e : m >>> 380 = 2 ^ L - 1 := by simpa [allBits] using h
  have := congrArg (fun x => Nat.testBit x (s - 380)) e
  simp only [Nat.testBit_shiftRight, Nat.testBit_two_pow_sub_one] at this
  rw [show 380 + (s - 380) = s by omega] at this
  rw [this]; simp; omega

def gcdG (ks : List Nat) (g : Nat) : Nat := ks.foldl Nat.gcd g
def risesN : Nat → List Nat → Prop
  | _, [] => True
  | lo, x :: r => lo ≤ x ∧ x ≤ 20 ∧ risesN (x + 1) r
theorem risesN_le {lo lo' : Nat} (h : lo' ≤ lo) {ks : List Nat} (hk : risesN lo ks) : risesN lo' ks := by
  cases ks with
  | nil => trivial
  | cons x r => exact ⟨Nat.le_trans h hk.1, hk.2.1, hk.2.2⟩

theorem goOn_use (B L : Nat) (hBL : 380 + L ≤ B) (R : Nat → Prop) : ∀ (f lo len m g : Nat), 21 ≤ lo + f → goOn B L f lo len m g = true → (∀ s, m.testBit s = true → s < B → R s) →
    ∀ ks : List Nat, risesN lo ks → ks.length ≤ len → ks ≠ [] → g ≠ 1 → gcdG ks g = 1 → (∀ p ∈ ks, ∀ s, R s → s + p < B → R (s + p)) → ∀ s, 380 ≤ s → s < 380 + L → R s
  | 0, lo, len, m, g, hf, _, _, ks, hk, _, hne, _, _, _, _, _, _ => by
    cases ks with
    | nil => exact absurd rfl hne
    | cons x r => have := hk.1; have := hk.2.1; omega
  | f + 1, lo, len, m, g, hf, ho, hm, ks, hk, hl, hne, hg1, hg, hR, s, h1, h2 => by
    cases ks with
    | nil => exact absurd rfl hne
    | cons x r =>
      have hx := hk.1
      have hx2 := hk.2.1
      simp only [List.length_cons] at hl
      unfold goOn at ho
      have b1 : Nat.blt 20 lo = false := by
        cases hb : Nat.blt 20 lo with
        | false => rfl
        | true => rw [Nat.blt_eq] at hb; omega
      have b2 : (len == 0) = false := by simp; omega
      rw [b1, b2, Bool.false_or, Bool.false_or, Bool.and_eq_true] at ho
      obtain ⟨ho1, ho2⟩ := ho
      by_cases e : x = lo
      · subst e
        have hm' := withK_in B R x m (hR x (List.mem_cons_self ..)) hm
        have hgr : gcdG r (Nat.gcd g x) = 1 := hg
        simp only at ho1
        by_cases hq : Nat.gcd g x = 1
        · rw [hq] at ho1
          exact hm' s (allBits_get (by simpa using ho1) s h1 h2) (by omega)
        · have hq2 : (Nat.gcd g x == 1) = false := by simp [hq]
          rw [hq2] at ho1
          have hr : r ≠ [] := by
            rintro rfl
            exact hq hgr
          exact goOn_use B L hBL R f (x + 1) (len - 1) _ _ (by omega) (by simpa using ho1) hm' r hk.2.2 (by omega) hr hq hgr (fun p hp => hR p (List.mem_cons_of_mem _ hp)) s h1 h2
      · exact goOn_use B L hBL R f (lo + 1) len m g (by omega) ho2 hm (x :: r) ⟨by omega, hx2, hk.2.2⟩ (by simpa using hl) (by simp) hg1 hg hR s h1 h2

/-- With no common divisor but 1, every score from 380 to 800 is in a set that holds 0 and is closed under the kinds. -/
theorem all_reached (R : Nat → Prop) (h0 : R 0) (ks : List Nat) (hk : risesN 1 ks) (hl : ks.length ≤ 5) (hne : ks ≠ []) (hg : gcdG ks 0 = 1) (hR : ∀ p ∈ ks, ∀ s, R s → s + p < 801 → R (s + p)) : ∀ s, 380 ≤ s → s ≤ 800 → R s :=
  fun s h1 h2 => goOn_use 801 421 (by omega) R 21 1 5 1 0 (by omega) goOn_all (fun s h _ => by
    have : s = 0 := by
      rcases Nat.eq_zero_or_pos s with h0 | h0
      · exact h0
      · rw [show (1 : Nat) = 2 ^ 0 by rfl, Nat.testBit_two_pow] at h
        simp at h; omega
    subst this; exact h0) ks hk hl hne (by decide) hg hR s h1 (by omega)
end Go.Proofs.Ythlkndloggmehaa
