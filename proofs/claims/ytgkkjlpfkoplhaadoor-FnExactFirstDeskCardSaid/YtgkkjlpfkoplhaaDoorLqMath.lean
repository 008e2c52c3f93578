/-
  Leagues out of texts: what both sides read: plain facts.
-/
import Derived.Test.YtgkkjlpfkoplhaaDoorLqNum
namespace Go.Proofs.YtgkkjlpfkoplhaaDoor
open Go.RowKit
set_option linter.unusedVariables false
set_option linter.unusedSimpArgs false

/-! Cut and split at one sign. -/
theorem index_app {m : UInt8} : ∀ {x : List UInt8} (y : List UInt8), m ∉ x → Lib.index (x ++ m :: y) [m] = x.length
  | [], y, _ => by rw [List.nil_append, index_one, if_pos rfl]; rfl
  | c :: x, y, h => by
    have hc : ¬ c = m := fun e => h (by rw [e]; exact List.mem_cons_self ..)
    have ih := index_app (x := x) y (fun e => h (List.mem_cons_of_mem _ e))
    rw [List.cons_append, index_one, if_neg hc, ih, if_neg (by omega)]; simp
theorem cut_app {m : UInt8} {x : List UInt8} (y : List UInt8) (h : m ∉ x) : Lib.cut (x ++ m :: y) [m] = (x, y, true) := by
  unfold Lib.cut; rw [index_app y h, if_pos (by omega)]; simp
theorem join_cons2 (b : UInt8) (p : List UInt8) : ∀ {X : List (List UInt8)}, X ≠ [] → Lib.join (p :: X) [b] = p ++ b :: Lib.join X [b]
  | [], h => absurd rfl h
  | q :: X, _ => by rw [Lib.join_cons, Lib.join_cons]; simp [Lib.joinTail]
theorem cutL_joinB (b : UInt8) : ∀ (ps : List (List UInt8)), ps ≠ [] → (∀ p ∈ ps, b ∉ p) → cutL b (Lib.join ps [b]) = ps
  | [], h, _ => absurd rfl h
  | [p], _, h => by rw [Lib.join_one]; exact cutL_one p (h p (List.mem_cons_self ..))
  | p :: q :: r, _, h => by
    have ih := cutL_joinB b (q :: r) (by simp) (fun x hx => h x (List.mem_cons_of_mem _ hx))
    rw [join_cons2 b p (by simp), cutL_app p _ (h p (List.mem_cons_self ..)), ih]
theorem cutL_facts (b : UInt8) : ∀ l : List UInt8, Lib.join (cutL b l) [b] = l ∧ ∀ p ∈ cutL b l, b ∉ p
  | [] => by simp [cutL, Lib.join_one]
  | c :: r => by
    obtain ⟨h1, h2⟩ := cutL_facts b r
    by_cases hc : c = b
    · subst hc
      rw [cutL_hit, join_cons2 _ _ (cutL_ne c r), h1]
      refine ⟨rfl, fun p hp => ?_⟩
      rcases List.mem_cons.1 hp with rfl | hp
      · simp
      · exact h2 p hp
    · obtain ⟨p, ps, e⟩ : ∃ p ps, cutL b r = p :: ps := by
        cases h : cutL b r with
        | nil => exact absurd h (cutL_ne b r)
        | cons p ps => exact ⟨p, ps, rfl⟩
      rw [cutL_miss hc e]
      rw [e] at h1 h2
      refine ⟨?_, fun q hq => ?_⟩
      · rw [Lib.join_cons] at h1 ⊢
        rw [List.cons_append, h1]
      · rcases List.mem_cons.1 hq with rfl | hq
        · intro hm
          rcases List.mem_cons.1 hm with e2 | hm
          · exact hc e2.symm
          · exact h2 p (List.mem_cons_self ..) hm
        · exact h2 q (List.mem_cons_of_mem _ hq)
theorem cutL_two {b : UInt8} {l p q : List UInt8} (h : cutL b l = [p, q]) : l = p ++ b :: q ∧ b ∉ p ∧ b ∉ q := by
  obtain ⟨h1, h2⟩ := cutL_facts b l
  rw [h] at h1 h2
  rw [join_cons2 b p (by simp), Lib.join_one] at h1
  exact ⟨h1.symm, h2 p (by simp), h2 q (by simp)⟩
theorem cutL_pair {b : UInt8} {p q : List UInt8} (hp : b ∉ p) (hq : b ∉ q) : cutL b (p ++ b :: q) = [p, q] := by
  rw [cutL_app p q hp, cutL_one q hq]

/-! Numbers. -/
theorem num_facts : ∀ n : Nat, n ≤ 20 → atoiV (numF 1 n) = n ∧ readL (numF 1 n) = n ∧ ∀ c ∈ numF 1 n, 48 ≤ c.toNat ∧ c.toNat ≤ 57 := by decide +kernel
theorem num_not {n : Nat} (h : n ≤ 20) {b : UInt8} (hb : b.toNat < 48 ∨ 57 < b.toNat) : b ∉ numF 1 n := fun e => by
  have := (num_facts n h).2.2 b e; omega
theorem digs_ge : ∀ (l : List UInt8) (n : Int), 0 ≤ n → digs n l = -1 ∨ n ≤ digs n l
  | [], n, h => .inr (Int.le_refl _)
  | c :: l, n, h => by
    unfold digs
    split
    · rcases digs_ge l (10 * n + ((c.toNat : Int) - 48)) (by omega) with h1 | h1
      · exact .inl h1
      · exact .inr (by omega)
    · exact .inl rfl
theorem dig_of {c : UInt8} {i : Nat} (h : c.toNat = 48 + i) : c = dig i := by
  have h2 : c = UInt8.ofNat c.toNat := by simp
  rw [h2, h]; rfl
theorem read_num {p : List UInt8} (h0 : 0 ≤ readL p) (h1 : readL p ≤ 20) : p = numF 1 (readL p).toNat := by
  revert h0 h1
  match p with
  | [] => intro h0 h1; simp [readL] at h0
  | [c] =>
    unfold readL
    rw [if_neg (by simp), if_neg (by simp)]
    unfold digs digs
    split
    · intro h0 h1
      have e : (10 * (0 : Int) + ((c.toNat : Int) - 48)).toNat = c.toNat - 48 := by omega
      rw [e]
      have e2 : numF 1 (c.toNat - 48) = [dig (c.toNat - 48)] := by unfold numF; rw [if_pos (by omega)]
      rw [e2, ← dig_of (show c.toNat = 48 + (c.toNat - 48) by omega)]
    · intro h0; omega
  | [c, d] =>
    unfold readL
    rw [if_neg (by simp)]
    by_cases hc : c = 48
    · rw [if_pos (by simp [hc])]; intro h0; omega
    · rw [if_neg (by simp [hc])]
      have hc2 : c.toNat ≠ 48 := fun e => hc (UInt8.toNat_inj.1 (by simpa using e))
      unfold digs digs
      split
      · unfold digs
        split
        · intro h0 h1
          have e : (10 * (10 * (0 : Int) + ((c.toNat : Int) - 48)) + ((d.toNat : Int) - 48)).toNat = 10 * (c.toNat - 48) + (d.toNat - 48) := by omega
          rw [e]
          have e2 : numF 1 (10 * (c.toNat - 48) + (d.toNat - 48)) = [dig (c.toNat - 48), dig (d.toNat - 48)] := by
            unfold numF
            rw [if_neg (by omega), show (10 * (c.toNat - 48) + (d.toNat - 48)) / 10 = c.toNat - 48 by omega, show (10 * (c.toNat - 48) + (d.toNat - 48)) % 10 = d.toNat - 48 by omega]; rfl
          rw [e2, ← dig_of (show c.toNat = 48 + (c.toNat - 48) by omega), ← dig_of (show d.toNat = 48 + (d.toNat - 48) by omega)]
        · intro h0; omega
      · intro h0; omega
  | c :: d :: e :: r =>
    unfold readL
    split
    · intro h0; omega
    · by_cases hc : c = 48
      · rw [if_pos (by simp [hc])]; intro h0; omega
      · rw [if_neg (by simp [hc])]
        have hc2 : c.toNat ≠ 48 := fun e => hc (UInt8.toNat_inj.1 (by simpa using e))
        unfold digs
        split
        · unfold digs
          split
          · unfold digs
            split
            · intro h0 h1
              exfalso
              rcases digs_ge r (10 * (10 * (10 * (0 : Int) + ((c.toNat : Int) - 48)) + ((d.toNat : Int) - 48)) + ((e.toNat : Int) - 48)) (by omega) with h | h <;> omega
            · intro h0; omega
          · intro h0; omega
        · intro h0; omega

/-! Two numbers with a sign between them. -/
def pairP (m : UInt8) (l : List UInt8) : Int × Int := (atoiV (Lib.cut l [m]).1, atoiV (Lib.cut l [m]).2.1)
def twoM (m : UInt8) (l : List UInt8) : Int × Int := match cutL m l with
  | [p, q] => (readL p, readL q)
  | _ => (-1, -1)
theorem pair_of {m : UInt8} (hm : m.toNat < 48 ∨ 57 < m.toNat) {a b : Nat} (ha : a ≤ 20) (hb : b ≤ 20) :
    pairP m (numF 1 a ++ m :: numF 1 b) = ((a : Int), (b : Int)) ∧ twoM m (numF 1 a ++ m :: numF 1 b) = ((a : Int), (b : Int)) := by
  constructor
  · unfold pairP; rw [cut_app _ (num_not ha hm), (num_facts a ha).1, (num_facts b hb).1]
  · unfold twoM; rw [cutL_pair (num_not ha hm) (num_not hb hm)]; simp only; rw [(num_facts a ha).2.1, (num_facts b hb).2.1]
theorem two_of {m : UInt8} {l : List UInt8} (h1 : 0 ≤ (twoM m l).1) (h2 : (twoM m l).1 ≤ 20) (h3 : 0 ≤ (twoM m l).2) (h4 : (twoM m l).2 ≤ 20) :
    l = numF 1 (twoM m l).1.toNat ++ m :: numF 1 (twoM m l).2.toNat := by
  revert h1 h2 h3 h4
  unfold twoM
  split
  · rename_i p q e
    intro h1 h2 h3 h4
    simp only at h1 h2 h3 h4 ⊢
    rw [← read_num h1 h2, ← read_num h3 h4]
    exact (cutL_two e).1
  · intro h1; simp at h1
end Go.Proofs.YtgkkjlpfkoplhaaDoor
