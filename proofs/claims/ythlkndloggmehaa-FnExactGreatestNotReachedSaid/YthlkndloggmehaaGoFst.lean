/-
  Goals, plain facts: the table's recurrence; first goals: the program's greedy way and the model's search agree.
-/
import Derived.Test.YthlkndloggmehaaGoMath
namespace Go.Proofs.Ythlkndloggmehaa
set_option linter.unusedVariables false

theorem stepP_le (T : List Int) (s least p : Int) : stepP T s least p ≤ least := by
  unfold stepP
  repeat' split
  all_goals omega
theorem fold_le (T : List Int) (s : Int) : ∀ (ks : List Int) (b : Int), ks.foldl (stepP T s) b ≤ b
  | [], b => Int.le_refl _
  | p :: r, b => Int.le_trans (fold_le T s r _) (stepP_le T s b p)
theorem fold_cand (T : List Int) (s : Int) : ∀ (ks : List Int) (b p : Int), p ∈ ks → p ≤ s → ks.foldl (stepP T s) b ≤ T.getD (s - p).toNat 0 + 1
  | q :: r, b, p, hp, hs => by
    rw [List.foldl_cons]
    rcases List.mem_cons.1 hp with rfl | hp
    · refine Int.le_trans (fold_le T s r _) ?_
      unfold stepP; rw [if_pos hs]; split <;> omega
    · exact fold_cand T s r _ p hp hs
theorem fold_is (T : List Int) (s : Int) : ∀ (ks : List Int) (b : Int), ks.foldl (stepP T s) b = b ∨ ∃ p ∈ ks, p ≤ s ∧ ks.foldl (stepP T s) b = T.getD (s - p).toNat 0 + 1
  | [], b => .inl rfl
  | q :: r, b => by
    rw [List.foldl_cons]
    rcases fold_is T s r (stepP T s b q) with h | ⟨p, hp, h1, h2⟩
    · rw [h]
      unfold stepP
      by_cases hq : q ≤ s
      · rw [if_pos hq]
        split
        · exact .inr ⟨q, List.mem_cons_self .., hq, rfl⟩
        · exact .inl rfl
      · rw [if_neg hq]; exact .inl rfl
    · exact .inr ⟨p, List.mem_cons_of_mem _ hp, h1, h2⟩

theorem fewP_succ (ks : List Int) (n : Nat) : fewP ks (n + 1) = ks.foldl (stepP (tabP ks n) ((n + 1 : Nat) : Int)) 1000 := by
  unfold fewP
  simp only [tabP, List.getD_eq_getElem?_getD]
  rw [List.getElem?_append_right (by rw [tabP_len]; omega), tabP_len]; simp [nextP]
theorem tab_few (ks : List Int) {j n : Nat} (h : j ≤ n) : (tabP ks n).getD j 0 = fewP ks j := tabP_get ks h

/-- One goal more. -/
theorem few_add {ks : List Int} (hk : ∀ x ∈ ks, 1 ≤ x) {p : Nat} (hp : (p : Int) ∈ ks) (s : Nat) : fewP ks (s + p) ≤ fewP ks s + 1 := by
  have h1 := hk _ hp
  obtain ⟨q, rfl⟩ : ∃ q, p = q + 1 := ⟨p - 1, by omega⟩
  rw [← Nat.add_assoc, fewP_succ]
  have h := fold_cand (tabP ks (s + q)) ((s + q + 1 : Nat) : Int) ks 1000 ((q + 1 : Nat) : Int) hp (by omega)
  rw [show (((s + q + 1 : Nat) : Int) - ((q + 1 : Nat) : Int)).toNat = s by omega, tab_few ks (by omega)] at h
  exact h
/-- The last goal. -/
theorem few_last {ks : List Int} (hk : ∀ x ∈ ks, 1 ≤ x) {s : Nat} (h : fewP ks s ≠ 1000) (h0 : s ≠ 0) : ∃ p : Nat, (p : Int) ∈ ks ∧ p ≤ s ∧ fewP ks s = fewP ks (s - p) + 1 := by
  obtain ⟨n, rfl⟩ : ∃ n, s = n + 1 := ⟨s - 1, by omega⟩
  rw [fewP_succ] at h ⊢
  rcases fold_is (tabP ks n) ((n + 1 : Nat) : Int) ks 1000 with e | ⟨p, hp, h1, h2⟩
  · exact absurd e h
  · have hp1 := hk p hp
    refine ⟨p.toNat, by rw [Int.toNat_of_nonneg (by omega)]; exact hp, by omega, ?_⟩
    rw [h2, tab_few ks (by omega)]
    congr 2
    omega

/-- Just so many goals of some kinds make a score. -/
def rep : List Nat → Nat → Nat → Prop
  | [], s, g => s = 0 ∧ g = 0
  | p :: r, s, g => ∃ n, n ≤ g ∧ n * p ≤ s ∧ rep r (s - n * p) (g - n)
theorem rep_zero : ∀ L : List Nat, rep L 0 0
  | [] => ⟨rfl, rfl⟩
  | p :: r => ⟨0, by omega, by omega, by simpa using rep_zero r⟩
theorem rep_add : ∀ (L : List Nat) (s g p : Nat), rep L s g → p ∈ L → rep L (s + p) (g + 1)
  | q :: r, s, g, p, ⟨n, h1, h2, h3⟩, hp => by
    by_cases e : p = q
    · subst e
      refine ⟨n + 1, by omega, by rw [Nat.succ_mul]; omega, ?_⟩
      rw [Nat.succ_mul, show s + p - (n * p + p) = s - n * p by omega, show g + 1 - (n + 1) = g - n by omega]
      exact h3
    · have hp2 : p ∈ r := by exact (List.mem_cons.1 hp).resolve_left e
      refine ⟨n, by omega, by omega, ?_⟩
      rw [show s + p - n * q = s - n * q + p by omega, show g + 1 - n = g - n + 1 by omega]
      exact rep_add r _ _ p h3 hp2

def natK (ks : List Int) : List Nat := ks.map Int.toNat
theorem natK_mem {ks : List Int} (hk : ∀ x ∈ ks, 1 ≤ x) {p : Nat} : p ∈ natK ks ↔ (p : Int) ∈ ks := by
  unfold natK
  rw [List.mem_map]
  constructor
  · rintro ⟨x, hx, rfl⟩; have := hk x hx; rwa [Int.toNat_of_nonneg (by omega)]
  · intro h; exact ⟨_, h, by simp⟩

theorem few_times {ks : List Int} (hk : ∀ x ∈ ks, 1 ≤ x) {p : Nat} (hp : (p : Int) ∈ ks) (s : Nat) : ∀ n : Nat, fewP ks (s + n * p) ≤ fewP ks s + n
  | 0 => by simp
  | n + 1 => by
    have := few_add hk hp (s + n * p)
    have := few_times hk hp s n
    rw [Nat.succ_mul, ← Nat.add_assoc]; push_cast; omega
theorem rep_few {ks : List Int} (hk : ∀ x ∈ ks, 1 ≤ x) : ∀ (L : List Nat) (s g : Nat), (∀ p ∈ L, (p : Int) ∈ ks) → rep L s g → fewP ks s ≤ g
  | [], s, g, _, ⟨h1, h2⟩ => by subst h1 h2; simp [fewP_zero]
  | p :: r, s, g, hL, ⟨n, h1, h2, h3⟩ => by
    have ih := rep_few hk r _ _ (fun q hq => hL q (List.mem_cons_of_mem _ hq)) h3
    have := few_times hk (hL p (List.mem_cons_self ..)) (s - n * p) n
    rw [Nat.sub_add_cancel h2] at this
    omega

/-- A kind that the program may take next. -/
def useP (ks : List Int) (p s : Nat) : Prop := p ≤ s ∧ fewP ks (s - p) = fewP ks s - 1
theorem rep_of {ks : List Int} (hk : ∀ x ∈ ks, 1 ≤ x) (L : List Nat) : ∀ (g s : Nat), (s : Int) < 999 → fewP ks s = g → fewP ks s ≠ 1000 → (∀ q : Nat, (q : Int) ∈ ks → q ∉ L → ¬ useP ks q s) → rep L s g := by
  intro g
  induction g with
  | zero =>
    intro s hs hg hne hn
    by_cases h0 : s = 0
    · subst h0; exact rep_zero L
    · obtain ⟨p, hp, h1, h2⟩ := few_last hk hne h0
      have := (fewP_bd hk (s := s - p) (by omega)).1
      omega
  | succ g ih =>
    intro s hs hg hne hn
    have h0 : s ≠ 0 := by rintro rfl; rw [fewP_zero] at hg; omega
    obtain ⟨p, hp, h1, h2⟩ := few_last hk hne h0
    have hp1 := hk _ hp
    have hu : useP ks p s := ⟨h1, by omega⟩
    have hpL : p ∈ L := by
      by_cases hm : p ∈ L
      · exact hm
      · exact absurd hu (hn p hp hm)
    have hbd := fewP_bd hk (s := s) hs
    have hr := ih (s - p) (by omega) (by omega) (by omega) (fun q hq hqL ⟨u1, u2⟩ => by
      refine hn q hq hqL ⟨by omega, ?_⟩
      have a1 := few_add hk hp (s - p - q)
      rw [show s - p - q + p = s - q by omega] at a1
      have a2 := few_add hk hq (s - q)
      rw [show s - q + q = s by omega] at a2
      omega)
    have := rep_add L _ _ p hr hpL
    rwa [Nat.sub_add_cancel h1] at this

/-- How often the program takes a kind. -/
def cntP (ks : List Int) (p : Nat) : Nat → Nat → Nat
  | 0, _ => 0
  | t + 1, s => if p ≤ s ∧ fewP ks (s - p) = fewP ks s - 1 then cntP ks p t (s - p) + 1 else 0
def greedP (ks : List Int) : List Nat → Nat → List Int
  | [], _ => []
  | p :: r, s => (cntP ks p s s : Int) :: greedP ks r (s - cntP ks p s s * p)
theorem cntP_spec {ks : List Int} {p : Nat} (hp : 1 ≤ p) : ∀ (t s : Nat), s ≤ t → cntP ks p t s * p ≤ s ∧ fewP ks (s - cntP ks p t s * p) = fewP ks s - (cntP ks p t s : Nat) ∧ ¬ useP ks p (s - cntP ks p t s * p)
  | 0, s, h => by
    obtain rfl : s = 0 := by omega
    simp [cntP, useP]; omega
  | t + 1, s, h => by
    unfold cntP
    by_cases hu : p ≤ s ∧ fewP ks (s - p) = fewP ks s - 1
    · rw [if_pos hu]
      obtain ⟨h1, h2, h3⟩ := cntP_spec hp t (s - p) (by omega)
      have e : s - (cntP ks p t (s - p) + 1) * p = s - p - cntP ks p t (s - p) * p := by rw [Nat.succ_mul]; omega
      rw [e]
      refine ⟨by rw [Nat.succ_mul]; omega, ?_, h3⟩
      rw [h2, hu.2]; push_cast; omega
    · rw [if_neg hu]
      refine ⟨by omega, by simp, ?_⟩
      simpa [useP] using hu
theorem cntP_most {ks : List Int} {p : Nat} (hp : 1 ≤ p) : ∀ (t s n : Nat), s ≤ t → n * p ≤ s → (∀ i, i ≤ n → fewP ks (s - i * p) = fewP ks s - (i : Nat)) → n ≤ cntP ks p t s
  | 0, s, n, h, h2, _ => by
    obtain rfl : s = 0 := by omega
    rcases Nat.eq_zero_or_pos n with h0 | h0
    · omega
    · have := Nat.mul_le_mul h0 hp; omega
  | t + 1, s, 0, h, h2, hi => Nat.zero_le _
  | t + 1, s, n + 1, h, h2, hi => by
    unfold cntP
    have h1 := hi 1 (by omega)
    rw [Nat.succ_mul] at h2
    rw [Nat.one_mul] at h1
    rw [if_pos ⟨by omega, h1⟩]
    have := cntP_most hp t (s - p) n (by omega) (by omega) (fun i hin => by
      have := hi (i + 1) (by omega)
      rw [Nat.succ_mul, show s - (i * p + p) = s - p - i * p by omega] at this
      rw [this]; rw [h1]; push_cast; omega)
    omega

/-- The model's search. -/
def downM (F : Nat → Nat → Option (List Int)) (p s g : Nat) : Nat → Option (List Int)
  | 0 => (F s g).map (· ++ [0])
  | n + 1 => match F (s - (n + 1) * p) (g - (n + 1)) with
    | some out => some (out ++ [((n + 1 : Nat) : Int)])
    | none => downM F p s g n
def firstM : List Nat → Nat → Nat → Option (List Int)
  | [], s, g => if s = 0 ∧ g = 0 then some [] else none
  | p :: r, s, g => downM (firstM r) p s g (min g (s / p))
theorem down_some {F : Nat → Nat → Option (List Int)} {p s g : Nat} : ∀ {M : Nat} {o : List Int}, downM F p s g M = some o → ∃ n, n ≤ M ∧ ∃ o', F (s - n * p) (g - n) = some o'
  | 0, o, h => by
    unfold downM at h
    cases hf : F s g with
    | none => rw [hf] at h; cases h
    | some o' => exact ⟨0, Nat.le_refl _, o', by simpa using hf⟩
  | M + 1, o, h => by
    unfold downM at h
    cases hf : F (s - (M + 1) * p) (g - (M + 1)) with
    | none => rw [hf] at h; obtain ⟨n, hn, o', h'⟩ := down_some h; exact ⟨n, by omega, o', h'⟩
    | some o' => exact ⟨M + 1, Nat.le_refl _, o', hf⟩
theorem down_at {F : Nat → Nat → Option (List Int)} {p s g n : Nat} {o : List Int} (hn : F (s - n * p) (g - n) = some o) : ∀ {M : Nat}, n ≤ M → (∀ i, n < i → i ≤ M → F (s - i * p) (g - i) = none) → downM F p s g M = some (o ++ [(n : Int)])
  | 0, hM, h => by
    obtain rfl : n = 0 := by omega
    have hn' : F s g = some o := by simpa using hn
    simp [downM, hn']
  | M + 1, hM, h => by
    unfold downM
    by_cases e : n = M + 1
    · subst e; rw [hn]
    · rw [h (M + 1) (by omega) (Nat.le_refl _)]
      exact down_at hn (by omega) (fun i h1 h2 => h i h1 (by omega))
theorem first_rep : ∀ (L : List Nat) (s g : Nat) (o : List Int), (∀ p ∈ L, 1 ≤ p) → firstM L s g = some o → rep L s g
  | [], s, g, o, _, h => by
    unfold firstM at h
    by_cases e : s = 0 ∧ g = 0
    · exact e
    · rw [if_neg e] at h; cases h
  | p :: r, s, g, o, hp, h => by
    unfold firstM at h
    obtain ⟨n, hn, o', h'⟩ := down_some h
    have h1 := hp p (List.mem_cons_self ..)
    have h2 : n * p ≤ s := by
      have : n ≤ s / p := by omega
      exact (Nat.le_div_iff_mul_le h1).1 this
    exact ⟨n, by omega, h2, first_rep r _ _ o' (fun q hq => hp q (List.mem_cons_of_mem _ hq)) h'⟩

theorem first_greed {ks : List Int} (hk : ∀ x ∈ ks, 1 ≤ x) : ∀ (L : List Nat) (s g : Nat), (∀ p ∈ L, (p : Int) ∈ ks) → (s : Int) < 999 → fewP ks s = g → fewP ks s ≠ 1000 → (∀ q : Nat, (q : Int) ∈ ks → q ∉ L → ¬ useP ks q s) →
    firstM L s g = some (greedP ks L s).reverse := by
  intro L
  induction L with
  | nil =>
    intro s g hL hs hg hne hn
    have hr : s = 0 ∧ g = 0 := rep_of hk [] g s hs hg hne hn
    unfold firstM
    rw [if_pos hr]; rfl
  | cons p r IH =>
    intro s g hL hs hg hne hn
    have hpk := hL p (List.mem_cons_self ..)
    have hp1 : 1 ≤ p := by have := hk _ hpk; omega
    obtain ⟨c1, c2, c3⟩ := cntP_spec (ks := ks) hp1 s s (Nat.le_refl _)
    have hmost := fun n h2 hi => cntP_most (ks := ks) hp1 s s n (Nat.le_refl _) h2 hi
    generalize hcn : cntP ks p s s = n at *
    have hbd := fewP_bd hk (s := s - n * p) (by omega)
    have hbd2 := fewP_bd hk (s := s) hs
    have hng : n ≤ g := by omega
    have hns : n ≤ s / p := (Nat.le_div_iff_mul_le hp1).2 c1
    have hlow : ∀ i, i * p ≤ s → (g : Int) ≤ fewP ks (s - i * p) + i := by
      intro i hi
      have := few_times hk hpk (s - i * p) i
      rw [Nat.sub_add_cancel hi] at this
      omega
    have hmono : ∀ q : Nat, (q : Int) ∈ ks → ¬ useP ks q s → ¬ useP ks q (s - n * p) := by
      rintro q hq hnu ⟨u1, u2⟩
      refine hnu ⟨by omega, ?_⟩
      have a1 := few_times hk hpk (s - n * p - q) n
      rw [show s - n * p - q + n * p = s - q by omega] at a1
      have a2 := few_add hk hq (s - q)
      rw [show s - q + q = s by omega] at a2
      omega
    have ih := IH (s - n * p) (g - n) (fun q hq => hL q (List.mem_cons_of_mem _ hq)) (by omega) (by omega) (by omega) (fun q hq hqr => by
      by_cases e : q = p
      · subst e; exact c3
      · exact hmono q hq (hn q hq (by simp [e, hqr])))
    have hgr : greedP ks (p :: r) s = (n : Int) :: greedP ks r (s - n * p) := by rw [greedP, hcn]
    rw [hgr, List.reverse_cons]
    unfold firstM
    refine down_at ih (by omega) (fun i h1 h2 => ?_)
    cases hf : firstM r (s - i * p) (g - i) with
    | none => rfl
    | some o =>
      exfalso
      have hip : i * p ≤ s := (Nat.le_div_iff_mul_le hp1).1 (by omega)
      have hrep := first_rep r _ _ o (fun q hq => by have := hk _ (hL q (List.mem_cons_of_mem _ hq)); omega) hf
      have hfe := rep_few hk r _ _ (fun q hq => hL q (List.mem_cons_of_mem _ hq)) hrep
      have : i ≤ n := hmost i hip (fun j hj => by
        have hjp : j * p ≤ i * p := Nat.mul_le_mul_right p hj
        have a1 := hlow j (by omega)
        have a2 := few_times hk hpk (s - i * p) (i - j)
        rw [Nat.sub_mul, show s - i * p + (i * p - j * p) = s - j * p by omega] at a2
        omega)
      omega

theorem natK_rev_mem {ks : List Int} (hk : ∀ x ∈ ks, 1 ≤ x) {p : Nat} : p ∈ (natK ks).reverse ↔ (p : Int) ∈ ks := by rw [List.mem_reverse]; exact natK_mem hk
theorem first_agree {ks : List Int} (hk : ∀ x ∈ ks, 1 ≤ x) (s : Nat) (hs : (s : Int) < 999) (hne : fewP ks s ≠ 1000) : firstM (natK ks).reverse s (fewP ks s).toNat = some (greedP ks (natK ks).reverse s).reverse := by
  have hbd := fewP_bd hk hs
  exact first_greed hk _ s _ (fun p hp => (natK_rev_mem hk).1 hp) hs (by omega) hne (fun q hq hqL => absurd ((natK_rev_mem hk).2 hq) hqL)
end Go.Proofs.Ythlkndloggmehaa
