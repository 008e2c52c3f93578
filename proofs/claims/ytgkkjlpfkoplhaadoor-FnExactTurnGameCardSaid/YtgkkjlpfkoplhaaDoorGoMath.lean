/-
  Goals, plain facts: kinds, the tables of the fewest goals (the program's and the model's), counts.
-/
namespace Go.Proofs.YtgkkjlpfkoplhaaDoor
set_option linter.unusedVariables false

/-- Strictly increasing numbers from lo to hi. -/
def risesB (hi : Int) : Int → List Int → Bool
  | _, [] => true
  | lo, x :: r => decide (lo ≤ x) && decide (x ≤ hi) && risesB hi (x + 1) r
def goodK (ks : List Int) : Bool := decide (1 ≤ ks.length) && decide (ks.length ≤ 5) && risesB 20 1 ks
def goodS (s : Int) : Bool := decide (0 ≤ s) && decide (s ≤ 200)
def askedG (ks : List Int) (s : Int) : Bool := goodK ks && goodS s

theorem rises_mem {hi lo : Int} {ks : List Int} (h : risesB hi lo ks = true) : ∀ x ∈ ks, lo ≤ x ∧ x ≤ hi := by
  induction ks generalizing lo with
  | nil => intro x hx; cases hx
  | cons y r ih =>
    simp only [risesB, Bool.and_eq_true, decide_eq_true_eq] at h
    intro x hx
    rcases List.mem_cons.1 hx with rfl | hx
    · exact h.1
    · have := ih h.2 x hx; omega
theorem good_mem {ks : List Int} (h : goodK ks = true) : ∀ x ∈ ks, 1 ≤ x ∧ x ≤ 20 := by
  simp only [goodK, Bool.and_eq_true, decide_eq_true_eq] at h
  exact rises_mem h.2
theorem good_len {ks : List Int} (h : goodK ks = true) : 1 ≤ ks.length ∧ ks.length ≤ 5 := by
  simp only [goodK, Bool.and_eq_true, decide_eq_true_eq] at h
  exact h.1
theorem good_get {ks : List Int} (h : goodK ks = true) (k : Nat) (hk : k < ks.length) : 1 ≤ ks.getD k 0 ∧ ks.getD k 0 ≤ 20 := by
  have := good_mem h ks[k] (List.getElem_mem hk)
  simpa [hk] using this
theorem goodS_bd {s : Int} (h : goodS s = true) : 0 ≤ s ∧ s ≤ 200 := by
  simp only [goodS, Bool.and_eq_true, decide_eq_true_eq] at h; exact h
theorem asked_split {ks : List Int} {s : Int} (h : askedG ks s = true) : goodK ks = true ∧ goodS s = true := by
  simp only [askedG, Bool.and_eq_true] at h; exact h

/-- The program's table of the fewest goals: 1000 where none do. -/
def stepP (T : List Int) (s : Int) (least p : Int) : Int := if p ≤ s then (if T.getD (s - p).toNat 0 + 1 ≤ least then T.getD (s - p).toNat 0 + 1 else least) else least
def nextP (ks : List Int) (T : List Int) (s : Int) : Int := ks.foldl (stepP T s) 1000
def tabP (ks : List Int) : Nat → List Int
  | 0 => [0]
  | n + 1 => tabP ks n ++ [nextP ks (tabP ks n) ((n + 1 : Nat) : Int)]
/-- The model's: -1 where none do. -/
def stepM (T : List Int) (s : Int) (o p : Int) : Int := if p ≤ s ∧ 0 ≤ T.getD (s - p).toNat 0 ∧ (o < 0 ∨ T.getD (s - p).toNat 0 + 1 < o) then T.getD (s - p).toNat 0 + 1 else o
def nextM (ks : List Int) (T : List Int) (s : Int) : Int := ks.foldl (stepM T s) (-1)
def tabM (ks : List Int) : Nat → List Int
  | 0 => [0]
  | n + 1 => tabM ks n ++ [nextM ks (tabM ks n) ((n + 1 : Nat) : Int)]

theorem tabP_len (ks : List Int) : ∀ n, (tabP ks n).length = n + 1
  | 0 => rfl
  | n + 1 => by simp [tabP, tabP_len ks n]
theorem tabM_len (ks : List Int) : ∀ n, (tabM ks n).length = n + 1
  | 0 => rfl
  | n + 1 => by simp [tabM, tabM_len ks n]
theorem tabP_get (ks : List Int) {j n : Nat} (h : j ≤ n) : (tabP ks n).getD j 0 = (tabP ks j).getD j 0 := by
  induction n with
  | zero => obtain rfl : j = 0 := by omega
            rfl
  | succ n ih =>
    by_cases e : j = n + 1
    · subst e; rfl
    · rw [← ih (by omega)]
      simp only [tabP, List.getD_eq_getElem?_getD]
      rw [List.getElem?_append_left (by rw [tabP_len]; omega)]
theorem tabM_get (ks : List Int) {j n : Nat} (h : j ≤ n) : (tabM ks n).getD j 0 = (tabM ks j).getD j 0 := by
  induction n with
  | zero => obtain rfl : j = 0 := by omega
            rfl
  | succ n ih =>
    by_cases e : j = n + 1
    · subst e; rfl
    · rw [← ih (by omega)]
      simp only [tabM, List.getD_eq_getElem?_getD]
      rw [List.getElem?_append_left (by rw [tabM_len]; omega)]
theorem tabP_take (ks : List Int) {j n : Nat} (h : j ≤ n) : (tabP ks n).take (j + 1) = tabP ks j := by
  induction n with
  | zero => obtain rfl : j = 0 := by omega
            rfl
  | succ n ih =>
    by_cases e : j = n + 1
    · subst e; rw [List.take_of_length_le (by rw [tabP_len]; omega)]
    · rw [← ih (by omega), tabP, List.take_append_of_le_length (by rw [tabP_len]; omega)]

/-- What a cell of the one says in the words of the other. -/
def asM (x : Int) : Int := if x = 1000 then -1 else x
theorem step_pm (T : List Int) (s least p : Int) (hp : 1 ≤ p) (hT : ∀ j : Nat, (j : Int) < s → 0 ≤ T.getD j 0 ∧ (T.getD j 0 = 1000 ∨ T.getD j 0 ≤ j)) (hs : s < 999) (hl : 0 ≤ least ∧ (least = 1000 ∨ least ≤ s)) (h0 : 0 < s) :
    (0 ≤ stepP T s least p ∧ (stepP T s least p = 1000 ∨ stepP T s least p ≤ s)) ∧ asM (stepP T s least p) = (if p ≤ s ∧ 0 ≤ asM (T.getD (s - p).toNat 0) ∧ (asM least < 0 ∨ asM (T.getD (s - p).toNat 0) + 1 < asM least) then asM (T.getD (s - p).toNat 0) + 1 else asM least) := by
  unfold stepP asM
  by_cases h : p ≤ s
  · obtain ⟨t0, t1⟩ := hT (s - p).toNat (by omega)
    have e : (((s - p).toNat : Nat) : Int) = s - p := by omega
    rw [e] at t1
    generalize T.getD (s - p).toNat 0 = t at *
    simp only [h, if_true, true_and]
    constructor
    · split <;> omega
    · repeat' split
      all_goals omega
  · simp only [h, if_false, false_and]
    exact ⟨hl, trivial⟩

theorem next_pm (T T' : List Int) (s : Int) (hT : ∀ j : Nat, (j : Int) < s → 0 ≤ T.getD j 0 ∧ (T.getD j 0 = 1000 ∨ T.getD j 0 ≤ j)) (hT' : ∀ j : Nat, (j : Int) < s → T'.getD j 0 = asM (T.getD j 0)) (hs : s < 999) (h0 : 0 < s) :
    ∀ (ks : List Int) (hk : ∀ x ∈ ks, 1 ≤ x) (least : Int) (hl : 0 ≤ least ∧ (least = 1000 ∨ least ≤ s)),
      (0 ≤ ks.foldl (stepP T s) least ∧ (ks.foldl (stepP T s) least = 1000 ∨ ks.foldl (stepP T s) least ≤ s)) ∧ asM (ks.foldl (stepP T s) least) = ks.foldl (stepM T' s) (asM least)
  | [], _, least, hl => ⟨hl, rfl⟩
  | p :: r, hk, least, hl => by
    have hp := hk p (List.mem_cons_self ..)
    obtain ⟨h1, h2⟩ := step_pm T s least p hp hT hs hl h0
    have ih := next_pm T T' s hT hT' hs h0 r (fun x hx => hk x (List.mem_cons_of_mem _ hx)) (stepP T s least p) h1
    rw [List.foldl_cons, List.foldl_cons]
    refine ⟨ih.1, ?_⟩
    rw [ih.2, h2]
    congr 1
    unfold stepM
    by_cases h : p ≤ s
    · rw [hT' (s - p).toNat (by omega)]
    · simp only [h, false_and, if_false]

theorem tab_pm (ks : List Int) (hk : ∀ x ∈ ks, 1 ≤ x) (n : Nat) (hn : (n : Int) < 999) : ∀ j : Nat, j ≤ n → (0 ≤ (tabP ks n).getD j 0 ∧ ((tabP ks n).getD j 0 = 1000 ∨ (tabP ks n).getD j 0 ≤ j)) ∧ (tabM ks n).getD j 0 = asM ((tabP ks n).getD j 0) := by
  induction n with
  | zero =>
    intro j hj
    obtain rfl : j = 0 := by omega
    refine ⟨⟨?_, .inr ?_⟩, ?_⟩ <;> simp [tabP, tabM, asM]
  | succ n ih =>
    have ih := ih (by omega)
    intro j hj
    by_cases e : j = n + 1
    · subst e
      have hx := next_pm (tabP ks n) (tabM ks n) ((n + 1 : Nat) : Int) (fun i hi => (ih i (by omega)).1) (fun i hi => (ih i (by omega)).2) (by omega) (by omega) ks hk 1000 ⟨by omega, .inl rfl⟩
      have e1 : (tabP ks (n + 1)).getD (n + 1) 0 = nextP ks (tabP ks n) ((n + 1 : Nat) : Int) := by
        simp only [tabP, List.getD_eq_getElem?_getD]
        rw [List.getElem?_append_right (by rw [tabP_len]; omega), tabP_len]; simp
      have e2 : (tabM ks (n + 1)).getD (n + 1) 0 = nextM ks (tabM ks n) ((n + 1 : Nat) : Int) := by
        simp only [tabM, List.getD_eq_getElem?_getD]
        rw [List.getElem?_append_right (by rw [tabM_len]; omega), tabM_len]; simp
      rw [e1, e2]
      refine ⟨hx.1, ?_⟩
      have h3 := hx.2
      rw [show asM 1000 = -1 by simp [asM]] at h3
      exact h3.symm
    · rw [tabP_get ks (show j ≤ n + 1 from hj), tabM_get ks (show j ≤ n + 1 from hj), ← tabP_get ks (show j ≤ n by omega), ← tabM_get ks (show j ≤ n by omega)]
      exact ih j (by omega)

theorem tabP_bd {ks : List Int} (hk : ∀ x ∈ ks, 1 ≤ x) {n : Nat} (hn : (n : Int) < 999) (j : Nat) (hj : j ≤ n) : 0 ≤ (tabP ks n).getD j 0 ∧ (tabP ks n).getD j 0 ≤ 1000 := by
  have := (tab_pm ks hk n hn j hj).1
  omega
/-- The fewest goals of a score, as the program has them. -/
def fewP (ks : List Int) (s : Nat) : Int := (tabP ks s).getD s 0
theorem fewP_zero (ks : List Int) : fewP ks 0 = 0 := rfl
theorem fewP_bd {ks : List Int} (hk : ∀ x ∈ ks, 1 ≤ x) {s : Nat} (hs : (s : Int) < 999) : 0 ≤ fewP ks s ∧ (fewP ks s = 1000 ∨ fewP ks s ≤ s) := (tab_pm ks hk s hs s (Nat.le_refl _)).1
theorem fewM_eq {ks : List Int} (hk : ∀ x ∈ ks, 1 ≤ x) {s : Nat} (hs : (s : Int) < 999) : (tabM ks s).getD s 0 = asM (fewP ks s) := (tab_pm ks hk s hs s (Nat.le_refl _)).2

/-- All scores up to some that are not reached, increasing. -/
def outG (ks : List Int) (n : Nat) : List Int := ((List.range n).filter fun j => fewP ks j == 1000).map fun j => ((j : Nat) : Int)
theorem outG_succ (ks : List Int) (n : Nat) : outG ks (n + 1) = if fewP ks n = 1000 then outG ks n ++ [(n : Int)] else outG ks n := by
  unfold outG
  rw [List.range_succ, List.filter_append, List.map_append]
  by_cases h : fewP ks n = 1000
  · simp [h]
  · simp [h]
theorem outG_len (ks : List Int) (n : Nat) : (outG ks n).length ≤ n := by
  unfold outG
  rw [List.length_map]
  exact Nat.le_trans (List.length_filter_le _ _) (by simp)

theorem drop_getD {l : List Int} {k : Nat} (hk : k < l.length) : l.drop k = l.getD k 0 :: l.drop (k + 1) := by
  rw [List.drop_eq_getElem_cons hk]; simp [hk]
theorem foldl_drop {β : Type} (f : β → Int → β) {l : List Int} {k : Nat} (hk : k < l.length) (b : β) : (l.drop k).foldl f b = (l.drop (k + 1)).foldl f (f b (l.getD k 0)) := by
  rw [drop_getD hk, List.foldl_cons]
end Go.Proofs.YtgkkjlpfkoplhaaDoor
