/-
  Leagues out of texts: both ways of reading come to the same: plain facts.
-/
import Derived.Test.YtgkkjlpfkoplhaaDoorLqMath
namespace Go.Proofs.YtgkkjlpfkoplhaaDoor
open Go.RowKit
set_option linter.unusedVariables false
set_option linter.unusedSimpArgs false

/-- The four numbers of a result that can be told. -/
def Rok (r : Rs) : Prop := (0 ≤ r.1 ∧ r.1 ≤ 20) ∧ (0 ≤ r.2.1 ∧ r.2.1 ≤ 20) ∧ (0 ≤ r.2.2.1 ∧ r.2.2.1 ≤ 20) ∧ (0 ≤ r.2.2.2 ∧ r.2.2.2 ≤ 20)
theorem txN_eq (a b c d : Nat) : txN a b c d = (numF 1 a ++ 45 :: numF 1 b) ++ 61 :: (numF 1 c ++ 58 :: numF 1 d) := by simp [txN]
theorem pair_not {m x : UInt8} {a b : Nat} (ha : a ≤ 20) (hb : b ≤ 20) (hx : x.toNat < 48 ∨ 57 < x.toNat) (hne : x ≠ m) : x ∉ numF 1 a ++ m :: numF 1 b := by
  simp only [List.mem_append, List.mem_cons, not_or]
  exact ⟨num_not ha hx, hne, num_not hb hx⟩
def resP (l : List UInt8) : Rs := ((pairP 45 (Lib.cut l [61]).1).1, (pairP 45 (Lib.cut l [61]).1).2, (pairP 58 (Lib.cut l [61]).2.1).1, (pairP 58 (Lib.cut l [61]).2.1).2)
def resM (l : List UInt8) : Option Rs := match cutL 61 l with
  | [p, q] => some ((twoM 45 p).1, (twoM 45 p).2, (twoM 58 q).1, (twoM 58 q).2)
  | _ => none
theorem res_nat {a b c d : Nat} (ha : a ≤ 20) (hb : b ≤ 20) (hc : c ≤ 20) (hd : d ≤ 20) :
    resP (txN a b c d) = ((a : Int), (b : Int), (c : Int), (d : Int)) ∧ resM (txN a b c d) = some ((a : Int), (b : Int), (c : Int), (d : Int)) ∧ (44 : UInt8) ∉ txN a b c d ∧ (124 : UInt8) ∉ txN a b c d ∧ txN a b c d ≠ [] := by
  have n1 : (61 : UInt8) ∉ numF 1 a ++ 45 :: numF 1 b := pair_not ha hb (by decide) (by decide)
  have n2 : (61 : UInt8) ∉ numF 1 c ++ 58 :: numF 1 d := pair_not hc hd (by decide) (by decide)
  have p1 := pair_of (m := 45) (by decide) ha hb
  have p2 := pair_of (m := 58) (by decide) hc hd
  rw [txN_eq]
  refine ⟨?_, ?_, ?_, ?_, by simp⟩
  · unfold resP; rw [cut_app _ n1, p1.1, p2.1]
  · unfold resM; rw [cutL_pair n1 n2]; simp only; rw [p1.2, p2.2]
  · intro e
    rcases List.mem_append.1 e with e | e
    · exact pair_not ha hb (by decide) (by decide) e
    · rcases List.mem_cons.1 e with e | e
      · exact absurd e (by decide)
      · exact pair_not hc hd (by decide) (by decide) e
  · intro e
    rcases List.mem_append.1 e with e | e
    · exact pair_not ha hb (by decide) (by decide) e
    · rcases List.mem_cons.1 e with e | e
      · exact absurd e (by decide)
      · exact pair_not hc hd (by decide) (by decide) e
theorem res_of {r : Rs} (h : Rok r) : resP (txR r) = r ∧ resM (txR r) = some r ∧ (44 : UInt8) ∉ txR r ∧ (124 : UInt8) ∉ txR r ∧ txR r ≠ [] := by
  obtain ⟨r0, r1, r2, r3⟩ := r
  obtain ⟨⟨a1, a2⟩, ⟨b1, b2⟩, ⟨c1, c2⟩, ⟨d1, d2⟩⟩ := h
  simp only at a1 a2 b1 b2 c1 c2 d1 d2
  obtain ⟨n0, rfl⟩ : ∃ n : Nat, r0 = n := ⟨r0.toNat, by omega⟩
  obtain ⟨n1, rfl⟩ : ∃ n : Nat, r1 = n := ⟨r1.toNat, by omega⟩
  obtain ⟨n2, rfl⟩ : ∃ n : Nat, r2 = n := ⟨r2.toNat, by omega⟩
  obtain ⟨n3, rfl⟩ : ∃ n : Nat, r3 = n := ⟨r3.toNat, by omega⟩
  exact res_nat (a := n0) (b := n1) (c := n2) (d := n3) (by omega) (by omega) (by omega) (by omega)
theorem resM_tx {l : List UInt8} {r : Rs} (h : resM l = some r) (hr : Rok r) : l = txR r := by
  unfold resM at h
  split at h
  · rename_i p q e
    injection h with h
    obtain ⟨⟨a1, a2⟩, ⟨b1, b2⟩, ⟨c1, c2⟩, ⟨d1, d2⟩⟩ := hr
    rw [← h] at a1 a2 b1 b2 c1 c2 d1 d2
    simp only at a1 a2 b1 b2 c1 c2 d1 d2
    have e1 := two_of a1 a2 b1 b2
    have e2 := two_of c1 c2 d1 d2
    rw [(cutL_two e).1]
    unfold txR
    rw [txN_eq, ← h]
    simp only
    rw [← e1, ← e2]
  · cases h

def allO : List (List UInt8) → Option (List Rs)
  | [] => some []
  | p :: ps => match resM p with
    | none => none
    | some r => match allO ps with
      | none => none
      | some rs => some (r :: rs)
theorem allO_tx : ∀ {ps : List (List UInt8)} {rs : List Rs}, allO ps = some rs → (∀ r ∈ rs, Rok r) → ps = rs.map txR
  | [], rs, h, _ => by simp [allO] at h; subst h; rfl
  | p :: ps, rs, h, hr => by
    rw [allO] at h
    cases h1 : resM p with
    | none => rw [h1] at h; cases h
    | some r =>
      rw [h1] at h
      cases h2 : allO ps with
      | none => rw [h2] at h; cases h
      | some qs =>
        rw [h2] at h
        injection h with h
        subst h
        rw [List.map_cons, ← allO_tx h2 (fun x hx => hr x (List.mem_cons_of_mem _ hx)), ← resM_tx h1 (hr r (List.mem_cons_self ..))]
theorem allO_of : ∀ {rs : List Rs}, (∀ r ∈ rs, Rok r) → allO (rs.map txR) = some rs
  | [], _ => rfl
  | r :: rs, hr => by
    rw [List.map_cons, allO, (res_of (hr r (List.mem_cons_self ..))).2.1]
    simp only
    rw [allO_of (fun x hx => hr x (List.mem_cons_of_mem _ hx))]
def rowsP (l : List UInt8) : List Rs := if l = [] then [] else (cutL 44 l).map resP
def rowsM (l : List UInt8) : Option (List Rs) := if l = [] then some [] else allO (cutL 44 l)
theorem join_ne {b : UInt8} {p : List UInt8} {ps : List (List UInt8)} (h : p ≠ []) : Lib.join (p :: ps) [b] ≠ [] := by
  rw [Lib.join_cons]; simp [h]
theorem rows_of {rs : List Rs} (hr : ∀ r ∈ rs, Rok r) : rowsP (rowsT rs) = rs ∧ rowsM (rowsT rs) = some rs := by
  cases rs with
  | nil => exact ⟨rfl, rfl⟩
  | cons r rs =>
    have hne : rowsT (r :: rs) ≠ [] := by
      unfold rowsT; rw [List.map_cons]; exact join_ne (res_of (hr r (List.mem_cons_self ..))).2.2.2.2
    have hc : cutL 44 (rowsT (r :: rs)) = (r :: rs).map txR := cutL_joinB 44 _ (by simp) (fun p hp => by
      obtain ⟨x, hx, rfl⟩ := List.mem_map.1 hp
      exact (res_of (hr x hx)).2.2.1)
    constructor
    · unfold rowsP
      rw [if_neg hne, hc, List.map_map]
      conv => rhs; rw [← List.map_id (r :: rs)]
      exact List.map_congr_left fun x hx => (res_of (hr x hx)).1
    · unfold rowsM
      rw [if_neg hne, hc, allO_of hr]
theorem rowsM_tx {l : List UInt8} {rs : List Rs} (h : rowsM l = some rs) (hr : ∀ r ∈ rs, Rok r) : l = rowsT rs := by
  unfold rowsM at h
  split at h
  · rename_i e
    injection h with h
    subst h
    rw [e]; rfl
  · have := allO_tx h hr
    unfold rowsT
    rw [← this, (cutL_facts 44 l).1]
theorem rows_not : ∀ {rs : List Rs}, (∀ r ∈ rs, Rok r) → (124 : UInt8) ∉ rowsT rs
  | [], _ => by simp [rowsT, Lib.join_nil]
  | [r], h => by unfold rowsT; rw [List.map_cons, List.map_nil, Lib.join_one]; exact (res_of (h r (List.mem_cons_self ..))).2.2.2.1
  | r :: q :: rs, h => by
    have ih := rows_not (rs := q :: rs) (fun x hx => h x (List.mem_cons_of_mem _ hx))
    unfold rowsT at ih ⊢
    rw [List.map_cons, join_cons2 _ _ (by simp)]
    intro e
    rcases List.mem_append.1 e with e | e
    · exact (res_of (h r (List.mem_cons_self ..))).2.2.2.1 e
    · rcases List.mem_cons.1 e with e | e
      · exact absurd e (by decide)
      · exact ih e

/-! The league. -/
def textL (t wn : Int) (rs : List Rs) : List UInt8 := headT t wn ++ rowsT rs
theorem textL_eq (t wn : Int) (rs : List Rs) : textL t wn rs = (numF 1 t.toNat ++ 119 :: numF 1 wn.toNat) ++ 124 :: rowsT rs := by simp [textL, headT]
def lgP (l : List UInt8) : Int × Int × List Rs := ((pairP 119 (Lib.cut l [124]).1).1, (pairP 119 (Lib.cut l [124]).1).2, rowsP (Lib.cut l [124]).2.1)
def lgM (l : List UInt8) : Option (Int × Int × List Rs) := match cutL 124 l with
  | [p, q] => match rowsM q with
    | some rs => some ((twoM 119 p).1, (twoM 119 p).2, rs)
    | none => none
  | _ => none
theorem good_rok {t wn : Int} {rs : List Rs} (h : goodL t wn rs = true) : ∀ r ∈ rs, Rok r ∧ r.1 < 10 ∧ r.2.1 < 10 := by
  intro r hr
  obtain ⟨k, hk, rfl⟩ := List.getElem_of_mem hr
  have h1 := goodL_get h k hk
  rw [show rs.getD k zR = rs[k] by simp [hk]] at h1
  obtain ⟨⟨a1, a2⟩, ⟨b1, b2⟩, -, ⟨c1, c2⟩, ⟨d1, d2⟩⟩ := goodR_bd h1
  have := goodL_bd h
  exact ⟨⟨⟨a1, by omega⟩, ⟨b1, by omega⟩, ⟨c1, c2⟩, ⟨d1, d2⟩⟩, by omega, by omega⟩
theorem num_one {n : Nat} (h : n < 10) : (numF 1 n).length = 1 := by unfold numF; rw [if_pos h]; rfl
theorem rows_len9 : ∀ {rs : List Rs}, (∀ r ∈ rs, Rok r ∧ r.1 < 10 ∧ r.2.1 < 10) → (rowsT rs).length ≤ 10 * rs.length
  | [], _ => by simp [rowsT, Lib.join_nil]
  | r :: rs, h => by
    have ih := rows_len9 (rs := rs) (fun x hx => h x (List.mem_cons_of_mem _ hx))
    obtain ⟨hk, h1, h2⟩ := h r (List.mem_cons_self ..)
    obtain ⟨⟨a1, a2⟩, ⟨b1, b2⟩, -, -⟩ := hk
    have l0 := num_one (n := r.1.toNat) (by omega)
    have l1 := num_one (n := r.2.1.toNat) (by omega)
    have l2 := (numF_len 1 r.2.2.1.toNat).2
    have l3 := (numF_len 1 r.2.2.2.toNat).2
    have lt : (txR r).length ≤ 9 := by
      simp only [txR, txN, List.length_append, List.length_cons, List.length_nil]; omega
    unfold rowsT at ih ⊢
    rw [List.map_cons]
    cases rs with
    | nil => rw [List.map_nil, Lib.join_one]; simp; omega
    | cons q rs => rw [join_cons2 _ _ (by simp)]; simp only [List.length_append, List.length_cons] at ih ⊢; omega
theorem both_lg {t wn : Int} {rs : List Rs} (h : goodL t wn rs = true) : lgP (textL t wn rs) = (t, wn, rs) ∧ lgM (textL t wn rs) = some (t, wn, rs) ∧ (textL t wn rs).length ≤ 600 := by
  obtain ⟨t1, t2, w1, w2, h56⟩ := goodL_bd h
  have hr := good_rok h
  have hr' := fun r hx => (hr r hx).1
  have hrl := rows_len9 hr
  have hx := rows_of hr'
  have hn := rows_not hr'
  rw [textL_eq]
  obtain ⟨a, rfl⟩ : ∃ n : Nat, t = n := ⟨t.toNat, by omega⟩
  obtain ⟨b, rfl⟩ : ∃ n : Nat, wn = n := ⟨wn.toNat, by omega⟩
  simp only [Int.toNat_natCast]
  have hp := pair_of (m := 119) (by decide) (a := a) (b := b) (by omega) (by omega)
  have hq : (124 : UInt8) ∉ numF 1 a ++ 119 :: numF 1 b := pair_not (by omega) (by omega) (by decide) (by decide)
  refine ⟨?_, ?_, ?_⟩
  · unfold lgP; rw [cut_app _ hq, hp.1]; simp only; rw [hx.1]
  · unfold lgM; rw [cutL_pair hq hn]; simp only; rw [hx.2, hp.2]
  · have l0 := num_one (n := a) (by omega)
    have l1 := num_one (n := b) (by omega)
    simp only [List.length_append, List.length_cons]; omega
theorem lgM_tx {l : List UInt8} {t wn : Int} {rs : List Rs} (h : lgM l = some (t, wn, rs)) (hg : goodL t wn rs = true) : l = textL t wn rs := by
  obtain ⟨t1, t2, w1, w2, h56⟩ := goodL_bd hg
  have hr' := fun r hx => (good_rok hg r hx).1
  unfold lgM at h
  split at h
  · rename_i p q e
    cases h2 : rowsM q with
    | none => rw [h2] at h; cases h
    | some qs =>
      rw [h2] at h
      injection h with h
      injection h with e1 h
      injection h with e2 e3
      subst e3
      have e4 := rowsM_tx h2 hr'
      have e5 := two_of (m := 119) (l := p) (by omega) (by omega) (by omega) (by omega)
      rw [(cutL_two e).1, textL_eq, ← e4, ← e1, ← e2, ← e5]
  · cases h

def okP (l : List UInt8) : Bool := goodL (lgP l).1 (lgP l).2.1 (lgP l).2.2 && decide (textL (lgP l).1 (lgP l).2.1 (lgP l).2.2 = l)
def okM (l : List UInt8) : Bool := decide (l.length ≤ 600) && match lgM l with
  | some p => goodL p.1 p.2.1 p.2.2
  | none => false
def valP (l : List UInt8) : Int × Int × List Rs := if okP l then lgP l else (0, 0, [])
def valM (l : List UInt8) : Int × Int × List Rs := if okM l then (lgM l).getD (0, 0, []) else (0, 0, [])
theorem ways_lg (l : List UInt8) : okM l = okP l ∧ valM l = valP l := by
  have key : (okM l = true ∨ okP l = true) → okM l = true ∧ okP l = true ∧ lgM l = some (lgP l) := by
    intro h
    obtain ⟨t, wn, rs, hg, ht⟩ : ∃ t wn rs, goodL t wn rs = true ∧ l = textL t wn rs := by
      rcases h with h | h
      · simp only [okM, Bool.and_eq_true] at h
        cases hm : lgM l with
        | none => rw [hm] at h; exact absurd h.2 (by simp)
        | some p => rw [hm] at h; exact ⟨p.1, p.2.1, p.2.2, h.2, lgM_tx hm h.2⟩
      · simp only [okP, Bool.and_eq_true, decide_eq_true_eq] at h
        exact ⟨_, _, _, h.1, h.2.symm⟩
    obtain ⟨e1, e2, e3⟩ := both_lg hg
    rw [← ht] at e1 e2 e3
    refine ⟨?_, ?_, by rw [e1, e2]⟩
    · simp [okM, e2, e3, hg]
    · simp [okP, e1, hg, ht.symm]
  by_cases h : okM l = true ∨ okP l = true
  · obtain ⟨h1, h2, h3⟩ := key h
    exact ⟨by rw [h1, h2], by unfold valM valP; rw [h1, h2, h3]; rfl⟩
  · have h1 : okM l = false := by cases e : okM l <;> simp_all
    have h2 : okP l = false := by cases e : okP l <;> simp_all
    exact ⟨by rw [h1, h2], by unfold valM valP; rw [h1, h2]; rfl⟩
end Go.Proofs.YtgkkjlpfkoplhaaDoor
