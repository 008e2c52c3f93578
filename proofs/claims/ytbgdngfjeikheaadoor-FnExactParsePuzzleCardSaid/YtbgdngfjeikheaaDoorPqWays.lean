/-
  Puzzles out of texts: both ways of reading come to the same: plain facts.
-/
import Derived.Test.YtbgdngfjeikheaaDoorPqMath
namespace Go.Proofs.YtbgdngfjeikheaaDoor
open Go.RowKit
set_option linter.unusedVariables false
set_option linter.unusedSimpArgs false

theorem ofL_size {l : List UInt8} {n : Nat} (h : l.length ≤ n) : (⟨l.toArray⟩ : ByteArray).size ≤ n := by show l.toArray.size ≤ n; simpa using h
theorem cutS_size (s : ByteArray) (b : UInt8) : ∀ n f, ∀ p ∈ cutS s b n f, p.size ≤ s.size
  | 0, f, p, hp => by
    simp only [cutS, List.mem_singleton] at hp; subst hp; rw [ByteArray.size_extract]; omega
  | n + 1, f, p, hp => by
    unfold cutS at hp
    split at hp
    · rcases List.mem_cons.1 hp with rfl | h
      · rw [ByteArray.size_extract]; omega
      · exact cutS_size s b n _ p h
    · exact cutS_size s b n _ p hp
theorem cutS_len (s : ByteArray) (b : UInt8) : ∀ n f, (cutS s b n f).length ≤ n + 1
  | 0, f => by simp [cutS]
  | n + 1, f => by
    unfold cutS
    split
    · have := cutS_len s b n (s.size - (n + 1) + 1); simp; omega
    · have := cutS_len s b n f; omega
theorem pcsL (s : ByteArray) (b : UInt8) : (cutS s b s.size 0).map (fun p => p.data.toList) = cutL b s.data.toList := by
  have h := cutS_cutL s b s.size 0 (Nat.le_refl _) (by omega) (by simp)
  rw [List.drop_zero] at h; exact h
/-- The three numbers of a clue that can be told. -/
def Cok (r : Cl) : Prop := (0 ≤ r.1 ∧ r.1 ≤ 20) ∧ (0 ≤ r.2.1 ∧ r.2.1 ≤ 20) ∧ (0 ≤ r.2.2 ∧ r.2.2 ≤ 20)
theorem txC3_eq (a b c : Nat) : txC3 a b c = numF 1 a ++ 46 :: (numF 1 b ++ 46 :: numF 1 c) := by simp [txC3]
def clP (l : List UInt8) : Cl := (atoiV (Lib.cut l [46]).1, (pairP 46 (Lib.cut l [46]).2.1).1, (pairP 46 (Lib.cut l [46]).2.1).2)
def clM (l : List UInt8) : Option Cl := match cutL 46 l with
  | [p, q, r] => some (readL p, readL q, readL r)
  | _ => none
theorem cl_not {x : UInt8} {a b c : Nat} (ha : a ≤ 20) (hb : b ≤ 20) (hc : c ≤ 20) (hx : x.toNat < 48 ∨ 57 < x.toNat) (hne : x ≠ 46) : x ∉ txC3 a b c := by
  rw [txC3_eq]
  simp only [List.mem_append, List.mem_cons, not_or]
  exact ⟨num_not ha hx, hne, num_not hb hx, hne, num_not hc hx⟩
theorem cl_nat {a b c : Nat} (ha : a ≤ 20) (hb : b ≤ 20) (hc : c ≤ 20) :
    clP (txC3 a b c) = ((a : Int), (b : Int), (c : Int)) ∧ clM (txC3 a b c) = some ((a : Int), (b : Int), (c : Int)) ∧ (44 : UInt8) ∉ txC3 a b c ∧ (112 : UInt8) ∉ txC3 a b c ∧ txC3 a b c ≠ [] := by
  have p2 := pair_of (m := 46) (by decide) hb hc
  refine ⟨?_, ?_, cl_not ha hb hc (by decide) (by decide), cl_not ha hb hc (by decide) (by decide), by rw [txC3_eq]; simp⟩
  · rw [txC3_eq]; unfold clP; rw [cut_app _ (num_not ha (by decide)), p2.1, (num_facts a ha).1]
  · rw [txC3_eq]; unfold clM; rw [cutL_app _ _ (num_not ha (by decide)), cutL_pair (num_not hb (by decide)) (num_not hc (by decide))]
    simp only; rw [(num_facts a ha).2.1, (num_facts b hb).2.1, (num_facts c hc).2.1]
theorem cl_of {r : Cl} (h : Cok r) : clP (txC r) = r ∧ clM (txC r) = some r ∧ (44 : UInt8) ∉ txC r ∧ (112 : UInt8) ∉ txC r ∧ txC r ≠ [] := by
  obtain ⟨r0, r1, r2⟩ := r
  obtain ⟨⟨a1, a2⟩, ⟨b1, b2⟩, ⟨c1, c2⟩⟩ := h
  simp only at a1 a2 b1 b2 c1 c2
  obtain ⟨n0, rfl⟩ : ∃ n : Nat, r0 = n := ⟨r0.toNat, by omega⟩
  obtain ⟨n1, rfl⟩ : ∃ n : Nat, r1 = n := ⟨r1.toNat, by omega⟩
  obtain ⟨n2, rfl⟩ : ∃ n : Nat, r2 = n := ⟨r2.toNat, by omega⟩
  exact cl_nat (a := n0) (b := n1) (c := n2) (by omega) (by omega) (by omega)

def allC : List (List UInt8) → Option (List Cl)
  | [] => some []
  | p :: ps => match clM p with
    | none => none
    | some r => match allC ps with
      | none => none
      | some rs => some (r :: rs)
theorem allC_of : ∀ {rs : List Cl}, (∀ r ∈ rs, Cok r) → allC (rs.map txC) = some rs
  | [], _ => rfl
  | r :: rs, hr => by
    rw [List.map_cons, allC, (cl_of (hr r (List.mem_cons_self ..))).2.1]
    simp only
    rw [allC_of (fun x hx => hr x (List.mem_cons_of_mem _ hx))]
def clsP (l : List UInt8) : List Cl := if l = [] then [] else (cutL 44 l).map clP
def clsM (l : List UInt8) : Option (List Cl) := if l = [] then some [] else allC (cutL 44 l)
theorem join_ne {b : UInt8} {p : List UInt8} {ps : List (List UInt8)} (h : p ≠ []) : Lib.join (p :: ps) [b] ≠ [] := by
  rw [Lib.join_cons]; simp [h]
theorem cls_of {rs : List Cl} (hr : ∀ r ∈ rs, Cok r) : clsP (clsT rs) = rs ∧ clsM (clsT rs) = some rs := by
  cases rs with
  | nil => exact ⟨rfl, rfl⟩
  | cons r rs =>
    have hne : clsT (r :: rs) ≠ [] := by
      unfold clsT; rw [List.map_cons]; exact join_ne (cl_of (hr r (List.mem_cons_self ..))).2.2.2.2
    have hc : cutL 44 (clsT (r :: rs)) = (r :: rs).map txC := cutL_joinB 44 _ (by simp) (fun p hp => by
      obtain ⟨x, hx, rfl⟩ := List.mem_map.1 hp
      exact (cl_of (hr x hx)).2.2.1)
    constructor
    · unfold clsP
      rw [if_neg hne, hc, List.map_map]
      conv => rhs; rw [← List.map_id (r :: rs)]
      exact List.map_congr_left fun x hx => (cl_of (hr x hx)).1
    · unfold clsM
      rw [if_neg hne, hc, allC_of hr]
theorem cls_not : ∀ {rs : List Cl}, (∀ r ∈ rs, Cok r) → (112 : UInt8) ∉ clsT rs
  | [], _ => by simp [clsT, Lib.join_nil]
  | [r], h => by unfold clsT; rw [List.map_cons, List.map_nil, Lib.join_one]; exact (cl_of (h r (List.mem_cons_self ..))).2.2.2.1
  | r :: q :: rs, h => by
    have ih := cls_not (rs := q :: rs) (fun x hx => h x (List.mem_cons_of_mem _ hx))
    unfold clsT at ih ⊢
    rw [List.map_cons, join_cons2 _ _ (by simp)]
    intro e
    rcases List.mem_append.1 e with e | e
    · exact (cl_of (h r (List.mem_cons_self ..))).2.2.2.1 e
    · rcases List.mem_cons.1 e with e | e
      · exact absurd e (by decide)
      · exact ih e

/-! The puzzle. -/
theorem pzTL_eq (t : Int) (rs : List Cl) : pzTL t rs = numF 1 t.toNat ++ 112 :: clsT rs := by simp [pzTL, headP]
def pzP (l : List UInt8) : Int × List Cl := (atoiV (Lib.cut l [112]).1, clsP (Lib.cut l [112]).2.1)
def pzM (l : List UInt8) : Option (Int × List Cl) := match cutL 112 l with
  | [p, q] => match clsM q with
    | some rs => some (readL p, rs)
    | none => none
  | _ => none
theorem good_cok {t : Int} {rs : List Cl} (h : goodP t rs = true) : ∀ r ∈ rs, Cok r := by
  intro r hr
  obtain ⟨hp, h6, hc⟩ := goodP_bd h
  obtain ⟨k, hk, rfl⟩ := List.getElem_of_mem hr
  have h1 := goodC_bd hp (goodCs_get hc k hk)
  rw [show rs.getD k zC = rs[k] by simp [hk]] at h1
  obtain ⟨⟨a1, a2⟩, ⟨b1, b2⟩, c1, c2⟩ := h1
  exact ⟨⟨a1, by omega⟩, ⟨b1, by omega⟩, c1, by omega⟩
theorem both_pz {t : Int} {rs : List Cl} (h : goodP t rs = true) : pzP (pzTL t rs) = (t, rs) ∧ pzM (pzTL t rs) = some (t, rs) ∧ (pzTL t rs).length ≤ 60 := by
  obtain ⟨⟨t1, t2⟩, h6, -⟩ := goodP_bd h
  have hr := good_cok h
  have hx := cls_of hr
  have hn := cls_not hr
  have hl := clsT_len (l := rs) rs.length (Nat.le_refl _)
  rw [List.take_length] at hl
  rw [pzTL_eq]
  obtain ⟨a, rfl⟩ : ∃ n : Nat, t = n := ⟨t.toNat, by omega⟩
  simp only [Int.toNat_natCast]
  have ha : a ≤ 20 := by omega
  have hq : (112 : UInt8) ∉ numF 1 a := num_not ha (by decide)
  refine ⟨?_, ?_, ?_⟩
  · unfold pzP; rw [cut_app _ hq, (num_facts a ha).1]; simp only; rw [hx.1]
  · unfold pzM; rw [cutL_pair hq hn]; simp only; rw [hx.2, (num_facts a ha).2.1]
  · have l0 := (numF_len 1 a).2
    simp only [List.length_append, List.length_cons]; omega

def okP (l : List UInt8) : Bool := goodP (pzP l).1 (pzP l).2 && decide (pzTL (pzP l).1 (pzP l).2 = l)
def rawM (l : List UInt8) : Option (Int × List Cl) := if l.length ≤ 60 then pzM l else none
def okM (l : List UInt8) : Bool := match rawM l with
  | some p => goodP p.1 p.2 && decide (pzTL p.1 p.2 = l)
  | none => false
def valP (l : List UInt8) : Int × List Cl := if okP l then pzP l else (0, [])
def valM (l : List UInt8) : Int × List Cl := if okM l then (rawM l).getD (0, []) else (0, [])
theorem ways_pz (l : List UInt8) : okM l = okP l ∧ valM l = valP l := by
  have key : (okM l = true ∨ okP l = true) → okM l = true ∧ okP l = true ∧ rawM l = some (pzP l) := by
    intro h
    obtain ⟨t, rs, hg, ht⟩ : ∃ t rs, goodP t rs = true ∧ l = pzTL t rs := by
      rcases h with h | h
      · unfold okM at h
        cases hm : rawM l with
        | none => rw [hm] at h; exact absurd h (by simp)
        | some p => rw [hm] at h; simp only [Bool.and_eq_true, decide_eq_true_eq] at h; exact ⟨p.1, p.2, h.1, h.2.symm⟩
      · simp only [okP, Bool.and_eq_true, decide_eq_true_eq] at h
        exact ⟨_, _, h.1, h.2.symm⟩
    obtain ⟨e1, e2, e3⟩ := both_pz hg
    rw [← ht] at e1 e2 e3
    have e4 : rawM l = some (t, rs) := by unfold rawM; rw [if_pos e3, e2]
    refine ⟨?_, ?_, by rw [e1, e4]⟩
    · simp [okM, e4, hg, ht.symm]
    · simp [okP, e1, hg, ht.symm]
  by_cases h : okM l = true ∨ okP l = true
  · obtain ⟨h1, h2, h3⟩ := key h
    exact ⟨by rw [h1, h2], by unfold valM valP; rw [h1, h2, h3]; rfl⟩
  · have h1 : okM l = false := by cases e : okM l <;> simp_all
    have h2 : okP l = false := by cases e : okP l <;> simp_all
    exact ⟨by rw [h1, h2], by unfold valM valP; rw [h1, h2]; rfl⟩
theorem valP_len (l : List UInt8) : ((valP l).2.length : Int) ≤ 1000 := by
  unfold valP
  cases h : okP l
  · simp
  · rw [if_pos rfl]
    simp only [okP, Bool.and_eq_true] at h
    have := (goodP_bd h.1).2.1
    omega
end Go.Proofs.YtbgdngfjeikheaaDoor
