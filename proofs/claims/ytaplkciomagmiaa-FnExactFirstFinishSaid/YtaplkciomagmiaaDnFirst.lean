/-
  Darts: the first finish (plain), and what an append of darts leaves.
-/
import Derived.Test.YtaplkciomagmiaaDnLeast
import Derived.Test.YtaplkciomagmiaaDnNo
import Derived.Lib.AppendZeros
import Derived.Deep.RegionHeld3
namespace Go.Proofs.Ytaplkciomagmiaa
open Go.RowKit
set_option linter.unusedVariables false
set_option linter.unusedSimpArgs false

def pickB (m : Nat) (n : Int) (d : Int × Int) : Bool := if m = 0 then decide (n - scD d = 0) && dblD d else finB m (n - scD d)
def firstD : Nat → Int → List (Int × Int)
  | 0, _ => []
  | m + 1, n => match allD.find? (pickB m n) with
    | none => []
    | some d => d :: firstD m (n - scD d)
theorem finB_pick (m : Nat) (n : Int) : finB (m + 1) n = allD.any (pickB m n) := by
  cases m with
  | zero =>
    rw [show 0 + 1 = 1 from rfl]
    simp only [finB]
    congr 1; funext d
    unfold pickB
    rw [if_pos rfl]
    congr 1
    exact decide_eq_decide.2 (by omega)
  | succ m =>
    simp only [finB]
    congr 1
theorem find_some {m : Nat} {n : Int} (h : finB (m + 1) n = true) : ∃ d, allD.find? (pickB m n) = some d ∧ d ∈ allD ∧ pickB m n d = true := by
  rw [finB_pick, List.any_eq_true] at h
  obtain ⟨d, hd, hp⟩ := h
  cases hf : allD.find? (pickB m n) with
  | none => exact absurd hp (by rw [Bool.not_eq_true]; have := List.find?_eq_none.1 hf d hd; simpa using this)
  | some e => exact ⟨e, rfl, List.mem_of_find?_eq_some hf, List.find?_some hf⟩
theorem firstD_some {m : Nat} {n : Int} {d : Int × Int} (h : allD.find? (pickB m n) = some d) : firstD (m + 1) n = d :: firstD m (n - scD d) := by
  rw [firstD, h]
theorem firstD_len : ∀ (m : Nat) (n : Int), (m = 0 ∨ finB m n = true) → (firstD m n).length = m
  | 0, _, _ => rfl
  | m + 1, n, h => by
    obtain ⟨d, hf, hd, hp⟩ := find_some (h.resolve_left (by omega))
    rw [firstD_some hf, List.length_cons, firstD_len m _ ?_]
    by_cases q : m = 0
    · exact .inl q
    · right
      unfold pickB at hp
      rw [if_neg q] at hp; exact hp
theorem few_step {n : Nat} {d : Int × Int} (hd : d ∈ allD) {r : Nat} (hr : (n : Int) - scD d = r) (hp : 0 < fewN r) : fewN n ≤ fewN r + 1 := by
  have hf := fewN_fin r hp
  obtain ⟨k, hk⟩ : ∃ k : Nat, fewN r = (k : Int) + 1 := ⟨(fewN r).toNat - 1, by omega⟩
  rw [hk] at hf
  have : ((k : Int) + 1).toNat = k + 1 := by omega
  rw [this] at hf
  have hf2 : finB (k + 2) n = true := by
    simp only [finB, List.any_eq_true]
    exact ⟨d, hd, by rw [hr]; exact hf⟩
  have := fewN_le n (k + 2) hf2
  omega
theorem find_drop {l : List (Int × Int)} {p : Int × Int → Bool} {j : Nat} (h : j < l.length) : (l.drop j).find? p = if p (l.getD j (0, 0)) = true then some (l.getD j (0, 0)) else (l.drop (j + 1)).find? p := by
  rw [List.drop_eq_getElem_cons h, List.find?_cons]
  have e : l.getD j (0, 0) = l[j] := by simp [h]
  rw [e]
  cases p l[j] <;> simp

theorem darts_one {l : List (Int × Int)} : ∀ u ∈ darts l, u.oneCell' = true := by
  intro u hu
  simp only [darts, List.mem_flatMap] at hu
  obtain ⟨d, _, hd⟩ := hu
  simp at hd
  rcases hd with rfl | rfl <;> rfl
theorem owns_dart (w : World) (x y : Int) : (w.alloc (.cells #[.int .i64 x, .int .i64 y] 55)).ownsRow w.heap.size 55 2 (.slice (some ⟨w.heap.size, 0, none⟩) 1 1) 1 (darts [(x, y)]) :=
  ⟨by simp [darts], .inr ⟨w.heap.size, 1, #[.int .i64 x, .int .i64 y], rfl, Nat.le_refl _, heap_alloc_last w _, Nat.le_refl _, by decide, by simp, by simp [darts]⟩⟩
theorem wp_append_da {w : World} {o : Oper} {a : Act} {K : Act → World → Prop} {Q : Exit → Act → World → Prop} (s x : Operand)
    (ho : o.op = .call { callee := .builtin .append, args := #[s, x], argTypes := #[33, 33] })
    (B : Nat) (w0 : World) (v : Value) (n : Nat) (xs ys : List (Int × Int)) (ad : Option Addr) (m c : Nat) (hs : a.eval s = v) (hx : a.eval x = .slice ad m c) (hm : m = ys.length)
    (hown : w.ownsRow B 55 2 v n (darts xs)) (hr : Reads w ad (darts ys)) (hbel : Below B w0 w) (hB : B ≤ w.heap.size) (hsz : n + ys.length ≤ 100000) (hne : ad ≠ none)
    (h : ∀ v' w', w'.ownsRow B 55 2 v' (n + ys.length) (darts (xs ++ ys)) → Below B w0 w' → K (a.put o.dst v') w') :
    o.wp Try.prog a w K Q := by
  subst hm
  obtain ⟨i0, hi, hz0, hz1, hz2⟩ := info_parts infoD
  cases ad with
  | none => exact absurd rfl hne
  | some ad =>
    have hnews : ∀ j u, (darts ys)[j]? = some u → w.cell? (ad.add j) = some u := by
      intro j u hj
      rcases hr with hr | ⟨b, off, he, hlt, hc⟩
      · rw [hr] at hj; simp at hj
      · cases he
        have hjl : j < (darts ys).length := (List.getElem?_eq_some_iff.1 hj).1
        have e : (⟨b, off, none⟩ : Addr).add j = ⟨b, off + j, none⟩ := by unfold Addr.add; split <;> simp_all
        rw [e, hc j hjl, hj]
    obtain ⟨v', w', hrun, h2, h3, h4, h5⟩ := run_append_own_at (P := Try.prog) w B 33 o.type 55 i0 (.agg #[.int .i64 0, .int .i64 0]) 2 16 Try.underlying33 hi hz0 hz1 hz2 rfl (by decide) v n (darts xs) hown ad ys.length c (darts ys) (by rw [darts_len]; omega) hnews darts_one (by unfold maxLen; omega) (by omega) hB
    refine Lib.wp_append_run w s x _ _ ho v _ hs hx v' w' hrun (h v' w' (by rw [darts_append]; exact h2) (hbel.grown h3 hB (fun g hg => ?_)))
    obtain ⟨_, h | ⟨g', cap, cur, hv, hb', _⟩⟩ := hown
    · rw [h.1] at hg; cases hg
    · rw [hv] at hg; simp [Value.ownBlock] at hg; omega
/-- What both hand back: a row of darts of their own, and whether there is one. -/
def RowD (L : List (Int × Int)) (o : Bool) (w : World) (e : Ending) (w' : World) : Prop :=
  ∃ v, e = .returned (.tuple #[v, .bool o]) ∧ w'.ownsRow w.heap.size 55 2 v L.length (darts L) ∧ Below w.heap.size w w'
theorem owns_nilD (w : World) (B : Nat) (T : TypeId) : w.ownsRow B T 2 (.slice none 0 0) 0 (darts []) := ⟨rfl, .inl ⟨rfl, rfl⟩⟩
def fsO (a b : Int) : Bool := canV a b
def fsL (a b : Int) : List (Int × Int) := if canV a b = true then firstD (fewN a.toNat).toNat a else []
theorem fsL_len (a b : Int) : (fsL a b).length ≤ 3 := by
  unfold fsL
  split
  · rename_i h
    unfold canV at h
    rw [Bool.and_eq_true] at h
    obtain ⟨n, d, rfl, rfl, hn, h1, h3⟩ := askB_nat h.1
    have hc := h.2
    rw [Int.toNat_natCast, canB_few, Bool.and_eq_true, decide_eq_true_eq, decide_eq_true_eq] at hc
    rw [Int.toNat_natCast, firstD_len _ _ (.inr (fewN_fin n hc.1))]
    omega
  · simp

end Go.Proofs.Ytaplkciomagmiaa
