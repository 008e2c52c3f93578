/-
  Pins: the model's frames of rolls: slices of slices that the call makes.
-/
import Derived.Test.YteippgbaaipiiaaPnPlay
import Derived.Deep.DeepCutAuto
namespace Go.Proofs.Yteippgbaaipiiaa
open Go.RowKit
set_option linter.unusedVariables false
set_option linter.unusedSimpArgs false

theorem owns_apart {w : World} {g T T' base n size : Nat} {v : Value} {xs : List Value} {cs : Array Value} {fr : Nat × Nat} (h : w.heap[g]? = some (.cells cs T fr)) (hT : T ≠ T') (ho : w.ownsRow base T' size v n xs) : v.ownBlock ≠ some g := by
  obtain ⟨_, ⟨rfl, _⟩ | ⟨g', cap, cur, rfl, _, hh, _⟩⟩ := ho
  · simp [Value.ownBlock]
  · intro e
    simp [Value.ownBlock] at e
    subst e
    rw [hh] at h
    injection h with h
    injection h with h1 h2 h3
    exact hT h2.symm
theorem owns_heap {w w' : World} {T base n size : Nat} {v : Value} {xs : List Value} (ho : w.ownsRow base T size v n xs) (hs : ∀ k, v.ownBlock = some k → w'.heap[k]? = w.heap[k]?) : w'.ownsRow base T size v n xs := by
  obtain ⟨hl, ⟨rfl, h2⟩ | ⟨g', cap, cur, rfl, hb, hh, r⟩⟩ := ho
  · exact ⟨hl, .inl ⟨rfl, h2⟩⟩
  · refine ⟨hl, .inr ⟨g', cap, cur, rfl, hb, ?_, r⟩⟩
    rw [hs g' (by simp [Value.ownBlock])]; exact hh
theorem owns_ge {w : World} {T base n size : Nat} {v : Value} {xs : List Value} (ho : w.ownsRow base T size v n xs) {g : Nat} (e : v.ownBlock = some g) : base ≤ g ∧ g < w.heap.size := by
  obtain ⟨hl, ⟨rfl, h2⟩ | ⟨g', cap, cur, rfl, hb, hh, r⟩⟩ := ho
  · simp [Value.ownBlock] at e
  · simp [Value.ownBlock] at e
    subst e
    exact ⟨hb, (Array.getElem?_eq_some_iff.1 hh).1⟩

/-- Rows that are done: each one the call's own, none of them the last one's block. -/
def DoneR (w : World) (B : Nat) (vs : List Value) (D : List (List Int)) (lastB : Option Nat) : Prop :=
  vs.length = D.length ∧ ∀ j, j < D.length → ∃ u, vs[j]? = some u ∧ w.ownsRow B 3 1 u (D.getD j []).length (ints (D.getD j [])) ∧ (∀ g, lastB = some g → u.ownBlock ≠ some g)
theorem DoneR.heap {w w' : World} {B : Nat} {vs : List Value} {D : List (List Int)} {lb : Option Nat} (h : DoneR w B vs D lb) (hs : ∀ j u k, j < D.length → vs[j]? = some u → u.ownBlock = some k → w'.heap[k]? = w.heap[k]?) : DoneR w' B vs D lb := by
  refine ⟨h.1, fun j hj => ?_⟩
  obtain ⟨u, h1, h2, h3⟩ := h.2 j hj
  exact ⟨u, h1, owns_heap h2 (fun k e => hs j u k hj h1 e), h3⟩
theorem DoneR.keep {w w' : World} {B : Nat} {vs : List Value} {D : List (List Int)} {lb : Option Nat} (h : DoneR w B vs D lb) (hb : Below w.heap.size w w') : DoneR w' B vs D lb :=
  h.heap (fun j u k hj hu e => by
    obtain ⟨u', h1, h2, _⟩ := h.2 j hj
    rw [hu] at h1; injection h1 with h1; subst h1
    exact hb.block k (owns_ge h2 e).2)
/-- The frames so far, all of them done. -/
def SplitD (w : World) (B : Nat) (v : Value) (D : List (List Int)) : Prop := ∃ vs, w.ownsRow B 22 1 v D.length vs ∧ DoneR w B vs D none
/-- The frames so far, and the balls of the one that is open. -/
def SplitW (w : World) (B : Nat) (v : Value) (D : List (List Int)) (cur : List Int) (lb : Option Nat) : Prop :=
  ∃ vs lv, lv.ownBlock = lb ∧ w.ownsRow B 22 1 v (D.length + 1) (vs ++ [lv]) ∧ w.ownsRow B 3 1 lv cur.length (ints cur) ∧ DoneR w B vs D lv.ownBlock
theorem SplitD.keep {w w' : World} {B : Nat} {v : Value} {D : List (List Int)} (h : SplitD w B v D) (hb : Below w.heap.size w w') : SplitD w' B v D := by
  obtain ⟨vs, h1, h2⟩ := h
  exact ⟨vs, owns_below h1 hb, h2.keep hb⟩
theorem SplitW.keep {w w' : World} {B : Nat} {v : Value} {D : List (List Int)} {cur : List Int} {lb : Option Nat} (h : SplitW w B v D cur lb) (hb : Below w.heap.size w w') : SplitW w' B v D cur lb := by
  obtain ⟨vs, lv, h0, h1, h2, h3⟩ := h
  exact ⟨vs, lv, h0, owns_below h1 hb, owns_below h2 hb, h3.keep hb⟩
/-- A write into a block that is no row. -/
theorem SplitD.other {w w' : World} {B : Nat} {v : Value} {D : List (List Int)} (h : SplitD w B v D) {g T : Nat} {cs : Array Value} (hg : w.heap[g]? = some (.cells cs T (0, 0))) (h1 : T ≠ 22) (h2 : T ≠ 3) (hs : ∀ k, k ≠ g → w'.heap[k]? = w.heap[k]?) : SplitD w' B v D := by
  obtain ⟨vs, o1, o2⟩ := h
  refine ⟨vs, owns_heap o1 (fun k e => hs k (fun ek => owns_apart hg h1 o1 (by rw [e, ek]))), o2.heap (fun j u k hj hu e => hs k (fun ek => ?_))⟩
  obtain ⟨u', q1, q2, _⟩ := o2.2 j hj
  rw [hu] at q1; injection q1 with q1; subst q1
  exact owns_apart hg h2 q2 (by rw [e, ek])
theorem SplitW.other {w w' : World} {B : Nat} {v : Value} {D : List (List Int)} {cur : List Int} {lb : Option Nat} (h : SplitW w B v D cur lb) {g T : Nat} {cs : Array Value} (hg : w.heap[g]? = some (.cells cs T (0, 0))) (h1 : T ≠ 22) (h2 : T ≠ 3) (hs : ∀ k, k ≠ g → w'.heap[k]? = w.heap[k]?) : SplitW w' B v D cur lb := by
  obtain ⟨vs, lv, o0, o1, o2, o3⟩ := h
  refine ⟨vs, lv, o0, owns_heap o1 (fun k e => hs k (fun ek => owns_apart hg h1 o1 (by rw [e, ek]))), owns_heap o2 (fun k e => hs k (fun ek => owns_apart hg h2 o2 (by rw [e, ek]))), o3.heap (fun j u k hj hu e => hs k (fun ek => ?_))⟩
  obtain ⟨u', q1, q2, _⟩ := o3.2 j hj
  rw [hu] at q1; injection q1 with q1; subst q1
  exact owns_apart hg h2 q2 (by rw [e, ek])
theorem SplitW.close {w : World} {B : Nat} {v : Value} {D : List (List Int)} {cur : List Int} {lb : Option Nat} (h : SplitW w B v D cur lb) : SplitD w B v (D ++ [cur]) := by
  obtain ⟨vs, lv, -, o1, o2, o3⟩ := h
  refine ⟨vs ++ [lv], by simpa using o1, by simp [o3.1], fun j hj => ?_⟩
  rw [getD_snoc]
  by_cases hjl : j < D.length
  · obtain ⟨u, q1, q2, _⟩ := o3.2 j hjl
    rw [if_pos hjl]
    exact ⟨u, by rw [List.getElem?_append_left (by rw [o3.1]; exact hjl)]; exact q1, q2, fun g e => by cases e⟩
  · have : j = D.length := by simp at hj; omega
    subst this
    rw [if_neg hjl, if_pos rfl]
    exact ⟨lv, by rw [List.getElem?_append_right (by rw [o3.1]; exact Nat.le_refl _), o3.1]; simp, o2, fun g e => by cases e⟩
/-- A row's last cell. -/
theorem owns_last {w : World} {B T n : Nat} {v lv : Value} {vs : List Value} (h : w.ownsRow B T 1 v (n + 1) (vs ++ [lv])) : vs.length = n ∧ ∃ go cap, v = .slice (some ⟨go, 0, none⟩) (n + 1) cap ∧ B ≤ go ∧ go < w.heap.size ∧ n + 1 ≤ maxLen ∧
    w.cell? ⟨go, n, none⟩ = some lv ∧ w.frozen? ⟨go, n, none⟩ = false ∧ ∀ lv', (w.setCell ⟨go, n, none⟩ lv').ownsRow B T 1 v (n + 1) (vs ++ [lv']) := by
  obtain ⟨hl, ⟨_, h2⟩ | ⟨g', cap, cur, rfl, hb, hh, hn, hcap, hcs, htk⟩⟩ := h
  · simp at h2
  · have hlen : vs.length = n := by simp at hl; exact hl
    have hsz : n < cur.size := by omega
    have hcell : cur[n]? = some lv := by
      have : (cur.toList.take ((n + 1) * 1))[n]? = (vs ++ [lv])[n]? := by rw [htk]
      rw [List.getElem?_take_of_lt (by omega), Array.getElem?_toList] at this
      rw [this, ← hlen]; simp
    refine ⟨hlen, g', cap, rfl, hb, (Array.getElem?_eq_some_iff.1 hh).1, by omega, by rw [cell_of_row w g' n _ _ _ hh]; exact hcell, frozen_of_row w g' n _ _ hh, fun lv' => ?_⟩
    refine ⟨by simp [hlen], .inr ⟨g', cap, cur.setIfInBounds n lv', rfl, hb, ?_, hn, hcap, by simpa using hcs, ?_⟩⟩
    · have h0 := setRow_heap w g' _ (cur.setIfInBounds n lv') _ _ hh
      rw [← setCell_eq_setRow w g' n _ _ _ _ hh] at h0
      exact h0
    · apply List.ext_getElem?
      intro i
      have hi2 : (cur.toList.take ((n + 1) * 1))[i]? = (vs ++ [lv])[i]? := by rw [htk]
      simp only [Array.toList_setIfInBounds]
      by_cases e : i < n
      · rw [List.getElem?_take_of_lt (by omega), List.getElem?_set_ne (by omega)]
        rw [List.getElem?_take_of_lt (by omega)] at hi2
        rw [hi2, List.getElem?_append_left (by omega), List.getElem?_append_left (by omega)]
      · by_cases e2 : i = n
        · subst e2
          rw [List.getElem?_take_of_lt (by omega), List.getElem?_set_self (by simpa using hsz), ← hlen]
          simp
        · rw [List.getElem?_eq_none (by simp; omega), List.getElem?_eq_none (by simp; omega)]
theorem infoSlice : (Try.prog.info? 22).map (fun i => (i.zero, i.size, i.bytes)) = some (some (.slice none 0 0), 1, 24) := by kernel_rfl

/-- The store of a row that has grown. -/
theorem SplitW.grown {w' : World} {B : Nat} {v lv lv' : Value} {vs : List Value} {D : List (List Int)} {cur : List Int} {p : Int} {go : Nat} (o1 : w'.ownsRow B 22 1 v (D.length + 1) (vs ++ [lv])) (hgo : ∀ lv2, (w'.setCell ⟨go, D.length, none⟩ lv2).ownsRow B 22 1 v (D.length + 1) (vs ++ [lv2])) (hT : v.ownBlock = some go)
    (o2 : w'.ownsRow B 3 1 lv' (cur.length + 1) (ints (cur ++ [p]))) (o3 : DoneR w' B vs D lv'.ownBlock) : SplitW (w'.setCell ⟨go, D.length, none⟩ lv') B v D (cur ++ [p]) lv'.ownBlock := by
  have hg : ∃ cs, w'.heap[go]? = some (.cells cs 22 (0, 0)) := by
    obtain ⟨_, ⟨rfl, _⟩ | ⟨g', cap, cur, rfl, _, hh, _⟩⟩ := o1
    · simp [Value.ownBlock] at hT
    · simp [Value.ownBlock] at hT; subst hT; exact ⟨cur, hh⟩
  obtain ⟨cs, hcs⟩ := hg
  refine ⟨vs, lv', rfl, hgo lv', ?_, ?_⟩
  · have := owns_heap (w' := w'.setCell ⟨go, D.length, none⟩ lv') o2 (fun k e => Below.heap_setCell _ _ _ _ (fun ek => owns_apart hcs (by decide) o2 (by rw [e, ek])))
    simpa using this
  · refine o3.heap (fun j u k hj hu e => Below.heap_setCell _ _ _ _ (fun ek => ?_))
    obtain ⟨u', q1, q2, _⟩ := o3.2 j hj
    rw [hu] at q1; injection q1 with q1; subst q1
    exact owns_apart hcs (by decide) q2 (by rw [e, ek])
end Go.Proofs.Yteippgbaaipiiaa
