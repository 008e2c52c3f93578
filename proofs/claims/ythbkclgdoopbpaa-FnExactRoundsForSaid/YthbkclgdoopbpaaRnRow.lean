/-
  Rounds that the call made.
-/
import Derived.Test.YthbkclgdoopbpaaRnSs
namespace Go.Proofs.Ythbkclgdoopbpaa
open Go.RowKit
set_option linter.unusedVariables false
set_option linter.unusedSimpArgs false

/-- Rows that the call made, their heads told. -/
def FrV (B : Nat) (D : List (List Int)) (v : Value) (us : List Value) (wr : World) : Prop :=
  wr.ownsRow B 25 1 v D.length us ∧ Heads us D ∧ (∀ j, j < D.length → RowAt wr (blk us j) 3 (D.getD j []) ∧ B ≤ blk us j) ∧ Apart us D
theorem FrV.of {B : Nat} {D : List (List Int)} {v : Value} {wr : World} (h : FrC B D v wr) : ∃ us, FrV B D v us wr := h
theorem FrV.same {B : Nat} {D : List (List Int)} {v : Value} {us : List Value} {w w' : World} (h : FrV B D v us w) (hs : ∀ g, v.ownBlock = some g → w'.heap[g]? = w.heap[g]?) (hr : ∀ j, j < D.length → w'.heap[blk us j]? = w.heap[blk us j]?) : FrV B D v us w' := by
  obtain ⟨h1, h2, h3, h4⟩ := h
  refine ⟨owns_heap h1 hs, h2, fun j hj => ⟨?_, (h3 j hj).2⟩, h4⟩
  have := (h3 j hj).1
  unfold RowAt at this ⊢
  rw [hr j hj]; exact this
/-- Two rows of different types lie in different blocks. -/
theorem owns_apart2 {w : World} {T T' base base' n n' size size' : Nat} {v v' : Value} {xs xs' : List Value} (h : w.ownsRow base T size v n xs) (hT : T ≠ T') (h' : w.ownsRow base' T' size' v' n' xs') (g : Nat) (hg : v.ownBlock = some g) : v'.ownBlock ≠ some g := by
  obtain ⟨-, ⟨rfl, -⟩ | ⟨b, cap, cur, rfl, -, hh, -⟩⟩ := h
  · simp [Value.ownBlock] at hg
  · simp [Value.ownBlock] at hg
    subst hg
    exact owns_apart hh hT h'

/-- Rounds that the call made: the heads of the rounds told. -/
def RnV (B : Nat) (E : List (List (List Int))) (v : Value) (vs : List Value) (wr : World) : Prop :=
  wr.ownsRow B 88 1 v E.length vs ∧ ∃ (UU : Nat → List Value) (lo : Nat → Nat),
    (∀ i, i < E.length → FrV (lo i) (E.getD i []) (vs.getD i undef) (UU i) wr ∧ (∃ g c, vs[i]? = some (.slice (some ⟨g, 0, none⟩) (E.getD i []).length c)) ∧ B ≤ lo i) ∧
    (∀ i k j, i < k → k < E.length → j < (E.getD i []).length → blk (UU i) j < lo k)
theorem RnV.nil (B : Nat) (wr : World) : RnV B [] (.slice none 0 0) [] wr :=
  ⟨⟨rfl, .inl ⟨rfl, rfl⟩⟩, fun _ => [], fun _ => 0, fun i hi => absurd hi (Nat.not_lt_zero _), fun i k j _ hk => absurd hk (Nat.not_lt_zero _)⟩
theorem RnV.keep {B : Nat} {E : List (List (List Int))} {v : Value} {vs : List Value} {wr w' : World} (h : RnV B E v vs wr) (hb : Below wr.heap.size wr w') : RnV B E v vs w' := by
  obtain ⟨h1, UU, lo, h2, h3⟩ := h
  refine ⟨owns_below h1 hb, UU, lo, fun i hi => ⟨?_, (h2 i hi).2⟩, h3⟩
  exact (h2 i hi).1.same (fun g hg => hb.block g (owns_ge (h2 i hi).1.1 hg).2) (fun j hj => hb.block _ ((h2 i hi).1.2.2.1 j hj).1.lt)

/-- One round more: what the walk has behind the append. -/
theorem RnV.snoc {B : Nat} {E : List (List (List Int))} {v v' v1 : Value} {vs : List Value} {wr w1 w5 : World} {D : List (List Int)} {o : Obj} (h : RnV B E v vs wr) (hb : Below wr.heap.size wr w1) (hB : B ≤ wr.heap.size) (hD : FrC wr.heap.size D v1 w1)
    (hne : 0 < D.length) (ho : w5.ownsRow B 88 1 v' (E.length + 1) (vs ++ [v1])) (hg : (w1.alloc o).grownBy w5 v.ownBlock) : RnV B (E ++ [D]) v' (vs ++ [v1]) w5 := by
  obtain ⟨h1', UU, lo, h2', h3⟩ := h
  have h1 := owns_below h1' hb
  have h2 : ∀ i, i < E.length → FrV (lo i) (E.getD i []) (vs.getD i undef) (UU i) w1 ∧ (∃ g c, vs[i]? = some (.slice (some ⟨g, 0, none⟩) (E.getD i []).length c)) ∧ B ≤ lo i := fun i hi =>
    ⟨(h2' i hi).1.same (fun g hg => hb.block g (owns_ge (h2' i hi).1.1 hg).2) (fun j hj => hb.block _ ((h2' i hi).1.2.2.1 j hj).1.lt), (h2' i hi).2⟩
  obtain ⟨us, hus⟩ := FrV.of hD
  have hvl : vs.length = E.length := by have := h1.1; omega
  have hkeep : ∀ k, k < w1.heap.size → v.ownBlock ≠ some k → w5.heap[k]? = w1.heap[k]? := fun k hk hne => by
    rw [hg.block k (by simp; omega) (fun e => hne e.symm), Below.heap_alloc _ _ _ (by omega)]
  have hsz := hb.size
  have hfr : ∀ {lo : Nat} {D : List (List Int)} {u : Value} {us : List Value}, FrV lo D u us w1 → FrV lo D u us w5 := fun hf =>
    hf.same (fun g hg => hkeep g (owns_ge hf.1 hg).2 (owns_apart2 hf.1 (by decide) h1 g hg)) (fun j hj => hkeep _ (hf.2.2.1 j hj).1.lt (owns_apart (hf.2.2.1 j hj).1 (by decide) h1))
  obtain ⟨a1, c1, rfl⟩ := hD.slice
  obtain ⟨ -, hnil | ⟨g1, cap1, cur1, hv1, -⟩⟩ := hus.1
  · have := hnil.1
    simp at this
    omega
  simp at hv1
  have hgE : ∀ i, i < E.length → (E ++ [D]).getD i [] = E.getD i [] := fun i hi => by
    rw [List.getD_eq_getElem?_getD, List.getD_eq_getElem?_getD, List.getElem?_append_left hi]
  have hgN : (E ++ [D]).getD E.length [] = D := by
    rw [List.getD_eq_getElem?_getD, List.getElem?_append_right (Nat.le_refl _)]; simp
  have hvE : ∀ i, i < E.length → (vs ++ [Value.slice a1 D.length c1]).getD i undef = vs.getD i undef := fun i hi => by
    rw [List.getD_eq_getElem?_getD, List.getD_eq_getElem?_getD, List.getElem?_append_left (by omega)]
  have hvN : (vs ++ [Value.slice a1 D.length c1]).getD E.length undef = .slice a1 D.length c1 := by
    rw [List.getD_eq_getElem?_getD, List.getElem?_append_right (by omega), hvl]; simp
  refine ⟨by rw [List.length_append]; exact ho, fun i => if i < E.length then UU i else us, fun i => if i < E.length then lo i else wr.heap.size, fun i hi => ?_, fun i k j hik hk hj => ?_⟩
  · rw [List.length_append, List.length_singleton] at hi
    by_cases e : i < E.length
    · simp only [e, if_true]
      rw [hgE i e, hvE i e, List.getElem?_append_left (by omega)]
      exact ⟨hfr (h2 i e).1, (h2 i e).2⟩
    · obtain rfl : i = E.length := by omega
      simp only [Nat.lt_irrefl, if_false]
      rw [hgN, hvN, List.getElem?_append_right (by omega), hvl]
      refine ⟨hfr hus, ⟨g1, c1, ?_⟩, hB⟩
      rw [hv1.1]; simp
  · rw [List.length_append, List.length_singleton] at hk
    have hi : i < E.length := by omega
    rw [hgE i hi] at hj
    simp only [hi, if_true]
    by_cases e : k < E.length
    · simp only [e, if_true]
      exact h3 i k j hik e hj
    · simp only [e, if_false]
      exact ((h2' i hi).1.2.2.1 j hj).1.lt

/-- Rounds made by the call, the heads hidden. -/
def RnD (B : Nat) (E : List (List (List Int))) (v : Value) (wr : World) : Prop := ∃ vs, RnV B E v vs wr
theorem RnD.keep {B : Nat} {E : List (List (List Int))} {v : Value} {wr w' : World} (h : RnD B E v wr) (hb : Below wr.heap.size wr w') : RnD B E v w' := by
  obtain ⟨vs, h⟩ := h
  exact ⟨vs, h.keep hb⟩
theorem RnD.slice {B : Nat} {E : List (List (List Int))} {v : Value} {wr : World} (h : RnD B E v wr) : ∃ a c, v = .slice a E.length c := by
  obtain ⟨vs, h1, -⟩ := h
  obtain ⟨a, c, e, -⟩ := own_cap h1
  exact ⟨a, c, e⟩
/-- What reads and marks ask. -/
theorem RnD.parts {B : Nat} {E : List (List (List Int))} {a : Option Addr} {c : Nat} {wr : World} (h : RnD B E (.slice a E.length c) wr) : ∃ vs UU, R3 wr a vs UU E ∧
    (∀ b, blockOf a = some b → ∀ i j, i < E.length → j < (E.getD i []).length → b ≠ blk (UU i) j) ∧
    (∀ i, i < E.length → ∀ k l, k < E.length → l < (E.getD k []).length → blk vs i ≠ blk (UU k) l) ∧
    (∀ i, i < E.length → Apart (UU i) (E.getD i [])) ∧ Apart3 UU E ∧
    (∀ i j, i < E.length → j < (E.getD i []).length → Writable wr (some ⟨blk (UU i) j, 0, none⟩) ((E.getD i []).getD j []).length ∧ B ≤ blk (UU i) j ∧ blk (UU i) j < wr.heap.size) := by
  obtain ⟨vs, h1, UU, lo, h2, h3⟩ := h
  obtain ⟨x, y, e1, r1, -⟩ := Reads.own h1
  cases e1
  have hv : ∀ i, i < E.length → ∃ c, vs.getD i undef = .slice (some ⟨blk vs i, 0, none⟩) (E.getD i []).length c ∧ vs[i]? = some (.slice (some ⟨blk vs i, 0, none⟩) (E.getD i []).length c) := fun i hi => by
    obtain ⟨g, c, hg⟩ := (h2 i hi).2.1
    have : blk vs i = g := by unfold blk; rw [List.getD_eq_getElem?_getD, hg]; simp [Value.ownBlock]
    rw [this]
    exact ⟨c, by rw [List.getD_eq_getElem?_getD, hg]; rfl, hg⟩
  refine ⟨vs, UU, ⟨by have := h1.1; omega, fun i hi => (hv i hi).imp fun c h => h.2, r1, fun i hi => (h2 i hi).1.2.1, fun i hi => ?_, fun i hi j hj => ((h2 i hi).1.2.2.1 j hj).1.reads2⟩, fun b e i j hi hj e2 => ?_, fun i hi k l hk hl e => ?_, fun i hi => (h2 i hi).1.2.2.2, fun i k j l hik hk hj hl e => ?_, fun i j hi hj => ⟨((h2 i hi).1.2.2.1 j hj).1.writable, Nat.le_trans (h2 i hi).2.2 ((h2 i hi).1.2.2.1 j hj).2, ((h2 i hi).1.2.2.1 j hj).1.lt⟩⟩
  · obtain ⟨c, hc, -⟩ := hv i hi
    obtain ⟨x, y, e1, r1, -⟩ := Reads.own (h2 i hi).1.1
    rw [hc] at e1
    cases e1
    exact r1
  · exact owns_apart ((h2 i hi).1.2.2.1 j hj).1 (by decide) h1 (by rw [own_block, e, e2])
  · obtain ⟨c, hc, -⟩ := hv i hi
    exact owns_apart ((h2 k hk).1.2.2.1 l hl).1 (by decide) (h2 i hi).1.1 (by rw [hc]; simp [Value.ownBlock, e])
  · have q1 := h3 i k j hik hk hj
    have q2 := ((h2 k hk).1.2.2.1 l hl).2
    omega

theorem eqSSS (E : List (List (List Int))) (hE : SmallE E) {B B' : Nat} (a a' : Option Addr) (c c' : Nat) (w : World) (h1 : RnD B E (.slice a E.length c) w) (h2 : RnD B' E (.slice a' E.length c') w) :
    Calls Try.prog 28 #[.slice a E.length c, .slice a' E.length c'] w fun e w' => e = .returned (.bool true) ∧ Below w.heap.size w w' := by
  obtain ⟨vs, VV, r1, -⟩ := h1.parts
  obtain ⟨us, UU, r2, -⟩ := h2.parts
  exact eqIntSSS_same E hE vs us VV UU _ _ _ _ w r1 r2
/-- The marked rounds of the program's result. -/
def Mk3 (E : List (List (List Int))) (k0 : Int) (v : Value) (w : World) : Prop :=
  ∃ (vs : List Value) (UU : Nat → List Value) (a : Option Addr) (c : Nat), v = .slice a E.length c ∧ vs.length = E.length ∧ (∀ i, i < E.length → ∃ c, vs[i]? = some (.slice (some ⟨blk vs i, 0, none⟩) (E.getD i []).length c)) ∧ Reads w a vs ∧ (∀ i, i < E.length → Heads (UU i) (E.getD i [])) ∧ (∀ i, i < E.length → Reads w (some ⟨blk vs i, 0, none⟩) (UU i)) ∧ Marked3 w UU E k0 E.length
theorem Mk3.keep {E : List (List (List Int))} {k0 : Int} {v : Value} {w w' : World} (h : Mk3 E k0 v w) (hb : Below w.heap.size w w') : Mk3 E k0 v w' := by
  obtain ⟨vs, UU, a, c, h1, h2, h3, h4, h5, h6, h7⟩ := h
  exact ⟨vs, UU, a, c, h1, h2, h3, h4.old hb, h5, fun i hi => (h6 i hi).old hb, fun i hi j hj => (h7 i hi j hj).old hb⟩
theorem markSSS (E : List (List (List Int))) (hE : SmallE E) {B B0 : Nat} (hB : B0 ≤ B) (a : Option Addr) (c : Nat) (w : World) (h : RnD B E (.slice a E.length c) w) :
    Calls Try.prog 29 #[.slice a E.length c, .int .i64 1] w fun e w' => e = .returned (.int .i64 (1 + (offE E E.length : Nat))) ∧ Mk3 E 1 (.slice a E.length c) w' ∧ Below B0 w w' := by
  obtain ⟨vs, UU, r, q1, q2, q3, q4, q5⟩ := h.parts
  refine (markIntSSS_any E hE vs UU a c B0 1 (by omega) (by omega) w r q1 q2 q3 q4 (fun i j hi hj => ⟨(q5 i j hi hj).1, by have := (q5 i j hi hj).2.1; omega, (q5 i j hi hj).2.2⟩)).mono ?_
  rintro e w' ⟨rfl, h1, h2, h3⟩
  refine ⟨rfl, ⟨vs, UU, a, c, rfl, r.len, r.head, r.outer.same (fun b e => h2 b (fun i j hi hj => q1 b e i j hi hj)), r.heads, fun i hi => (r.rows i hi).same (fun b e => ?_), h1⟩, h3⟩
  simp [blockOf] at e
  rw [← e]
  exact h2 _ (fun k l hk hl => q2 i hi k l hk hl)
theorem heldSSS (E : List (List (List Int))) (hE : SmallE E) (a : Option Addr) (c : Nat) (w : World) (h : Mk3 E 1 (.slice a E.length c) w) :
    Calls Try.prog 30 #[.slice a E.length c, .int .i64 1] w fun e w' => e = .returned (.int .i64 (1 + (offE E E.length : Nat))) ∧ w' = w := by
  obtain ⟨vs, UU, x, y, e1, h2, h3, h4, h5, h6, h7⟩ := h
  cases e1
  exact heldIntSSS_any E hE vs UU a c 1 (by omega) (by omega) w h2 h3 h4 h5 h6 h7
end Go.Proofs.Ythbkclgdoopbpaa
