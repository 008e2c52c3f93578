/-
  Races: the model's tables: rows that are appended one behind the other.
-/
import Derived.Test.YthlkndloggmehaaDoorRaOn
namespace Go.Proofs.YthlkndloggmehaaDoor
open Go.RowKit
set_option linter.unusedVariables false
set_option linter.unusedSimpArgs false

theorem owns_below {B : Nat} {e : TypeId} {k : Nat} {v : Value} {n : Nat} {xs : List Value} {w w' : World} (h : w.ownsRow B e k v n xs) (hb : Below w.heap.size w w') : w'.ownsRow B e k v n xs := by
  obtain ⟨h1, h2⟩ := h
  refine ⟨h1, ?_⟩
  rcases h2 with h2 | ⟨g, cap, cur, hv, hg, hh, r⟩
  · exact Or.inl h2
  · exact Or.inr ⟨g, cap, cur, hv, hg, by rw [hb.block g (Array.getElem?_eq_some_iff.1 hh).1]; exact hh, r⟩
theorem owns_heap {w w' : World} {T base n size : Nat} {v : Value} {xs : List Value} (ho : w.ownsRow base T size v n xs) (hs : ∀ k, v.ownBlock = some k → w'.heap[k]? = w.heap[k]?) : w'.ownsRow base T size v n xs := by
  obtain ⟨hl, ⟨rfl, h2⟩ | ⟨g', cap, cur, rfl, hb, hh, r⟩⟩ := ho
  · exact ⟨hl, .inl ⟨rfl, h2⟩⟩
  · refine ⟨hl, .inr ⟨g', cap, cur, rfl, hb, ?_, r⟩⟩
    rw [hs g' (by simp [Value.ownBlock])]; exact hh
theorem owns_ge {w : World} {T base n size : Nat} {v : Value} {xs : List Value} (ho : w.ownsRow base T size v n xs) {g : Nat} (e : v.ownBlock = some g) : base ≤ g ∧ g < w.heap.size := by
  obtain ⟨hl, ⟨rfl, h2⟩ | ⟨g', cap, cur, rfl, hb, hh, r⟩⟩ := ho
  · simp [Value.ownBlock] at e
  · simp [Value.ownBlock] at e
    subst e
    exact ⟨hb, (Array.getElem?_eq_some_iff.1 hh).1⟩
theorem owns_apart {w : World} {g T T' base n size : Nat} {v : Value} {xs : List Value} {cs : Array Value} {fr : Nat × Nat} (h : w.heap[g]? = some (.cells cs T fr)) (hT : T ≠ T') (ho : w.ownsRow base T' size v n xs) : v.ownBlock ≠ some g := by
  obtain ⟨_, ⟨rfl, _⟩ | ⟨g', cap, cur, rfl, _, hh, _⟩⟩ := ho
  · simp [Value.ownBlock]
  · intro e
    simp [Value.ownBlock] at e
    subst e
    rw [hh] at h
    injection h with h
    injection h with h1 h2 h3
    exact hT h2.symm
/-- What a function hands back whose results are a row of its own and a bool. -/
def RowR (L : List Int) (o : Bool) (w : World) (e : Ending) (w' : World) : Prop :=
  ∃ v, e = .returned (.tuple #[v, .bool o]) ∧ w'.ownsRow w.heap.size 3 1 v L.length (ints L) ∧ Below w.heap.size w w'

/-- The heads of a table's rows. -/
def hds (bk : Nat → Nat) (n W : Nat) : List Value := (List.range n).map fun a => Value.slice (some ⟨bk a, 0, none⟩) W W
theorem hds_len (bk : Nat → Nat) (n W : Nat) : (hds bk n W).length = n := by simp [hds]
theorem hds_succ (bk : Nat → Nat) (n W nb : Nat) : hds bk n W ++ [Value.slice (some ⟨nb, 0, none⟩) W W] = hds (fun a => if a = n then nb else bk a) (n + 1) W := by
  unfold hds
  rw [List.range_succ, List.map_append]
  congr 1
  · refine List.map_congr_left fun a ha => ?_
    have hne : a ≠ n := by have := List.mem_range.1 ha; omega
    simp [hne]
  · simp
/-- A table of the model's: n rows of W numbers. -/
structure TabW (w wr : World) (v : Value) (bk : Nat → Nat) (n W : Nat) (G : Int → Int → Int) : Prop where
  hd : wr.ownsRow w.heap.size 63 1 v n (hds bk n W)
  rows : ∀ a, a < n → RowAt wr (bk a) 3 (rowF G W a)
  lo : ∀ a, a < n → w.heap.size ≤ bk a
  ap : ∀ a a', a < n → a' < n → a ≠ a' → bk a ≠ bk a'
  bel : Below w.heap.size w wr
theorem TabW.nil (w : World) (bk : Nat → Nat) (W : Nat) (G : Int → Int → Int) : TabW w w (.slice none 0 0) bk 0 W G :=
  ⟨⟨rfl, .inl ⟨rfl, rfl⟩⟩, fun a ha => absurd ha (Nat.not_lt_zero _), fun a ha => absurd ha (Nat.not_lt_zero _), fun a a' ha => absurd ha (Nat.not_lt_zero _), Below.refl _ _⟩
theorem TabW.keep {w wr w' : World} {v : Value} {bk : Nat → Nat} {n W : Nat} {G : Int → Int → Int} (h : TabW w wr v bk n W G) (hb : Below wr.heap.size wr w') : TabW w w' v bk n W G :=
  ⟨owns_below h.hd hb, fun a ha => (h.rows a ha).keep hb, h.lo, h.ap, h.bel.trans (hb.mono h.bel.size)⟩
theorem TabW.congr {w wr : World} {v : Value} {bk : Nat → Nat} {n W : Nat} {G H : Int → Int → Int} (h : TabW w wr v bk n W G) (hG : ∀ a b : Nat, a < n → b < W → H a b = G a b) : TabW w wr v bk n W H :=
  ⟨h.hd, fun a ha => by
    have e2 : rowF H W a = rowF G W a := by
      unfold rowF
      exact List.map_congr_left fun b hb => hG a b ha (List.mem_range.1 hb)
    rw [e2]; exact h.rows a ha, h.lo, h.ap, h.bel⟩
theorem TabW.shape {w wr : World} {v : Value} {bk : Nat → Nat} {n W : Nat} {G : Int → Int → Int} (h : TabW w wr v bk n W G) (hn : 0 < n) :
    ∃ g cap, v = .slice (some ⟨g, 0, none⟩) n cap ∧ ∀ wq a, (∃ bq : Below wr.heap.size wr wq, True) → a < n → wq.cell? ⟨g, a, .none⟩ = some (.slice (some ⟨bk a, 0, .none⟩) W W) := by
  obtain ⟨hl, ⟨_, h2⟩ | ⟨g, cap, cur, rfl, hb, hh, hn', hcap, hcs, htk⟩⟩ := h.hd
  · omega
  · refine ⟨g, cap, rfl, fun wq a hq ha => ?_⟩
    obtain ⟨bq, _⟩ := hq
    rw [bq.cell (p := ⟨g, a, none⟩) (Array.getElem?_eq_some_iff.1 hh).1, cell_of_row wr g a _ _ _ hh, ← Array.getElem?_toList]
    have : (cur.toList.take (n * 1))[a]? = (hds bk n W)[a]? := by rw [htk]
    rw [List.getElem?_take_of_lt (by omega)] at this
    rw [this]; simp [hds, ha]
theorem TabW.heads {w wr : World} {v : Value} {bk : Nat → Nat} {n W g cap : Nat} {G : Int → Int → Int} (h : TabW w wr v bk n W G) (hv : v = .slice (some ⟨g, 0, none⟩) n cap) {a : Nat} (ha : a < n) : wr.cell? ⟨g, a, none⟩ = some (.slice (some ⟨bk a, 0, none⟩) W W) := by
  obtain ⟨g', cap', e, hc⟩ := h.shape (by omega)
  rw [hv] at e
  injection e with e1 e2 e3
  have e4 := congrArg Addr.block (Option.some.inj e1)
  simp only at e4
  rw [e4]
  exact hc wr a ⟨Below.refl _ _, trivial⟩ ha
theorem TabW.cell {w wr : World} {v : Value} {bk : Nat → Nat} {n W : Nat} {G : Int → Int → Int} (h : TabW w wr v bk n W G) {a b : Nat} (ha : a < n) (hb : b < W) : wr.cell? ⟨bk a, b, none⟩ = some (.int .i64 (G a b)) := by
  have := (h.rows a ha).cell (j := b) (by rw [rowF_len]; exact hb)
  rwa [rowF_get _ hb] at this
theorem TabW.put {w wr : World} {v : Value} {bk : Nat → Nat} {n W : Nat} {G H : Int → Int → Int} (h : TabW w wr v bk n W G) {x y : Nat} (hx : x < n) (hy : y < W) {u : Int} (hH : ∀ a b : Nat, a < n → b < W → H a b = if a = x ∧ b = y then u else G a b) :
    TabW w (wr.setCell ⟨bk x, y, none⟩ (.int .i64 u)) v bk n W H := by
  refine ⟨owns_heap h.hd (fun k hk => Below.heap_setCell _ _ _ _ (fun e => owns_apart (h.rows x hx) (by decide) h.hd (by rw [hk, e]))), fun a ha => ?_, h.lo, h.ap, h.bel.setCell (p := ⟨bk x, y, none⟩) (h.lo x hx) _⟩
  by_cases e : a = x
  · subst e
    have h1 := (h.rows a ha).put (j := y) (by rw [rowF_len]; exact hy) u
    have e2 : rowF H W a = (rowF G W a).set y u := by
      apply List.ext_getElem
      · simp [rowF]
      · intro i h1 h2
        have hi : i < W := by simpa [rowF] using h1
        rw [List.getElem_set]
        simp only [rowF, List.getElem_map, List.getElem_range]
        rw [hH a i ha hi]
        by_cases q : y = i
        · rw [if_pos ⟨rfl, q.symm⟩, if_pos q]
        · rw [if_neg (fun h => q h.2.symm), if_neg q]
    rw [e2]; exact h1
  · have h1 := h.rows a ha
    have e2 : rowF H W a = rowF G W a := by
      unfold rowF
      refine List.map_congr_left fun b hb => ?_
      rw [hH a b ha (List.mem_range.1 hb), if_neg (fun h => e h.1)]
    rw [e2]
    unfold RowAt at h1 ⊢
    rw [Below.heap_setCell _ _ _ _ (by simp; exact h.ap a x ha hx e)]; exact h1
theorem row_zero (W n : Nat) (G : Int → Int → Int) (hG : ∀ b : Nat, b < W → G n b = 0) : rowF G W n = List.replicate W 0 := by
  apply List.ext_getElem
  · simp [rowF]
  · intro i h1 h2
    have hi : i < W := by simpa [rowF] using h1
    simp [rowF, hG i hi]
theorem TabW.snoc {w wr w2 w5 : World} {v v' : Value} {bk : Nat → Nat} {n W : Nat} {G : Int → Int → Int} {o : Obj} (h : TabW w wr v bk n W G) (hb : Below wr.heap.size wr w2) (hr : RowAt w2 wr.heap.size 3 (List.replicate W 0)) (hG : ∀ b : Nat, b < W → G n b = 0)
    (ho : w5.ownsRow w.heap.size 63 1 v' (n + 1) (hds bk n W ++ [Value.slice (some ⟨wr.heap.size, 0, none⟩) W W])) (hg : (w2.alloc o).grownBy w5 v.ownBlock) :
    TabW w w5 v' (fun a => if a = n then wr.heap.size else bk a) (n + 1) W G := by
  have hsz := h.bel.size
  have hsz2 := hb.size
  have hv2 := owns_below h.hd hb
  have hlt : ∀ a, a < n → bk a < wr.heap.size := fun a ha => (h.rows a ha).lt
  have hkeep : ∀ k, k < w2.heap.size → v.ownBlock ≠ some k → w5.heap[k]? = w2.heap[k]? := fun k hk hne => by
    rw [hg.block k (by simp; omega) (fun e => hne e.symm), Below.heap_alloc _ _ _ (by omega)]
  refine ⟨by rw [← hds_succ]; exact ho, fun a ha => ?_, fun a ha => ?_, fun a a' ha ha' hne => ?_, ?_⟩
  · by_cases e : a = n
    · subst e
      rw [if_pos rfl, row_zero _ _ _ hG]
      have hrl := hr.lt
      unfold RowAt at hr ⊢
      rw [hkeep _ hrl (owns_apart hr (by decide) hv2)]
      exact hr
    · rw [if_neg e]
      have h1 := (h.rows a (by omega)).keep hb
      unfold RowAt at h1 ⊢
      rw [hkeep _ (by have := hlt a (by omega); omega) (owns_apart h1 (by decide) hv2)]
      exact h1
  · show w.heap.size ≤ if a = n then wr.heap.size else bk a
    split
    · exact hsz
    · exact h.lo a (by omega)
  · show (if a = n then wr.heap.size else bk a) ≠ (if a' = n then wr.heap.size else bk a')
    by_cases e : a = n
    · have := hlt a' (by omega)
      rw [if_pos e, if_neg (by omega)]; omega
    · by_cases e' : a' = n
      · have := hlt a (by omega)
        rw [if_neg e, if_pos e']; omega
      · rw [if_neg e, if_neg e']; exact h.ap a a' (by omega) (by omega) hne
  · exact ((h.bel.trans (hb.mono hsz)).alloc (by omega) _).grown hg (by simp; omega) (fun g hg => (owns_ge h.hd hg).1)

end Go.Proofs.YthlkndloggmehaaDoor
