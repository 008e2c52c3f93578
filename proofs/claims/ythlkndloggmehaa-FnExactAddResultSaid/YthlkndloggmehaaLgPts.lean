/-
  Leagues: the points of all teams in a row (the model's), and as they are handed back.
-/
import Derived.Test.YthlkndloggmehaaLgUnb
import Derived.Test.YthlkndloggmehaaLgPtsM
namespace Go.Proofs.Ythlkndloggmehaa
open Go.RowKit
set_option linter.unusedVariables false
set_option linter.unusedSimpArgs false

theorem infoInt : (Try.prog.info? 3).map (fun i => (i.zero, i.size, i.bytes)) = some (some (.int .i64 0), 1, 8) := by kernel_rfl
/-- The block g holds these ints, and may be written. -/
def RowAt (w : World) (g : Nat) (e : TypeId) (cs : List Int) : Prop := w.heap[g]? = some (.cells (ints cs).toArray e (0, 0))

theorem RowAt.lt {w : World} {g : Nat} {e : TypeId} {cs : List Int} (h : RowAt w g e cs) : g < w.heap.size := (Array.getElem?_eq_some_iff.1 h).1
theorem RowAt.cell {w : World} {g : Nat} {e : TypeId} {cs : List Int} (h : RowAt w g e cs) {j : Nat} (hj : j < cs.length) : w.cell? ⟨g, j, none⟩ = some (.int .i64 (cs.getD j 0)) := by
  rw [cell_of_row w g j _ e _ h, List.getElem?_toArray, ints_get cs j hj]
theorem RowAt.free {w : World} {g : Nat} {e : TypeId} {cs : List Int} (h : RowAt w g e cs) (j : Nat) : w.frozen? ⟨g, j, none⟩ = false := frozen_of_row w g j _ e h
theorem RowAt.put {w : World} {g : Nat} {e : TypeId} {cs : List Int} (h : RowAt w g e cs) {j : Nat} (hj : j < cs.length) (x : Int) : RowAt (w.setCell ⟨g, j, none⟩ (.int .i64 x)) g e (cs.set j x) := by
  unfold RowAt at h ⊢
  have hs : g < w.heap.size := (Array.getElem?_eq_some_iff.1 h).1
  have hv : w.heap[g] = .cells (ints cs).toArray e (0, 0) := (Array.getElem?_eq_some_iff.1 h).2
  simp only [World.setCell]
  rw [Array.getElem?_eq_getElem (by simpa using hs), Array.getElem_modify_self, hv]
  simp [ints]
theorem RowAt.keep {w w' : World} {g : Nat} {e : TypeId} {cs : List Int} (h : RowAt w g e cs) (hb : Below w.heap.size w w') : RowAt w' g e cs := by
  unfold RowAt at h ⊢
  rw [hb.block g (RowAt.lt h)]; exact h
theorem RowAt.drewN {w : World} {g : Nat} {e : TypeId} {cs : List Int} (h : RowAt w g e cs) (n : Nat) : RowAt (w.drewN n) g e cs := h
theorem RowAt.own {w : World} {g base : Nat} {e : TypeId} {cs : List Int} (h : RowAt w g e cs) (hb : base ≤ g) (hl : cs.length ≤ maxLen) : w.ownsRow base e 1 (.slice (some ⟨g, 0, none⟩) cs.length cs.length) cs.length (ints cs) :=
  ⟨by rw [ints_len, Nat.mul_one], .inr ⟨g, cs.length, (ints cs).toArray, rfl, hb, h, Nat.le_refl _, hl, by simp [ints_len], by
    rw [List.take_of_length_le]
    simp [ints_len]⟩⟩
theorem RowAt.made {w : World} {g base n : Nat} {e : TypeId} (h : w.ownsRow base e 1 (.slice (some ⟨g, 0, none⟩) n n) n (madeCells #[.int .i64 0] n).toList) : RowAt w g e (List.replicate n 0) ∧ base ≤ g := by
  obtain ⟨hl, h | ⟨g', cap, cur, hv, hg, hh, hn, hcap, hcs, htk⟩⟩ := h
  · exact absurd h.1 (by simp)
  · cases hv
    refine ⟨?_, hg⟩
    unfold RowAt
    rw [hh]
    rw [toList_madeCells_one, List.take_of_length_le (by simp [hcs])] at htk
    have : cur = (ints (List.replicate n 0)).toArray := by
      apply Array.toList_inj.1
      rw [htk]; simp [ints]
    rw [this]

/-- Only the block g has been written. -/
def OnlyG (g : Nat) (w w' : World) : Prop := w'.heap.size = w.heap.size ∧ (∀ k, k ≠ g → w'.heap[k]? = w.heap[k]?) ∧ ∀ (B : Nat) (w0 : World), B ≤ g → Below B w0 w → Below B w0 w'
theorem OnlyG.one (g o : Nat) (w : World) (v : Value) : OnlyG g w (w.setCell ⟨g, o, none⟩ v) :=
  ⟨by simp, fun k h => Below.heap_setCell _ _ _ _ h, fun B w0 hB hb => hb.setCell hB _⟩
theorem OnlyG.trans {g : Nat} {w w1 w2 : World} (h : OnlyG g w w1) (h' : OnlyG g w1 w2) : OnlyG g w w2 :=
  ⟨h'.1.trans h.1, fun k e => (h'.2.1 k e).trans (h.2.1 k e), fun B w0 hB hb => h'.2.2 B w0 hB (h.2.2 B w0 hB hb)⟩
theorem ObAt.only {w w' : World} {g g' : Nat} {T : TypeId} {cs : Array Value} (h : ObAt w g T cs) (ho : OnlyG g' w w') (hne : g ≠ g') : ObAt w' g T cs := by
  unfold ObAt at *; rw [ho.2.1 g hne]; exact h

theorem rowF_add {T : Nat} {f : Int → Int} {h : Nat} (hh : h < T) (x : Int) : (rowF T f).set h (f h + x) = rowF T (fun i => f i + if i = (h : Int) then x else 0) := by
  rw [rowF_set hh]
  refine rowF_congr fun i _ _ => ?_
  by_cases e : i = (h : Int)
  · rw [if_pos e, if_pos e, e]
  · rw [if_neg e, if_neg e]; omega

/-- The row of all points. -/
def ptsRow (T : Nat) (wn : Int) (l : List Rs) : List Int := rowF T fun i => ptsT wn l i

end Go.Proofs.Ythlkndloggmehaa
