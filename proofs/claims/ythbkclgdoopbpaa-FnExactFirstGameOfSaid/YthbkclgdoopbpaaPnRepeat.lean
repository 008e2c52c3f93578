/-
  Pins: the sheet as it is made: slices.Repeat of one empty frame.
-/
import Derived.Test.YthbkclgdoopbpaaPnStand
import Derived.Test.YthbkclgdoopbpaaPnCopy
import Derived.Maps.AppendAt
namespace Go.Proofs.Ythbkclgdoopbpaa
open Go.RowKit
set_option linter.unusedVariables false
set_option linter.unusedSimpArgs false

/-- The cells of a sheet. -/
def sheetC (S : List (List Int)) : List Value := S.flatMap fun bs => [.int .i64 (bs.getD 0 (-1)), .int .i64 (bs.getD 1 (-1)), .int .i64 (bs.getD 2 (-1))]
theorem sheetC_len (S : List (List Int)) : (sheetC S).length = 3 * S.length := by
  induction S with
  | nil => rfl
  | cons d l ih => simp only [sheetC, List.flatMap_cons, List.length_append] at *; simp at *; omega
theorem sheetC_append (l m : List (List Int)) : sheetC (l ++ m) = sheetC l ++ sheetC m := by simp [sheetC]
theorem sheetC_get : ∀ (S : List (List Int)) (j : Nat), j < S.length → (sheetC S)[j * 3]? = some (.int .i64 ((S.getD j []).getD 0 (-1))) ∧ (sheetC S)[j * 3 + 1]? = some (.int .i64 ((S.getD j []).getD 1 (-1))) ∧ (sheetC S)[j * 3 + 2]? = some (.int .i64 ((S.getD j []).getD 2 (-1)))
  | d :: l, 0, _ => by simp [sheetC]
  | d :: l, j + 1, h => by
    have := sheetC_get l j (by simpa using h)
    simp only [sheetC, List.flatMap_cons] at *
    rw [show (j + 1) * 3 = j * 3 + 1 + 1 + 1 from by omega]
    simpa using this
def ShAt (w : World) (g : Nat) (S : List (List Int)) : Prop := w.heap[g]? = some (.cells (sheetC S).toArray 69 (0, 0))
theorem ShAt.lt {w : World} {g : Nat} {S : List (List Int)} (h : ShAt w g S) : g < w.heap.size := (Array.getElem?_eq_some_iff.1 h).1
theorem ShAt.keep {w w' : World} {g : Nat} {S : List (List Int)} (h : ShAt w g S) (hb : Below w.heap.size w w') : ShAt w' g S := by
  unfold ShAt at *; rw [hb.block _ (Array.getElem?_eq_some_iff.1 h).1]; exact h
theorem ShAt.cell {w : World} {g : Nat} {S : List (List Int)} (h : ShAt w g S) (k : Nat) : w.cell? ⟨g, k, none⟩ = (sheetC S)[k]? := by
  rw [cell_of_row w g k _ _ _ h]; simp
theorem ShAt.cells {w : World} {g : Nat} {S : List (List Int)} (h : ShAt w g S) {j : Nat} (hj : j < S.length) :
    w.cell? ⟨g, j * 3, none⟩ = some (.int .i64 ((S.getD j []).getD 0 (-1))) ∧ w.cell? ⟨g, j * 3 + 1, none⟩ = some (.int .i64 ((S.getD j []).getD 1 (-1))) ∧ w.cell? ⟨g, j * 3 + 2, none⟩ = some (.int .i64 ((S.getD j []).getD 2 (-1))) := by
  obtain ⟨h0, h1, h2⟩ := sheetC_get S j hj
  exact ⟨by rw [h.cell]; exact h0, by rw [h.cell]; exact h1, by rw [h.cell]; exact h2⟩
theorem sheetC_empty (F : Nat) : sheetC (List.replicate F []) = List.replicate (3 * F) (.int .i64 (-1)) := by
  induction F with
  | zero => rfl
  | succ F ih =>
    rw [List.replicate_succ, show 3 * (F + 1) = 3 * F + 1 + 1 + 1 from by omega]
    simp only [List.replicate_succ]
    simp only [sheetC, List.flatMap_cons] at *
    rw [ih]; rfl

theorem add_pl (b o j : Nat) : (⟨b, o, none⟩ : Addr).add j = ⟨b, o + j, none⟩ := by unfold Addr.add; split <;> simp_all

/-- The first 3 n cells of a row hold -1. -/
def Neg (cur : Array Value) (n F : Nat) : Prop := cur.size = F * 3 ∧ ∀ j, j < n * 3 → cur[j]? = some (.int .i64 (-1))
theorem Neg.all {cur : Array Value} {F : Nat} (h : Neg cur F F) : cur = (sheetC (List.replicate F [])).toArray := by
  obtain ⟨h1, h2⟩ := h
  apply Array.ext'
  rw [sheetC_empty]
  apply List.ext_getElem?
  intro i
  by_cases hi : i < F * 3
  · have := h2 i hi
    rw [Array.getElem?_toList, this, List.getElem?_replicate, if_pos (by omega)]
  · rw [List.getElem?_eq_none (by simp; omega), List.getElem?_eq_none (by simp; omega)]
theorem Neg.step {cur : Array Value} {n m F : Nat} (h : Neg cur n F) (hm : n + m ≤ F) :
    Neg (cur.toList.take (n * 3) ++ List.replicate (m * 3) (Value.int IntKind.i64 (-1)) ++ cur.toList.drop (n * 3 + (List.replicate (m * 3) (Value.int IntKind.i64 (-1))).length)).toArray (n + m) F := by
  obtain ⟨h1, h2⟩ := h
  refine ⟨by simp; omega, fun j hj => ?_⟩
  have hlen : cur.toList.length = F * 3 := by simpa using h1
  by_cases hj1 : j < n * 3
  · have := h2 j hj1
    simp only [List.getElem?_toArray, List.append_assoc]
    rw [List.getElem?_append_left (by simp; omega), List.getElem?_take_of_lt hj1, Array.getElem?_toList]
    exact this
  · simp only [List.getElem?_toArray, List.append_assoc]
    rw [List.getElem?_append_right (by simp; omega)]
    have e : (cur.toList.take (n * 3)).length = n * 3 := by simp; omega
    rw [e, List.getElem?_append_left (by simp; omega), List.getElem?_replicate, if_pos (by omega)]

theorem row_made {w : World} {base g n c : Nat} {e : TypeId} {xs : List Value} (h : w.ownsRow base e 3 (.slice (some ⟨g, 0, none⟩) n c) n xs) :
    ∃ cur, w.heap[g]? = some (.cells cur e (0, 0)) ∧ cur.size = c * 3 := by
  obtain ⟨hl, h | ⟨g', cap, cur, hv, hg, hh, hn, hcap, hcs, htk⟩⟩ := h
  · exact absurd h.1 (by simp)
  · cases hv
    exact ⟨cur, hh, hcs⟩

theorem infoFrame : (Try.prog.info? 69).map (fun i => (i.zero, i.size, i.bytes)) = some (some (.agg #[.int .i64 0, .int .i64 0, .int .i64 0]), 3, 24) := by kernel_rfl

theorem info3 : ∃ i, Try.prog.info? 69 = some i ∧ i.size = 3 := by
  have h : (Try.prog.info? 69).map (·.size) = some 3 := by kernel_rfl
  cases hi : Try.prog.info? 69 with
  | none => rw [hi] at h; cases h
  | some i => rw [hi] at h; exact ⟨i, rfl, by simpa using h⟩
theorem cells3 : Try.prog.cellsOf 69 = 3 := by kernel_rfl
theorem sliced_lo (g k F : Nat) (hk : k < F) : sliced (some ⟨g, 0, none⟩) ((k : Nat) : Int).toNat F F 3 = .slice (some ⟨g, k * 3, none⟩) (F - k) (F - k) := by
  have hne : ¬ F = k := by omega
  have e : (⟨g, 0, none⟩ : Addr).add (k * 3) = ⟨g, k * 3, none⟩ := by unfold Addr.add; split <;> simp_all
  unfold sliced
  rw [Int.toNat_natCast, if_neg hne, Option.map_some, e]
theorem sliced_hi (g k F : Nat) (hk : k < F) : sliced (some ⟨g, 0, none⟩) 0 ((k : Nat) : Int).toNat F 3 = .slice (some ⟨g, 0, none⟩) k F := by
  unfold sliced
  rw [Int.toNat_natCast, if_neg (by omega), Option.map_some, Nat.zero_mul]; rfl
def RepAt (w : World) (g F : Nat) (n : Value) (wr : World) : Prop := ∃ k : Nat, n = .int .i64 k ∧ 1 ≤ k ∧ k ≤ F ∧ (∃ cur, wr.heap[g]? = some (.cells cur 69 (0, 0)) ∧ Neg cur k F) ∧ Below g w wr

end Go.Proofs.Ythbkclgdoopbpaa
