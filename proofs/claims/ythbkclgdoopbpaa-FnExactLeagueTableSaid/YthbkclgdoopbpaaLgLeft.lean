/-
  Leagues: the games that are left: both sides.
-/
import Derived.Test.YthbkclgdoopbpaaLgPair
import Derived.Test.YthbkclgdoopbpaaLgDir
namespace Go.Proofs.Ythbkclgdoopbpaa
open Go.RowKit
set_option linter.unusedVariables false
set_option linter.unusedSimpArgs false

def prsR (T k : Nat) : List (Int × Int) := (List.range k).flatMap fun (h : Nat) => (List.range T).map fun (a : Nat) => ((h : Int), (a : Int))
def rowTo (k j : Nat) : List (Int × Int) := (List.range j).map fun (a : Nat) => ((k : Int), (a : Int))
def leftTo (T : Nat) (l : List Rs) (k j : Nat) : List (Int × Int) := (prsR T k ++ rowTo k j).filter fun p => leftB l p.1 p.2
theorem leftTo_all (T : Nat) (l : List Rs) : leftTo T l T 0 = leftL T l := by simp [leftTo, leftL, prs, prsR, rowTo]
theorem leftTo_zero (T : Nat) (l : List Rs) : leftTo T l 0 0 = [] := rfl
theorem leftTo_row (T : Nat) (l : List Rs) (k : Nat) : leftTo T l k T = leftTo T l (k + 1) 0 := by
  simp [leftTo, prsR, rowTo, List.range_succ]
theorem leftTo_in (T : Nat) (l : List Rs) (k j : Nat) (h : leftB l k j = true) : leftTo T l k (j + 1) = leftTo T l k j ++ [((k : Int), (j : Int))] := by
  simp [leftTo, rowTo, List.range_succ, h]
theorem leftTo_out (T : Nat) (l : List Rs) (k j : Nat) (h : leftB l k j = false) : leftTo T l k (j + 1) = leftTo T l k j := by
  simp [leftTo, rowTo, List.range_succ, h]
theorem prsR_len (T : Nat) : ∀ k, (prsR T k).length = k * T
  | 0 => by simp [prsR]
  | k + 1 => by
    have := prsR_len T k
    have e : prsR T (k + 1) = prsR T k ++ rowTo k T := by simp [prsR, rowTo, List.range_succ]
    rw [e, List.length_append, this, rowTo, List.length_map, List.length_range, Nat.add_mul, Nat.one_mul]
theorem leftTo_len (T : Nat) (hT : T ≤ 8) (l : List Rs) (k j : Nat) (hk : k ≤ T) (hj : j ≤ T) : (leftTo T l k j).length ≤ 72 := by
  have h1 := List.length_filter_le (fun p : Int × Int => leftB l p.1 p.2) (prsR T k ++ rowTo k j)
  have h2 := prsR_len T k
  have h3 : (rowTo k j).length = j := by simp [rowTo]
  have h4 : k * T ≤ 8 * 8 := Nat.mul_le_mul (by omega) hT
  rw [List.length_append, h2, h3] at h1
  unfold leftTo
  omega
theorem leftB_eq (l : List Rs) (h a : Int) : leftB l h a = (decide (h ≠ a) && !hasG l h a) := rfl

theorem owns_block {w : World} {B T n size : Nat} {v : Value} {xs : List Value} (h : w.ownsRow B T size v n xs) (g : Nat) (hg : v.ownBlock = some g) : B ≤ g := (owns_ge h hg).1
theorem add_zero_addr (g : Nat) : ((⟨g, 0, none⟩ : Addr).add 0) = ⟨g, 0, none⟩ := by simp [Addr.add]
theorem infoSlice : (Try.prog.info? 25).map (fun i => (i.zero, i.size, i.bytes)) = some (some (.slice none 0 0), 1, 24) := by kernel_rfl
theorem new_head (wr : World) (o : Obj) (v : Value) (t : TypeId) : ∀ j' u, ([v] : List Value)[j']? = some u → ((wr.alloc o).alloc (.cells #[v] t)).cell? ((⟨wr.heap.size + 1, 0, none⟩ : Addr).add j') = some u := by
  intro j' u hu
  have e0 : j' = 0 := by have := (List.getElem?_eq_some_iff.1 hu).1; simp at this; omega
  subst e0
  simp at hu; subst hu
  rw [add_zero_addr]
  have := cell_of_row _ _ 0 _ _ _ (heap_alloc_last (wr.alloc o) (.cells #[v] t))
  rw [show (wr.alloc o).heap.size = wr.heap.size + 1 by simp] at this
  exact this
theorem pair_grown {B : Nat} {w wr w5 : World} {v : Value} {n : Nat} {xs : List Value} {T : TypeId} {o o' : Obj} (h : wr.ownsRow B T 1 v n xs) (hB : B ≤ wr.heap.size) (hbel : Below B w wr) (hg : ((wr.alloc o).alloc o').grownBy w5 v.ownBlock) : Below B w w5 :=
  ((hbel.alloc (by omega) _).alloc (by simp; omega) _).grown hg (by simp; omega) (fun g hg => by have := owns_block h g hg; omega)


/-- Rows of two, the league in its block. -/
def LfAt (w : World) (t wn : Int) (lv : Value) (L : List (Int × Int)) (v : Value) (wr : World) : Prop := PairD w.heap.size L v wr ∧ BoxS w t wn lv wr
theorem LfAt.keep {w : World} {t wn : Int} {lv : Value} {L : List (Int × Int)} {v : Value} {wr w' : World} (h : LfAt w t wn lv L v wr) (hb : Below wr.heap.size wr w') : LfAt w t wn lv L v w' := ⟨h.1.keep hb, h.2.keep hb⟩
/-- One row more. -/
theorem LfAt.more {w : World} {t wn : Int} {lv : Value} {L : List (Int × Int)} {v : Value} {w2 : World} (h : LfAt w t wn lv L v w2) (x y : Int) {vs : List Value} (hvs : w2.ownsRow w.heap.size 25 1 v L.length vs ∧ (Heads vs (rows2 L) ∧ (∀ j, j < L.length → RowAt w2 (blk vs j) 3 ((rows2 L).getD j []) ∧ w.heap.size ≤ blk vs j) ∧ Apart vs (rows2 L))) {v' : Value} {w5 : World}
    (ho : w5.ownsRow w.heap.size 25 1 v' (L.length + 1) (vs ++ [.slice (some ⟨w2.heap.size, 0, none⟩) 2 2])) (hg : ((w2.alloc (.cells #[.int .i64 x, .int .i64 y] 3)).alloc (.cells #[.slice (some ⟨w2.heap.size, 0, none⟩) 2 2] 25)).grownBy w5 v.ownBlock) :
    LfAt w t wn lv (L ++ [(x, y)]) v' w5 := by
  have hbs := h.2.2.size
  refine ⟨h.1.snoc' hbs ⟨vs, hvs.1, hvs.2, ho⟩ hg, ?_, pair_grown hvs.1 hbs h.2.2 hg⟩
  have hA := (h.2.1.old (.cells #[.int .i64 x, .int .i64 y] 3)).old (.cells #[.slice (some ⟨w2.heap.size, 0, none⟩) 2 2] 25)
  exact hA.grow (T' := 25) (by decide) ((hvs.1.alloc _).alloc _) hg

end Go.Proofs.Ythbkclgdoopbpaa
