/-
  Pins: tallies as arrays by value, the book of tallies.
-/
import Derived.Test.YthbkclgdoopbpaaPtLeft
import Derived.Laws.OwnMore
import Derived.OwnWalk
import Derived.Deep.CutRange
import Derived.Maps.AppendAt
import Derived.Maps.Own
import Derived.Maps.OwnOps
import Derived.Maps.OwnSet
import Derived.Maps.Views
import Derived.DeepKeys4
import Derived.LoopTactic
namespace Go.Proofs.Ythbkclgdoopbpaa
open Go.RowKit Go.Maps
set_option linter.unusedVariables false
set_option linter.unusedSimpArgs false

theorem infoIntT : (Try.prog.info? 3).map (fun i => (i.zero, i.size, i.bytes)) = some (some (.int .i64 0), 1, 8) := by kernel_rfl
theorem below_newT (w : World) (o : Obj) : Below w.heap.size w (w.alloc o) := (Below.refl _ _).alloc (Nat.le_refl _) _
/-- The block g holds these ints, and may be written. -/
def RowAt (w : World) (g : Nat) (e : TypeId) (cs : List Int) : Prop := w.heap[g]? = some (.cells (ints cs).toArray e (0, 0))

theorem RowAt.lt {w : World} {g : Nat} {e : TypeId} {cs : List Int} (h : RowAt w g e cs) : g < w.heap.size := (Array.getElem?_eq_some_iff.1 h).1
theorem RowAt.cell {w : World} {g : Nat} {e : TypeId} {cs : List Int} (h : RowAt w g e cs) {j : Nat} (hj : j < cs.length) : w.cell? ⟨g, j, none⟩ = some (.int .i64 (cs.getD j 0)) := by
  rw [cell_of_row w g j _ e _ h, List.getElem?_toArray, ints_get cs j hj]
theorem RowAt.free {w : World} {g : Nat} {e : TypeId} {cs : List Int} (h : RowAt w g e cs) (j : Nat) : w.frozen? ⟨g, j, none⟩ = false := frozen_of_row w g j _ e h
theorem RowAt.put {w : World} {g : Nat} {e : TypeId} {cs : List Int} (h : RowAt w g e cs) {j : Nat} (hj : j < cs.length) (x : Int) : RowAt (w.setCell ⟨g, j, none⟩ (.int .i64 x)) g e (cs.set j x) := by
  unfold RowAt at h ⊢
  have hs : g < w.heap.size := (Array.getElem?_eq_some_iff.1 h).1
  have hv : w.heap[g] = .cells (ints cs).toArray e (0, 0) := (Array.getElem?_eq_some_iff.1 h).2
  simp only [World.setCell]
  rw [Array.getElem?_eq_getElem (by simpa using hs), Array.getElem_modify_self, hv]
  simp [ints]
theorem RowAt.keep {w w' : World} {g : Nat} {e : TypeId} {cs : List Int} (h : RowAt w g e cs) (hb : Below w.heap.size w w') : RowAt w' g e cs := by
  unfold RowAt at h ⊢
  rw [hb.block g (RowAt.lt h)]; exact h
theorem RowAt.drewN {w : World} {g : Nat} {e : TypeId} {cs : List Int} (h : RowAt w g e cs) (n : Nat) : RowAt (w.drewN n) g e cs := h
theorem RowAt.own {w : World} {g base : Nat} {e : TypeId} {cs : List Int} (h : RowAt w g e cs) (hb : base ≤ g) (hl : cs.length ≤ maxLen) : w.ownsRow base e 1 (.slice (some ⟨g, 0, none⟩) cs.length cs.length) cs.length (ints cs) :=
  ⟨by rw [ints_len, Nat.mul_one], .inr ⟨g, cs.length, (ints cs).toArray, rfl, hb, h, Nat.le_refl _, hl, by simp [ints_len], by
    rw [List.take_of_length_le]
    simp [ints_len]⟩⟩
theorem RowAt.made {w : World} {g base n : Nat} {e : TypeId} (h : w.ownsRow base e 1 (.slice (some ⟨g, 0, none⟩) n n) n (madeCells #[.int .i64 0] n).toList) : RowAt w g e (List.replicate n 0) ∧ base ≤ g := by
  obtain ⟨hl, h | ⟨g', cap, cur, hv, hg, hh, hn, hcap, hcs, htk⟩⟩ := h
  · exact absurd h.1 (by simp)
  · cases hv
    refine ⟨?_, hg⟩
    unfold RowAt
    rw [hh]
    rw [toList_madeCells_one, List.take_of_length_le (by simp [hcs])] at htk
    have : cur = (ints (List.replicate n 0)).toArray := by
      apply Array.toList_inj.1
      rw [htk]; simp [ints]
    rw [this]

theorem ints_flat (l : List Int) : (ints l).toArray.all (·.oneCell') = true := by
  rw [Array.all_eq_true_iff_forall_mem]
  intro v hv
  simp [ints] at hv
  obtain ⟨x, _, rfl⟩ := hv
  rfl
theorem RowAt.other {w : World} {g : Nat} {e : TypeId} {cs : List Int} (h : RowAt w g e cs) (p : Addr) (v : Value) (hp : g ≠ p.block) : RowAt (w.setCell p v) g e cs := by
  unfold RowAt at h ⊢
  rw [heap_setCell_other w p g v hp]; exact h
theorem RowAt.otherRow {w : World} {g : Nat} {e : TypeId} {cs : List Int} (h : RowAt w g e cs) (g2 : Nat) (vs : Array Value) (hp : g ≠ g2) : RowAt (w.setRow g2 vs) g e cs := by
  unfold RowAt at h ⊢
  rw [setRow_other w g2 g vs hp]; exact h
theorem below_setRow {B : Nat} {a w : World} (h : Below B a w) {g : Nat} (hg : B ≤ g) (cs : Array Value) : Below B a (w.setRow g cs) :=
  ⟨h.os, h.tape, h.output, by have := h.size; simpa using this, fun k hk => by rw [setRow_other w g k cs (by omega)]; exact h.block k hk⟩
/-- A cell of an array by value. -/
theorem run_index_cell {P : Program} {T E : TypeId} {n : Nat} {d : TypeDesc} {i0 : TypeInfo} (hu : P.underlying T = some (.array n E)) (hE : P.underlying E = some d) (hd : (match d with | .struct _ => false | .array _ _ => false | _ => true) = true)
    (hi0 : P.info? E = some i0) (hs : i0.size = 1) (cs : Array Value) (i : Int) (v : Value) (h0 : 0 ≤ i) (h1 : i < n) (hc : cs[i.toNat]? = some v) (w : World) :
    (Instr.index T (.agg cs) (.int .i64 i)).run P w = .ok v w := by
  have hsz : (Go.sizeOf E).run P w = .ok 1 w := by simp [Go.sizeOf, typeInfo, hi0, hs]
  have hagg : (isAgg E).run P w = .ok false w := by
    unfold isAgg
    rw [Sem.run_bind, run_underlying hE w]
    cases d <;> simp_all
  simp [Instr.index, asIntOf, Sem.run_bind, Sem.run_pure, run_underlying hu w, h0, h1, part, hagg, hsz, hc]


theorem underInt : Try.prog.underlying 3 = some (.int .i64) := by kernel_rfl

def rowM (M : Nat) (F : Nat → Nat) : List Int := (List.range M).map fun (i : Nat) => ((F i : Nat) : Int)
theorem rowM_len (M : Nat) (F : Nat → Nat) : (rowM M F).length = M := by simp [rowM]
theorem rowM_get {M : Nat} (F : Nat → Nat) {i : Nat} (h : i < M) : (rowM M F).getD i 0 = ((F i : Nat) : Int) := by simp [rowM, h]
theorem rowM_congr {M : Nat} {F G : Nat → Nat} (h : ∀ i, i < M → F i = G i) : rowM M F = rowM M G := by
  unfold rowM
  refine List.map_congr_left fun i hi => ?_
  rw [h i (List.mem_range.1 hi)]
theorem rowM_set {M : Nat} {F G : Nat → Nat} {k : Nat} {x : Int} (hk : k < M) (hx : x = ((G k : Nat) : Int)) (h : ∀ i, i < M → i ≠ k → F i = G i) : (rowM M F).set k x = rowM M G := by
  subst hx
  apply List.ext_getElem
  · simp [rowM]
  · intro i h1 h2
    have hi : i < M := by simpa [rowM] using h2
    rw [List.getElem_set]
    by_cases e : k = i
    · subst e; simp [rowM]
    · rw [if_neg e]; simp [rowM, h i hi (fun q => e q.symm)]
theorem rowM_zero (M : Nat) {F : Nat → Nat} (h : ∀ i, F i = 0) : rowM M F = List.replicate M 0 := by
  apply List.ext_getElem
  · simp [rowM]
  · intro i h1 h2
    simp [rowM, h]
theorem rowM_first (M : Nat) (F : Nat → Nat) (h0 : F 0 = 1) (h : ∀ i, i ≠ 0 → F i = 0) (hM : 0 < M) : rowM M F = (List.replicate M (0 : Int)).set 0 1 := by
  rw [← rowM_zero M (F := fun _ => 0) (fun _ => rfl)]
  exact (rowM_set hM (by rw [h0]; rfl) (fun i hi hne => (h i hne).symm)).symm
theorem ints_set_first (M : Nat) : (ints (List.replicate M 0)).toArray.setIfInBounds 0 (.int .i64 1) = (ints ((List.replicate M (0 : Int)).set 0 1)).toArray := by
  apply Array.toList_inj.1
  simp [ints]
def rowN301 (F : Nat → Nat) : List Int := rowM 301 F
theorem rowN301_len (F : Nat → Nat) : (rowN301 F).length = 301 := rowM_len 301 F
theorem rowN301_get (F : Nat → Nat) {i : Nat} (h : i < 301) : (rowN301 F).getD i 0 = ((F i : Nat) : Int) := rowM_get F h
theorem rowN301_congr {F G : Nat → Nat} (h : ∀ i, i < 301 → F i = G i) : rowN301 F = rowN301 G := rowM_congr h
theorem rowN301_set {F G : Nat → Nat} {k : Nat} {x : Int} (hk : k < 301) (hx : x = ((G k : Nat) : Int)) (h : ∀ i, i < 301 → i ≠ k → F i = G i) : (rowN301 F).set k x = rowN301 G := rowM_set hk hx h
theorem rowN301_zero {F : Nat → Nat} (h : ∀ i, F i = 0) : rowN301 F = List.replicate 301 0 := rowM_zero 301 h
/-- A tally as a value: never opened. -/
def tlL0 (m s : Nat) : { l : List Int // l = rowN301 (tl m s) } := ⟨_, rfl⟩
def tlL (m s : Nat) : List Int := (tlL0 m s).1
theorem tlL_is (m s : Nat) : tlL m s = rowN301 (tl m s) := (tlL0 m s).2
def tlA (m s : Nat) : Array Value := (ints (tlL m s)).toArray
theorem tlL_len (m s : Nat) : (tlL m s).length = 301 := by rw [tlL_is, rowN301_len]
theorem tlL_get {m s p : Nat} (h : p ≤ 300) : (tlL m s).getD p 0 = ((tl m s p : Nat) : Int) := by rw [tlL_is, rowN301_get _ (by omega)]
theorem tlA_size (m s : Nat) : (tlA m s).size = 301 := by unfold tlA; rw [List.size_toArray, ints_len, tlL_len]
theorem info301 : (Try.prog.info? 55).map (·.size) = some 301 := by kernel_rfl
theorem zc301 : Try.zeroCells55 = (ints (List.replicate 301 0)).toArray := by kernel_rfl
theorem z301_is : Try.zeroCells55.setIfInBounds 0 (.int .i64 1) = tlA 0 0 := by
  unfold tlA
  rw [tlL_is, zc301, ints_set_first 301, show rowN301 (tl 0 0) = (List.replicate 301 (0 : Int)).set 0 1 from rowM_first 301 _ rfl (fun i hi => by simp [tl, hi]) (by omega)]
theorem tl_zero_s (s : Nat) : tl 0 s = tl 0 0 := by funext n; rfl
theorem tlA_zero (s : Nat) : tlA 0 s = tlA 0 0 := by unfold tlA; rw [tlL_is, tlL_is, tl_zero_s]
theorem index_tl (m s n : Nat) (h : n ≤ 300) (w : World) : (Instr.index 55 (.agg (tlA m s)) (.int .i64 (n : Int))).run Try.prog w = .ok (.int .i64 ((tl m s n : Nat) : Int)) w := by
  obtain ⟨i0, hi, hz0, hz1, hz2⟩ := info_parts infoIntT
  refine run_index_cell Try.underlying55 underInt rfl hi hz1 (tlA m s) n _ (by omega) (by omega) ?_ w
  unfold tlA
  rw [Int.toNat_natCast, List.getElem?_toArray, ints_get _ _ (by rw [tlL_len]; omega), tlL_get h]

/-! the book -/
def heldR (v : Value) : Option (DataW Value × List MemPlace) := some (.held v, [])
theorem laidOut0 : laidOutB Try.prog = true := by kernel_rfl
theorem keysLeft : Keyed Try.prog 62 := Keyed.of_law (deep_law_laid laidOut0 (m := 4) (by omega) (of_decide_eq_true (by kernel_rfl)) (by kernel_rfl) (by kernel_rfl))
theorem key_is : ∀ m : Fin 11, ∀ s : Fin 4, (keyOf Try.prog 62 (lfV m s)).isSome = true := by decide +kernel
theorem key_some {m s : Nat} (hm : m ≤ 10) (hs : s ≤ 3) : ∃ kl, keyOf Try.prog 62 (lfV m s) = some kl := Option.isSome_iff_exists.1 (key_is ⟨m, by omega⟩ ⟨s, by omega⟩)
theorem lfV_inj {m s m' s' : Nat} (hs : s ≤ 3) (hs' : s' ≤ 3) (h : lfV m s = lfV m' s') : m = m' ∧ s = s' := by
  simp [lfV] at h
  obtain ⟨h1, h2, h3⟩ := h
  refine ⟨by omega, ?_⟩
  have : s = 0 ∨ s = 1 ∨ s = 2 ∨ s = 3 := by omega
  have : s' = 0 ∨ s' = 1 ∨ s' = 2 ∨ s' = 3 := by omega
  rcases ‹s = 0 ∨ _› with rfl | rfl | rfl | rfl <;> rcases ‹s' = 0 ∨ _› with rfl | rfl | rfl | rfl <;> simp [oneT, twoT] at h2 h3 ⊢
/-- All that stands in the book is right. -/
def BookD (D : DataW Value) : Prop := IsMap D ∧ ∀ m s kl, m ≤ 10 → s ≤ 3 → keyOf Try.prog 62 (lfV m s) = some kl → has D kl = true → ∀ z, D.atKey kl z = .held (.agg (tlA m s))
theorem BookD.nil : BookD (.map []) := ⟨⟨_, rfl⟩, fun m s kl _ _ _ h => by simp [has] at h⟩
theorem BookD.put {D : DataW Value} (h : BookD D) {m s : Nat} {kl : Lit} (hm : m ≤ 10) (hs : s ≤ 3) (hk : keyOf Try.prog 62 (lfV m s) = some kl) : BookD (D.put kl (.held (.agg (tlA m s)))) := by
  refine ⟨h.1.put _ _, fun m' s' kl' hm' hs' hk' hh z => ?_⟩
  by_cases e : kl' = kl
  · subst e
    have := lfV_inj hs' hs (keysLeft.inj hk' hk)
    obtain ⟨rfl, rfl⟩ := this
    exact atKey_put_same h.1 (keysLeft.key hk) _ _
  · rw [has_put_other e] at hh
    rw [atKey_put_other e]
    exact h.2 m' s' kl' hm' hs' hk' hh z
theorem owns_map {w w' : World} {b n : Nat} {D : DataW Value} (h : w.ownsMap Try.prog 62 heldR b n D) (e : w'.heap[b]? = w.heap[b]?) : w'.ownsMap Try.prog 62 heldR b n D := by
  obtain ⟨es, clock, hb, F, hs, hD⟩ := h
  exact ⟨es, clock, e.trans hb, F, hs, hD⟩
/-- The book in its block: at most n tallies, all right. -/
def BookAt (w : World) (b n : Nat) : Prop := ∃ D, w.ownsMap Try.prog 62 heldR b n D ∧ BookD D
theorem BookAt.lt {w : World} {b n : Nat} (h : BookAt w b n) : b < w.heap.size := by obtain ⟨D, h, -⟩ := h; exact h.lt
theorem BookAt.same {w w' : World} {b n : Nat} (h : BookAt w b n) (e : w'.heap[b]? = w.heap[b]?) : BookAt w' b n := by
  obtain ⟨D, h, hD⟩ := h
  exact ⟨D, owns_map h e, hD⟩
theorem BookAt.mono {w : World} {b n n' : Nat} (h : BookAt w b n) (hn : n ≤ n') : BookAt w b n' := by
  obtain ⟨D, h, hD⟩ := h
  exact ⟨D, h.mono hn, hD⟩
theorem grown_of_below {w w' : World} (h : Below w.heap.size w w') (row : Option Nat) : w.grownBy w' row := ⟨h.os, h.tape, h.output, h.size, fun k hk _ => h.block k hk⟩
/-- How many tallies are laid down at most. -/
def newB : Nat → Nat
  | 0 => 0
  | m + 1 => 1 + (frs m).length * newB m
theorem newB_10 {m : Nat} (h : m ≤ 10) : newB m ≤ 5000000000000000000 := by
  have e0 : (frs 0).length = 241 := frL_len
  have e : ∀ m, (frs (m + 1)).length = 66 := fun m => frN_len
  have hm : ∀ m, newB m ≤ newB (m + 1) := fun m => by
    show newB m ≤ 1 + (frs m).length * newB m
    have : 1 ≤ (frs m).length := by unfold frs; split <;> simp [frN_len, frL_len]
    have := Nat.le_mul_of_pos_left (newB m) this
    omega
  have h2 : ∀ k, newB m ≤ newB (m + k) := by
    intro k
    induction k with
    | zero => exact Nat.le_refl _
    | succ k ih => exact Nat.le_trans ih (hm (m + k))
  have h3 := h2 (10 - m)
  rw [show m + (10 - m) = 10 by omega] at h3
  refine Nat.le_trans h3 ?_
  simp [newB, e0, e]
end Go.Proofs.Ythbkclgdoopbpaa
