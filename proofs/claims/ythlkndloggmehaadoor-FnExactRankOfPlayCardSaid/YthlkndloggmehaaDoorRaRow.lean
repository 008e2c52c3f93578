/-
  Races: tables that the call itself made: rows of numbers, and the program's new one.
-/
import Derived.Test.YthlkndloggmehaaDoorRaSide
import Derived.Laws.OwnMore
import Derived.OwnWalk
import Derived.Deep.CutRange
import Derived.Maps.AppendAt
import Derived.Deep.AppendSrc
import Derived.Deep.DeepAppendWide
import Derived.LoopTactic
namespace Go.Proofs.YthlkndloggmehaaDoor
open Go.RowKit
set_option linter.unusedVariables false
set_option linter.unusedSimpArgs false

def ints (l : List Int) : List Value := l.map (Value.int .i64)
theorem ints_len (l : List Int) : (ints l).length = l.length := by simp [ints]
theorem ints_get (l : List Int) (j : Nat) (h : j < l.length) : (ints l)[j]? = some (.int .i64 (l.getD j 0)) := by simp [ints, h]
theorem infoInt : (Tryd.prog.info? 3).map (fun i => (i.zero, i.size, i.bytes)) = some (some (.int .i64 0), 1, 8) := by kernel_rfl
theorem infoSlice : (Tryd.prog.info? 63).map (fun i => (i.zero, i.size, i.bytes)) = some (some (.slice none 0 0), 1, 24) := by kernel_rfl
theorem below_new (w : World) (o : Obj) : Below w.heap.size w (w.alloc o) := (Below.refl _ _).alloc (Nat.le_refl _) _
theorem two_new (w : World) (x y : Value) (t : TypeId) : (w.alloc (.cells #[x, y] t)).cell? ⟨w.heap.size, 0, none⟩ = some x ∧ (w.alloc (.cells #[x, y] t)).cell? ⟨w.heap.size, 1, none⟩ = some y :=
  ⟨cell_of_row _ _ 0 _ _ _ (heap_alloc_last w _), cell_of_row _ _ 1 _ _ _ (heap_alloc_last w _)⟩

/-- The block g holds these ints, and may be written. -/
def RowAt (w : World) (g : Nat) (e : TypeId) (cs : List Int) : Prop := w.heap[g]? = some (.cells (ints cs).toArray e (0, 0))

theorem RowAt.lt {w : World} {g : Nat} {e : TypeId} {cs : List Int} (h : RowAt w g e cs) : g < w.heap.size := (Array.getElem?_eq_some_iff.1 h).1
theorem RowAt.cell {w : World} {g : Nat} {e : TypeId} {cs : List Int} (h : RowAt w g e cs) {j : Nat} (hj : j < cs.length) : w.cell? ⟨g, j, none⟩ = some (.int .i64 (cs.getD j 0)) := by
  rw [cell_of_row w g j _ e _ h, List.getElem?_toArray, ints_get cs j hj]
theorem RowAt.free {w : World} {g : Nat} {e : TypeId} {cs : List Int} (h : RowAt w g e cs) (j : Nat) : w.frozen? ⟨g, j, none⟩ = false := frozen_of_row w g j _ e h
theorem RowAt.put {w : World} {g : Nat} {e : TypeId} {cs : List Int} (h : RowAt w g e cs) {j : Nat} (hj : j < cs.length) (x : Int) : RowAt (w.setCell ⟨g, j, none⟩ (.int .i64 x)) g e (cs.set j x) := by
  unfold RowAt at h ⊢
  have hs : g < w.heap.size := (Array.getElem?_eq_some_iff.1 h).1
  have hv : w.heap[g] = .cells (ints cs).toArray e (0, 0) := (Array.getElem?_eq_some_iff.1 h).2
  simp only [World.setCell]
  rw [Array.getElem?_eq_getElem (by simpa using hs), Array.getElem_modify_self, hv]
  simp [ints]
theorem RowAt.keep {w w' : World} {g : Nat} {e : TypeId} {cs : List Int} (h : RowAt w g e cs) (hb : Below w.heap.size w w') : RowAt w' g e cs := by
  unfold RowAt at h ⊢
  rw [hb.block g (RowAt.lt h)]; exact h
theorem RowAt.drewN {w : World} {g : Nat} {e : TypeId} {cs : List Int} (h : RowAt w g e cs) (n : Nat) : RowAt (w.drewN n) g e cs := h
theorem RowAt.own {w : World} {g base : Nat} {e : TypeId} {cs : List Int} (h : RowAt w g e cs) (hb : base ≤ g) (hl : cs.length ≤ maxLen) : w.ownsRow base e 1 (.slice (some ⟨g, 0, none⟩) cs.length cs.length) cs.length (ints cs) :=
  ⟨by rw [ints_len, Nat.mul_one], .inr ⟨g, cs.length, (ints cs).toArray, rfl, hb, h, Nat.le_refl _, hl, by simp [ints_len], by
    rw [List.take_of_length_le]
    simp [ints_len]⟩⟩
theorem RowAt.made {w : World} {g base n : Nat} {e : TypeId} (h : w.ownsRow base e 1 (.slice (some ⟨g, 0, none⟩) n n) n (madeCells #[.int .i64 0] n).toList) : RowAt w g e (List.replicate n 0) ∧ base ≤ g := by
  obtain ⟨hl, h | ⟨g', cap, cur, hv, hg, hh, hn, hcap, hcs, htk⟩⟩ := h
  · exact absurd h.1 (by simp)
  · cases hv
    refine ⟨?_, hg⟩
    unfold RowAt
    rw [hh]
    rw [toList_madeCells_one, List.take_of_length_le (by simp [hcs])] at htk
    have : cur = (ints (List.replicate n 0)).toArray := by
      apply Array.toList_inj.1
      rw [htk]; simp [ints]
    rw [this]
def rowF (G : Int → Int → Int) (W a : Nat) : List Int := (List.range W).map fun (b : Nat) => G (a : Int) (b : Int)
theorem rowF_len (G : Int → Int → Int) (W a : Nat) : (rowF G W a).length = W := by simp [rowF]
theorem rowF_get (G : Int → Int → Int) {W a b : Nat} (h : b < W) : (rowF G W a).getD b 0 = G a b := by simp [rowF, h]
/-- A table of the program's: heads and rows. -/
structure TalF (wr : World) (gh : Nat) (bk : Nat → Nat) (A W : Nat) (G : Int → Int → Int) : Prop where
  hd : wr.heap[gh]? = some (.cells ((List.range (A + 1)).map fun a => Value.slice (some ⟨bk a, 0, none⟩) W W).toArray 63 (0, 0))
  rows : ∀ a, a ≤ A → RowAt wr (bk a) 3 (rowF G W a)
theorem TalF.keep {wr w' : World} {gh : Nat} {bk : Nat → Nat} {A W : Nat} {G : Int → Int → Int} (h : TalF wr gh bk A W G) (hb : Below wr.heap.size wr w') : TalF w' gh bk A W G :=
  ⟨by rw [hb.block gh (Array.getElem?_eq_some_iff.1 h.hd).1]; exact h.hd, fun a ha => (h.rows a ha).keep hb⟩
theorem TalF.head {wr : World} {gh : Nat} {bk : Nat → Nat} {A W : Nat} {G : Int → Int → Int} (h : TalF wr gh bk A W G) {a : Nat} (ha : a ≤ A) : wr.cell? ⟨gh, a, none⟩ = some (.slice (some ⟨bk a, 0, none⟩) W W) := by
  rw [cell_of_row _ _ _ _ _ _ h.hd]
  simp [show a < A + 1 by omega]
theorem TalF.cell {wr : World} {gh : Nat} {bk : Nat → Nat} {A W : Nat} {G : Int → Int → Int} (h : TalF wr gh bk A W G) {a b : Nat} (ha : a ≤ A) (hb : b < W) : wr.cell? ⟨bk a, b, none⟩ = some (.int .i64 (G a b)) := by
  have := (h.rows a ha).cell (j := b) (by rw [rowF_len]; exact hb)
  rwa [rowF_get _ hb] at this
def heads (bk : Nat → Nat) (A W k : Nat) : List Value := (List.range (A + 1)).map fun a => if a < k then Value.slice (some ⟨bk a, 0, none⟩) W W else Value.slice none 0 0
theorem heads_len (bk : Nat → Nat) (A W k : Nat) : (heads bk A W k).length = A + 1 := by simp [heads]
theorem heads_zero (bk : Nat → Nat) (A W : Nat) : heads bk A W 0 = List.replicate (A + 1) (Value.slice none 0 0) := by
  apply List.ext_getElem
  · simp [heads]
  · intro i h1 h2; simp [heads]
theorem heads_set (bk : Nat → Nat) (A W k nb : Nat) : (heads bk A W k).set k (.slice (some ⟨nb, 0, none⟩) W W) = heads (fun a => if a = k then nb else bk a) A W (k + 1) := by
  apply List.ext_getElem
  · simp [heads]
  · intro i h1 h2
    rw [List.getElem_set]
    simp only [heads, List.getElem_map, List.getElem_range]
    by_cases q : k = i
    · subst q; simp
    · rw [if_neg q]
      by_cases q2 : i < k
      · rw [if_pos q2, if_pos (by omega), if_neg (by omega)]
      · rw [if_neg q2, if_neg (by omega)]
theorem heads_all (bk : Nat → Nat) (A W : Nat) : heads bk A W (A + 1) = (List.range (A + 1)).map fun a => Value.slice (some ⟨bk a, 0, none⟩) W W := by
  unfold heads
  refine List.map_congr_left fun a ha => ?_
  rw [if_pos (List.mem_range.1 ha)]
def HeadsAt (w : World) (g : Nat) (vs : List Value) : Prop := w.heap[g]? = some (.cells vs.toArray 63 (0, 0))
theorem HeadsAt.made {w : World} {g base n : Nat} {z : Value} (h : w.ownsRow base 63 1 (.slice (some ⟨g, 0, none⟩) n n) n (madeCells #[z] n).toList) : HeadsAt w g (List.replicate n z) ∧ base ≤ g := by
  obtain ⟨hl, h | ⟨g', cap, cur, hv, hg, hh, hn, hcap, hcs, htk⟩⟩ := h
  · exact absurd h.1 (by simp)
  · cases hv
    refine ⟨?_, hg⟩
    unfold HeadsAt
    rw [hh]
    rw [toList_madeCells_one, List.take_of_length_le (by simp [hcs])] at htk
    have : cur = (List.replicate n z).toArray := by
      apply Array.toList_inj.1
      rw [htk]
    rw [this]
theorem HeadsAt.put {w : World} {g : Nat} {vs : List Value} (h : HeadsAt w g vs) (j : Nat) (v : Value) : HeadsAt (w.setCell ⟨g, j, none⟩ v) g (vs.set j v) := by
  unfold HeadsAt at *
  have h0 := setRow_heap w g _ (vs.toArray.setIfInBounds j v) _ _ h
  rw [← setCell_eq_setRow w g j _ _ _ _ h] at h0
  rw [h0]; simp
/-- The tally's blocks are the call's own. -/
structure TalO (base gh : Nat) (bk : Nat → Nat) (k : Nat) : Prop where
  gh : base ≤ gh
  lo : ∀ a, a < k → base ≤ bk a
  ap : ∀ a a', a < k → a' < k → a ≠ a' → bk a ≠ bk a'
structure TalK (w wr : World) (gh : Nat) (bk : Nat → Nat) (A W k : Nat) : Prop where
  hd : HeadsAt wr gh (heads bk A W k)
  rows : ∀ a, a < k → RowAt wr (bk a) 3 (List.replicate W 0)
  own : TalO w.heap.size gh bk k
  bel : Below w.heap.size w wr
theorem TalK.step {w wr w2 : World} {gh : Nat} {bk : Nat → Nat} {A W k : Nat} (h : TalK w wr gh bk A W k) (hb : Below wr.heap.size wr w2) (hr : RowAt w2 wr.heap.size 3 (List.replicate W 0)) :
    TalK w (w2.setCell ⟨gh, k, none⟩ (.slice (some ⟨wr.heap.size, 0, none⟩) W W)) gh (fun a => if a = k then wr.heap.size else bk a) A W (k + 1) := by
  have hg : gh < wr.heap.size := (Array.getElem?_eq_some_iff.1 h.hd).1
  have hh2 : HeadsAt w2 gh (heads bk A W k) := by unfold HeadsAt; rw [hb.block gh hg]; exact h.hd
  have hlt : ∀ a, a < k → bk a < wr.heap.size := fun a ha => (h.rows a ha).lt
  have hne : ∀ a, a < k → bk a ≠ gh := fun a ha e => by
    have h1 := h.rows a ha
    rw [e] at h1
    have h2 := h.hd
    unfold RowAt at h1
    unfold HeadsAt at h2
    rw [h1] at h2
    injection h2 with h2
    injection h2 with h3 h4 h5
    exact absurd h4 (by decide)
  have hsz := h.bel.size
  refine ⟨?_, fun a ha => ?_, ⟨h.own.gh, fun a ha => ?_, fun a a' ha ha' hn => ?_⟩, (h.bel.trans (hb.mono hsz)).setCell (p := ⟨gh, k, none⟩) h.own.gh _⟩
  · rw [← heads_set]; exact hh2.put k _
  · by_cases e : a = k
    · subst e
      rw [if_pos rfl]
      unfold RowAt at hr ⊢
      rw [Below.heap_setCell _ _ _ _ (by simp; omega)]; exact hr
    · rw [if_neg e]
      have h1 := (h.rows a (by omega)).keep hb
      unfold RowAt at h1 ⊢
      rw [Below.heap_setCell _ _ _ _ (hne a (by omega))]; exact h1
  · show w.heap.size ≤ if a = k then wr.heap.size else bk a
    split
    · exact hsz
    · exact h.own.lo a (by omega)
  · show (if a = k then wr.heap.size else bk a) ≠ (if a' = k then wr.heap.size else bk a')
    by_cases e : a = k
    · have := hlt a' (by omega)
      rw [if_pos e, if_neg (by omega)]; omega
    · by_cases e' : a' = k
      · have := hlt a (by omega)
        rw [if_neg e, if_pos e']; omega
      · rw [if_neg e, if_neg e']; exact h.own.ap a a' (by omega) (by omega) hn
theorem TalK.done {w wr : World} {gh : Nat} {bk : Nat → Nat} {A W : Nat} (h : TalK w wr gh bk A W (A + 1)) : TalF wr gh bk A W (fun _ _ => 0) := by
  refine ⟨by have := h.hd; unfold HeadsAt at this; rw [heads_all] at this; exact this, fun a ha => ?_⟩
  have e : rowF (fun _ _ => 0) W a = List.replicate W 0 := by
    apply List.ext_getElem
    · simp [rowF]
    · intro i h1 h2; simp [rowF]
  rw [e]; exact h.rows a (by omega)

set_option maxHeartbeats 3200000 in
theorem noneUpTo_any (A B : Nat) (hA : A ≤ 200) (hB : B ≤ 200) (w : World) :
    Calls Tryd.prog 88 #[.agg #[.int .i64 A, .int .i64 B]] w fun e w' => ∃ gh bk, e = .returned (.slice (some ⟨gh, 0, none⟩) (A + 1) (A + 1)) ∧ TalF w' gh bk A (B + 1) (fun _ _ => 0) ∧ TalO w.heap.size gh bk (A + 1) ∧ Below w.heap.size w w' := by
  obtain ⟨i0, hi, hz0, hz1, hz2⟩ := info_parts infoSlice
  have HI := Lib.hid (And.intro hi (And.intro hz0 (And.intro hz1 hz2))); clear hi hz0 hz1 hz2
  obtain ⟨i1, hi, hz0, hz1, hz2⟩ := info_parts infoInt
  have HJ := Lib.hid (And.intro hi (And.intro hz0 (And.intro hz1 hz2))); clear hi hz0 hz1 hz2
  obtain ⟨r0, r1⟩ := two_new w (.int .i64 A) (.int .i64 B) 65
  have HB0 := Lib.hid (below_new w (.cells #[.int .i64 A, .int .i64 B] 65))
  have hgb : w.heap.size < (w.alloc (.cells #[.int .i64 A, .int .i64 B] 65)).heap.size := by simp
  go_enter Tryd.func88, Tryd.ntmps88
  go_upto_region 1 with fail
  generalize hw0 : w.alloc (.cells #[.int .i64 A, .int .i64 B] 65) = W0 at *
  clear hw0
  generalize hgbe : w.heap.size = gb at r0 r1 hgb ⊢
  have HGB := Lib.hid hgbe; clear hgbe
  go_wp2_with (at_make; refine wpList_make_full _ rfl _ _ _ rfl W0.heap.size _ i0 _ 1 Tryd.underlying60 HI.out.1 HI.out.2.1 HI.out.2.2.1 .i64 .i64 _ _ (A + 1) rfl rfl rfl rfl ?_ ?_ (Nat.le_refl _) ?_)
  · rw [HI.out.2.2.2]; omega
  · unfold maxLen; omega
  intro w1 hown hgrow
  obtain ⟨hh, -⟩ := HeadsAt.made hown
  have hbel : Below W0.heap.size W0 w1 := (Below.refl _ _).grown hgrow (Nat.le_refl _) (fun k hk => by cases hk)
  have hz := HB0.out.size
  have H0 : Hid (TalK w w1 W0.heap.size (fun _ => 0) A (B + 1) 0 ∧ Below W0.heap.size W0 w1) :=
    ⟨⟨by rw [heads_zero]; exact hh, fun a ha => absurd ha (Nat.not_lt_zero _), ⟨hz, fun a ha => absurd ha (Nat.not_lt_zero _), fun a a' ha => absurd ha (Nat.not_lt_zero _)⟩, HB0.out.trans (hbel.mono hz)⟩, hbel⟩
  clear hh hbel hown hgrow r0 hz
  generalize hgh : W0.heap.size = gh at *
  have HGH := Lib.hid hgh; clear hgh
  go_wp2_with fail
  go_loopw [11] (fun i wr => ∃ (k : Nat) (bk : Nat → Nat), i = .int .i64 k ∧ k ≤ A + 1 ∧ Hid (TalK w wr gh bk A (B + 1) k ∧ Below gh W0 wr)) (fun i _ => A + 1 - (intOf i).toNat)
  case atStart => exact ⟨0, _, rfl, Nat.zero_le _, H0⟩
  case round =>
    clear H0
    obtain ⟨k, bk, rfl, hk, hT⟩ := hrel
    by_cases hlt : k < A + 1
    · have d1 : (k : Int) < (A : Int) + 1 := by omega
      have c1 := r1
      rw [← hT.out.2.cell (p := ⟨gb, 1, none⟩) hgb] at c1
      have c2 := cell_of_row _ _ k _ _ _ hT.out.1.hd
      rw [List.getElem?_toArray] at c2
      have c2' : (heads bk A (B + 1) k)[k]? = some (Value.slice none 0 0) := by simp [heads, show k < A + 1 by omega]
      rw [c2'] at c2
      have f2 := frozen_of_row _ gh k _ _ hT.out.1.hd
      clear c2'
      go_wp2_with (at_make; refine wpList_make_full _ rfl _ _ _ rfl wr.heap.size _ i1 _ 1 Tryd.underlying63 HJ.out.1 HJ.out.2.1 HJ.out.2.2.1 .i64 .i64 _ _ (B + 1) rfl rfl rfl rfl ?_ ?_ (Nat.le_refl _) ?_)
      · rw [HJ.out.2.2.2]; omega
      · unfold maxLen; omega
      intro w2 hown hgrow
      have hr := (RowAt.made (e := 3) hown).1
      have hbel : Below wr.heap.size wr w2 := (Below.refl _ _).grown hgrow (Nat.le_refl _) (fun k hk => by cases hk)
      have hgw : gh < wr.heap.size := (Array.getElem?_eq_some_iff.1 hT.out.1.hd).1
      have c3 := c2
      rw [← hbel.cell (p := ⟨gh, k, none⟩) hgw] at c3
      have f3 := f2
      rw [← hbel.frozen (p := ⟨gh, k, none⟩) hgw] at f3
      have hgz := hT.out.2.size
      have H5 : Hid (TalK w (w2.setCell ⟨gh, k, none⟩ (.slice (some ⟨wr.heap.size, 0, none⟩) (B + 1) (B + 1))) gh (fun a => if a = k then wr.heap.size else bk a) A (B + 1) (k + 1) ∧ Below gh W0 (w2.setCell ⟨gh, k, none⟩ (.slice (some ⟨wr.heap.size, 0, none⟩) (B + 1) (B + 1)))) :=
        ⟨hT.out.1.step hbel hr, (hT.out.2.trans (hbel.mono (by omega))).setCell (p := ⟨gh, k, none⟩) (Nat.le_refl _) _⟩
      clear hr hbel hown hgrow hT c1 c2 f2
      go_wp2_with fail
      go_roundw
      case rel => exact ⟨k + 1, _, by go_num, by omega, H5⟩
      case measure => simp [intOf]; omega
    · obtain rfl : k = A + 1 := by omega
      have HE := Lib.hid (And.intro hT.out.1.done (And.intro hT.out.1.own hT.out.1.bel)); clear hT
      go_wp2_with fail
      go_ret
      exact ⟨gh, bk, rfl, HE.out⟩
theorem TalF.apart {wr : World} {gh : Nat} {bk : Nat → Nat} {A W : Nat} {H : Int → Int → Int} (h : TalF wr gh bk A W H) {x : Nat} (hx : x ≤ A) : gh ≠ bk x := by
  intro e
  have h1 := h.rows x hx
  have h2 := h.hd
  unfold RowAt at h1
  rw [e, h1] at h2
  injection h2 with h2
  injection h2 with h3 h4 h5
  exact absurd h4 (by decide)
theorem TalF.put {wr : World} {gh base : Nat} {bk : Nat → Nat} {A W : Nat} {H H' : Int → Int → Int} (h : TalF wr gh bk A W H) (ho : TalO base gh bk (A + 1)) {x y : Nat} (hx : x ≤ A) (hy : y < W) {v : Int} (hH : ∀ a b : Nat, a ≤ A → b < W → H' a b = if a = x ∧ b = y then v else H a b) :
    TalF (wr.setCell ⟨bk x, y, none⟩ (.int .i64 v)) gh bk A W H' := by
  refine ⟨?_, fun a ha => ?_⟩
  · rw [Below.heap_setCell _ _ _ _ (h.apart hx)]; exact h.hd
  · by_cases e : a = x
    · subst e
      have h1 := (h.rows a ha).put (j := y) (by rw [rowF_len]; exact hy) v
      have e2 : rowF H' W a = (rowF H W a).set y v := by
        apply List.ext_getElem
        · simp [rowF]
        · intro i h1 h2
          have hi : i < W := by simpa [rowF] using h1
          rw [List.getElem_set]
          simp only [rowF, List.getElem_map, List.getElem_range]
          rw [hH a i ha hi]
          by_cases q : y = i
          · rw [if_pos ⟨rfl, q.symm⟩, if_pos q]
          · rw [if_neg (fun h => q h.2.symm), if_neg q]
      rw [e2]; exact h1
    · have h1 := h.rows a ha
      have e2 : rowF H' W a = rowF H W a := by
        unfold rowF
        refine List.map_congr_left fun b hb => ?_
        rw [hH a b ha (List.mem_range.1 hb), if_neg (fun h => e h.1)]
      rw [e2]
      unfold RowAt at h1 ⊢
      rw [Below.heap_setCell _ _ _ _ (by simp; exact ho.ap a x (by omega) (by omega) e)]; exact h1
theorem TalF.congr {wr : World} {gh : Nat} {bk : Nat → Nat} {A W : Nat} {H H' : Int → Int → Int} (h : TalF wr gh bk A W H) (hH : ∀ a b : Nat, a ≤ A → b < W → H' a b = H a b) : TalF wr gh bk A W H' :=
  ⟨h.hd, fun a ha => by
    have e2 : rowF H' W a = rowF H W a := by
      unfold rowF
      exact List.map_congr_left fun b hb => hH a b ha (List.mem_range.1 hb)
    rw [e2]; exact h.rows a ha⟩
end Go.Proofs.YthlkndloggmehaaDoor
