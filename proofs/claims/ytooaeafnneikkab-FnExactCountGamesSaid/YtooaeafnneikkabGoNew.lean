/-
  Goals: CountGames, CountNeverBehind: the program's new tally.
-/
import Derived.Test.YtooaeafnneikkabGoTal
import Derived.Deep.CutRange
namespace Go.Proofs.Ytooaeafnneikkab
open Go.RowKit
set_option linter.unusedVariables false
set_option linter.unusedSimpArgs false

def heads (bk : Nat → Nat) (A W k : Nat) : List Value := (List.range (A + 1)).map fun a => if a < k then Value.slice (some ⟨bk a, 0, none⟩) W W else Value.slice none 0 0
theorem heads_len (bk : Nat → Nat) (A W k : Nat) : (heads bk A W k).length = A + 1 := by simp [heads]
theorem heads_zero (bk : Nat → Nat) (A W : Nat) : heads bk A W 0 = List.replicate (A + 1) (Value.slice none 0 0) := by
  apply List.ext_getElem
  · simp [heads]
  · intro i h1 h2; simp [heads]
theorem heads_set (bk : Nat → Nat) (A W k nb : Nat) : (heads bk A W k).set k (.slice (some ⟨nb, 0, none⟩) W W) = heads (fun a => if a = k then nb else bk a) A W (k + 1) := by
  apply List.ext_getElem
  · simp [heads]
  · intro i h1 h2
    rw [List.getElem_set]
    simp only [heads, List.getElem_map, List.getElem_range]
    by_cases q : k = i
    · subst q; simp
    · rw [if_neg q]
      by_cases q2 : i < k
      · rw [if_pos q2, if_pos (by omega), if_neg (by omega)]
      · rw [if_neg q2, if_neg (by omega)]
theorem heads_all (bk : Nat → Nat) (A W : Nat) : heads bk A W (A + 1) = (List.range (A + 1)).map fun a => Value.slice (some ⟨bk a, 0, none⟩) W W := by
  unfold heads
  refine List.map_congr_left fun a ha => ?_
  rw [if_pos (List.mem_range.1 ha)]
def HeadsAt (w : World) (g : Nat) (vs : List Value) : Prop := w.heap[g]? = some (.cells vs.toArray 45 (0, 0))
theorem HeadsAt.made {w : World} {g base n : Nat} {z : Value} (h : w.ownsRow base 45 1 (.slice (some ⟨g, 0, none⟩) n n) n (madeCells #[z] n).toList) : HeadsAt w g (List.replicate n z) ∧ base ≤ g := by
  obtain ⟨hl, h | ⟨g', cap, cur, hv, hg, hh, hn, hcap, hcs, htk⟩⟩ := h
  · exact absurd h.1 (by simp)
  · cases hv
    refine ⟨?_, hg⟩
    unfold HeadsAt
    rw [hh]
    rw [toList_madeCells_one, List.take_of_length_le (by simp [hcs])] at htk
    have : cur = (List.replicate n z).toArray := by
      apply Array.toList_inj.1
      rw [htk]
    rw [this]
theorem HeadsAt.put {w : World} {g : Nat} {vs : List Value} (h : HeadsAt w g vs) (j : Nat) (v : Value) : HeadsAt (w.setCell ⟨g, j, none⟩ v) g (vs.set j v) := by
  unfold HeadsAt at *
  have h0 := setRow_heap w g _ (vs.toArray.setIfInBounds j v) _ _ h
  rw [← setCell_eq_setRow w g j _ _ _ _ h] at h0
  rw [h0]; simp
/-- The tally's blocks are the call's own. -/
structure TalO (base gh : Nat) (bk : Nat → Nat) (k : Nat) : Prop where
  gh : base ≤ gh
  lo : ∀ a, a < k → base ≤ bk a
  ap : ∀ a a', a < k → a' < k → a ≠ a' → bk a ≠ bk a'
structure TalK (w wr : World) (gh : Nat) (bk : Nat → Nat) (A W k : Nat) : Prop where
  hd : HeadsAt wr gh (heads bk A W k)
  rows : ∀ a, a < k → RowAt wr (bk a) 3 (List.replicate W 0)
  own : TalO w.heap.size gh bk k
  bel : Below w.heap.size w wr
theorem TalK.step {w wr w2 : World} {gh : Nat} {bk : Nat → Nat} {A W k : Nat} (h : TalK w wr gh bk A W k) (hb : Below wr.heap.size wr w2) (hr : RowAt w2 wr.heap.size 3 (List.replicate W 0)) :
    TalK w (w2.setCell ⟨gh, k, none⟩ (.slice (some ⟨wr.heap.size, 0, none⟩) W W)) gh (fun a => if a = k then wr.heap.size else bk a) A W (k + 1) := by
  have hg : gh < wr.heap.size := (Array.getElem?_eq_some_iff.1 h.hd).1
  have hh2 : HeadsAt w2 gh (heads bk A W k) := by unfold HeadsAt; rw [hb.block gh hg]; exact h.hd
  have hlt : ∀ a, a < k → bk a < wr.heap.size := fun a ha => (h.rows a ha).lt
  have hne : ∀ a, a < k → bk a ≠ gh := fun a ha e => by
    have h1 := h.rows a ha
    rw [e] at h1
    have h2 := h.hd
    unfold RowAt at h1
    unfold HeadsAt at h2
    rw [h1] at h2
    injection h2 with h2
    injection h2 with h3 h4 h5
    exact absurd h4 (by decide)
  have hsz := h.bel.size
  refine ⟨?_, fun a ha => ?_, ⟨h.own.gh, fun a ha => ?_, fun a a' ha ha' hn => ?_⟩, (h.bel.trans (hb.mono hsz)).setCell (p := ⟨gh, k, none⟩) h.own.gh _⟩
  · rw [← heads_set]; exact hh2.put k _
  · by_cases e : a = k
    · subst e
      rw [if_pos rfl]
      unfold RowAt at hr ⊢
      rw [Below.heap_setCell _ _ _ _ (by simp; omega)]; exact hr
    · rw [if_neg e]
      have h1 := (h.rows a (by omega)).keep hb
      unfold RowAt at h1 ⊢
      rw [Below.heap_setCell _ _ _ _ (hne a (by omega))]; exact h1
  · show w.heap.size ≤ if a = k then wr.heap.size else bk a
    split
    · exact hsz
    · exact h.own.lo a (by omega)
  · show (if a = k then wr.heap.size else bk a) ≠ (if a' = k then wr.heap.size else bk a')
    by_cases e : a = k
    · have := hlt a' (by omega)
      rw [if_pos e, if_neg (by omega)]; omega
    · by_cases e' : a' = k
      · have := hlt a (by omega)
        rw [if_neg e, if_pos e']; omega
      · rw [if_neg e, if_neg e']; exact h.own.ap a a' (by omega) (by omega) hn
theorem TalK.done {w wr : World} {gh : Nat} {bk : Nat → Nat} {A W : Nat} (h : TalK w wr gh bk A W (A + 1)) : TalF wr gh bk A W (fun _ _ => 0) := by
  refine ⟨by have := h.hd; unfold HeadsAt at this; rw [heads_all] at this; exact this, fun a ha => ?_⟩
  have e : rowF (fun _ _ => 0) W a = List.replicate W 0 := by
    apply List.ext_getElem
    · simp [rowF]
    · intro i h1 h2; simp [rowF]
  rw [e]; exact h.rows a (by omega)

set_option maxHeartbeats 3200000 in
theorem newTally_any (A B : Nat) (hA : A ≤ 200) (hB : B ≤ 200) (w : World) :
    Calls Try.prog 86 #[.agg #[.int .i64 A, .int .i64 B]] w fun e w' => ∃ gh bk, e = .returned (.slice (some ⟨gh, 0, none⟩) (A + 1) (A + 1)) ∧ TalF w' gh bk A (B + 1) (fun _ _ => 0) ∧ TalO w.heap.size gh bk (A + 1) ∧ Below w.heap.size w w' := by
  obtain ⟨i0, hi, hz0, hz1, hz2⟩ := info_parts infoSlice
  have HI := Lib.hid (And.intro hi (And.intro hz0 (And.intro hz1 hz2))); clear hi hz0 hz1 hz2
  obtain ⟨i1, hi, hz0, hz1, hz2⟩ := info_parts infoInt
  have HJ := Lib.hid (And.intro hi (And.intro hz0 (And.intro hz1 hz2))); clear hi hz0 hz1 hz2
  obtain ⟨r0, r1⟩ := two_new w (.int .i64 A) (.int .i64 B) 86
  have HB0 := Lib.hid (below_new w (.cells #[.int .i64 A, .int .i64 B] 86))
  have hgb : w.heap.size < (w.alloc (.cells #[.int .i64 A, .int .i64 B] 86)).heap.size := by simp
  go_enter Try.func86, Try.ntmps86
  go_upto_region 1 with fail
  generalize hw0 : w.alloc (.cells #[.int .i64 A, .int .i64 B] 86) = W0 at *
  clear hw0
  generalize hgbe : w.heap.size = gb at r0 r1 hgb ⊢
  have HGB := Lib.hid hgbe; clear hgbe
  go_wp2_with (at_make; refine wpList_make_full _ rfl _ _ _ rfl W0.heap.size _ i0 _ 1 Try.underlying68 HI.out.1 HI.out.2.1 HI.out.2.2.1 .i64 .i64 _ _ (A + 1) rfl rfl rfl rfl ?_ ?_ (Nat.le_refl _) ?_)
  · rw [HI.out.2.2.2]; omega
  · unfold maxLen; omega
  intro w1 hown hgrow
  obtain ⟨hh, -⟩ := HeadsAt.made hown
  have hbel : Below W0.heap.size W0 w1 := (Below.refl _ _).grown hgrow (Nat.le_refl _) (fun k hk => by cases hk)
  have hz := HB0.out.size
  have H0 : Hid (TalK w w1 W0.heap.size (fun _ => 0) A (B + 1) 0 ∧ Below W0.heap.size W0 w1) :=
    ⟨⟨by rw [heads_zero]; exact hh, fun a ha => absurd ha (Nat.not_lt_zero _), ⟨hz, fun a ha => absurd ha (Nat.not_lt_zero _), fun a a' ha => absurd ha (Nat.not_lt_zero _)⟩, HB0.out.trans (hbel.mono hz)⟩, hbel⟩
  clear hh hbel hown hgrow r0 hz
  generalize hgh : W0.heap.size = gh at *
  have HGH := Lib.hid hgh; clear hgh
  go_wp2_with fail
  go_loopw [11] (fun i wr => ∃ (k : Nat) (bk : Nat → Nat), i = .int .i64 k ∧ k ≤ A + 1 ∧ Hid (TalK w wr gh bk A (B + 1) k ∧ Below gh W0 wr)) (fun i _ => A + 1 - (intOf i).toNat)
  case atStart => exact ⟨0, _, rfl, Nat.zero_le _, H0⟩
  case round =>
    clear H0
    obtain ⟨k, bk, rfl, hk, hT⟩ := hrel
    by_cases hlt : k < A + 1
    · have d1 : (k : Int) < (A : Int) + 1 := by omega
      have c1 := r1
      rw [← hT.out.2.cell (p := ⟨gb, 1, none⟩) hgb] at c1
      have c2 := cell_of_row _ _ k _ _ _ hT.out.1.hd
      rw [List.getElem?_toArray] at c2
      have c2' : (heads bk A (B + 1) k)[k]? = some (Value.slice none 0 0) := by simp [heads, show k < A + 1 by omega]
      rw [c2'] at c2
      have f2 := frozen_of_row _ gh k _ _ hT.out.1.hd
      clear c2'
      go_wp2_with (at_make; refine wpList_make_full _ rfl _ _ _ rfl wr.heap.size _ i1 _ 1 Try.underlying45 HJ.out.1 HJ.out.2.1 HJ.out.2.2.1 .i64 .i64 _ _ (B + 1) rfl rfl rfl rfl ?_ ?_ (Nat.le_refl _) ?_)
      · rw [HJ.out.2.2.2]; omega
      · unfold maxLen; omega
      intro w2 hown hgrow
      have hr := (RowAt.made (e := 3) hown).1
      have hbel : Below wr.heap.size wr w2 := (Below.refl _ _).grown hgrow (Nat.le_refl _) (fun k hk => by cases hk)
      have hgw : gh < wr.heap.size := (Array.getElem?_eq_some_iff.1 hT.out.1.hd).1
      have c3 := c2
      rw [← hbel.cell (p := ⟨gh, k, none⟩) hgw] at c3
      have f3 := f2
      rw [← hbel.frozen (p := ⟨gh, k, none⟩) hgw] at f3
      have hgz := hT.out.2.size
      have H5 : Hid (TalK w (w2.setCell ⟨gh, k, none⟩ (.slice (some ⟨wr.heap.size, 0, none⟩) (B + 1) (B + 1))) gh (fun a => if a = k then wr.heap.size else bk a) A (B + 1) (k + 1) ∧ Below gh W0 (w2.setCell ⟨gh, k, none⟩ (.slice (some ⟨wr.heap.size, 0, none⟩) (B + 1) (B + 1)))) :=
        ⟨hT.out.1.step hbel hr, (hT.out.2.trans (hbel.mono (by omega))).setCell (p := ⟨gh, k, none⟩) (Nat.le_refl _) _⟩
      clear hr hbel hown hgrow hT c1 c2 f2
      go_wp2_with fail
      go_roundw
      case rel => exact ⟨k + 1, _, by go_num, by omega, H5⟩
      case measure => simp [intOf]; omega
    · obtain rfl : k = A + 1 := by omega
      have HE := Lib.hid (And.intro hT.out.1.done (And.intro hT.out.1.own hT.out.1.bel)); clear hT
      go_wp2_with fail
      go_ret
      exact ⟨gh, bk, rfl, HE.out⟩
end Go.Proofs.Ytooaeafnneikkab
