/-
  Leagues: the points of all teams in a row (the model's), and as they are handed back.
-/
import Derived.Test.YthbkclgdoopbpaaLgUnb
import Derived.Test.YthbkclgdoopbpaaLgPtsM
namespace Go.Proofs.Ythbkclgdoopbpaa
open Go.RowKit
set_option linter.unusedVariables false
set_option linter.unusedSimpArgs false

theorem infoInt : (Try.prog.info? 3).map (fun i => (i.zero, i.size, i.bytes)) = some (some (.int .i64 0), 1, 8) := by kernel_rfl
/-- The block g holds these ints, and may be written. -/
def RowAt (w : World) (g : Nat) (e : TypeId) (cs : List Int) : Prop := w.heap[g]? = some (.cells (ints cs).toArray e (0, 0))

theorem RowAt.lt {w : World} {g : Nat} {e : TypeId} {cs : List Int} (h : RowAt w g e cs) : g < w.heap.size := (Array.getElem?_eq_some_iff.1 h).1
theorem RowAt.cell {w : World} {g : Nat} {e : TypeId} {cs : List Int} (h : RowAt w g e cs) {j : Nat} (hj : j < cs.length) : w.cell? ⟨g, j, none⟩ = some (.int .i64 (cs.getD j 0)) := by
  rw [cell_of_row w g j _ e _ h, List.getElem?_toArray, ints_get cs j hj]
theorem RowAt.free {w : World} {g : Nat} {e : TypeId} {cs : List Int} (h : RowAt w g e cs) (j : Nat) : w.frozen? ⟨g, j, none⟩ = false := frozen_of_row w g j _ e h
theorem RowAt.put {w : World} {g : Nat} {e : TypeId} {cs : List Int} (h : RowAt w g e cs) {j : Nat} (hj : j < cs.length) (x : Int) : RowAt (w.setCell ⟨g, j, none⟩ (.int .i64 x)) g e (cs.set j x) := by
  unfold RowAt at h ⊢
  have hs : g < w.heap.size := (Array.getElem?_eq_some_iff.1 h).1
  have hv : w.heap[g] = .cells (ints cs).toArray e (0, 0) := (Array.getElem?_eq_some_iff.1 h).2
  simp only [World.setCell]
  rw [Array.getElem?_eq_getElem (by simpa using hs), Array.getElem_modify_self, hv]
  simp [ints]
theorem RowAt.keep {w w' : World} {g : Nat} {e : TypeId} {cs : List Int} (h : RowAt w g e cs) (hb : Below w.heap.size w w') : RowAt w' g e cs := by
  unfold RowAt at h ⊢
  rw [hb.block g (RowAt.lt h)]; exact h
theorem RowAt.drewN {w : World} {g : Nat} {e : TypeId} {cs : List Int} (h : RowAt w g e cs) (n : Nat) : RowAt (w.drewN n) g e cs := h
theorem RowAt.own {w : World} {g base : Nat} {e : TypeId} {cs : List Int} (h : RowAt w g e cs) (hb : base ≤ g) (hl : cs.length ≤ maxLen) : w.ownsRow base e 1 (.slice (some ⟨g, 0, none⟩) cs.length cs.length) cs.length (ints cs) :=
  ⟨by rw [ints_len, Nat.mul_one], .inr ⟨g, cs.length, (ints cs).toArray, rfl, hb, h, Nat.le_refl _, hl, by simp [ints_len], by
    rw [List.take_of_length_le]
    simp [ints_len]⟩⟩
theorem RowAt.made {w : World} {g base n : Nat} {e : TypeId} (h : w.ownsRow base e 1 (.slice (some ⟨g, 0, none⟩) n n) n (madeCells #[.int .i64 0] n).toList) : RowAt w g e (List.replicate n 0) ∧ base ≤ g := by
  obtain ⟨hl, h | ⟨g', cap, cur, hv, hg, hh, hn, hcap, hcs, htk⟩⟩ := h
  · exact absurd h.1 (by simp)
  · cases hv
    refine ⟨?_, hg⟩
    unfold RowAt
    rw [hh]
    rw [toList_madeCells_one, List.take_of_length_le (by simp [hcs])] at htk
    have : cur = (ints (List.replicate n 0)).toArray := by
      apply Array.toList_inj.1
      rw [htk]; simp [ints]
    rw [this]

/-- Only the block g has been written. -/
def OnlyG (g : Nat) (w w' : World) : Prop := w'.heap.size = w.heap.size ∧ (∀ k, k ≠ g → w'.heap[k]? = w.heap[k]?) ∧ ∀ (B : Nat) (w0 : World), B ≤ g → Below B w0 w → Below B w0 w'
theorem OnlyG.one (g o : Nat) (w : World) (v : Value) : OnlyG g w (w.setCell ⟨g, o, none⟩ v) :=
  ⟨by simp, fun k h => Below.heap_setCell _ _ _ _ h, fun B w0 hB hb => hb.setCell hB _⟩
theorem OnlyG.trans {g : Nat} {w w1 w2 : World} (h : OnlyG g w w1) (h' : OnlyG g w1 w2) : OnlyG g w w2 :=
  ⟨h'.1.trans h.1, fun k e => (h'.2.1 k e).trans (h.2.1 k e), fun B w0 hB hb => h'.2.2 B w0 hB (h.2.2 B w0 hB hb)⟩
theorem ObAt.only {w w' : World} {g g' : Nat} {T : TypeId} {cs : Array Value} (h : ObAt w g T cs) (ho : OnlyG g' w w') (hne : g ≠ g') : ObAt w' g T cs := by
  unfold ObAt at *; rw [ho.2.1 g hne]; exact h

theorem rowF_add {T : Nat} {f : Int → Int} {h : Nat} (hh : h < T) (x : Int) : (rowF T f).set h (f h + x) = rowF T (fun i => f i + if i = (h : Int) then x else 0) := by
  rw [rowF_set hh]
  refine rowF_congr fun i _ _ => ?_
  by_cases e : i = (h : Int)
  · rw [if_pos e, if_pos e, e]
  · rw [if_neg e, if_neg e]; omega

set_option maxHeartbeats 1600000 in
theorem lgAdd_any (T : Nat) (hT : T ≤ 8) (f : Int → Int) (hf : ∀ i : Int, 0 ≤ i → i < T → 0 ≤ f i ∧ f i ≤ 100000) (g : Nat) (wn : Int) (hw : 2 ≤ wn ∧ wn ≤ 3) (h a : Nat) (hh : h < T) (ha : a < T) (hne : h ≠ a) (more : Int) (w : World) (hr : RowAt w g 3 (rowF T f)) :
    Calls Try.prog 85 #[.slice (some ⟨g, 0, none⟩) T T, .int .i64 wn, .int .i64 h, .int .i64 a, .int .i64 more] w fun e w' => e = .returned (.tuple #[]) ∧ RowAt w' g 3 (rowF T fun i => f i + addG wn h a more i) ∧ OnlyG g w w' := by
  have ch := hr.cell (j := h) (by rw [rowF_len]; exact hh)
  have ca := hr.cell (j := a) (by rw [rowF_len]; exact ha)
  rw [rowF_get hh] at ch
  rw [rowF_get ha] at ca
  have fh := hr.free h
  have fa := hr.free a
  obtain ⟨h1, h2⟩ := hf h (by omega) (by omega)
  obtain ⟨a1, a2⟩ := hf a (by omega) (by omega)
  have bh : (h : Int) < (T : Int) := by omega
  have ba : (a : Int) < (T : Int) := by omega
  by_cases m1 : 0 < more
  · have hp := hr.put (j := h) (by rw [rowF_len]; exact hh) (f h + wn)
    rw [rowF_add hh wn] at hp
    rw [rowF_congr (g := fun i => f i + addG wn h a more i) (fun i _ _ => by unfold addG; simp only [gt_iff_lt, if_pos m1]; rw [if_neg (show ¬ more < 0 by omega)]; split <;> simp)] at hp
    have HP := Lib.hid (And.intro hp (OnlyG.one g h w (.int .i64 (f h + wn)))); clear hp hr hf
    generalize f (h : Int) = x at *
    generalize f (a : Int) = y at *
    go_enter Try.func85, Try.ntmps85
    go_wp2
    refine bodyPost_end (v := .tuple #[]) (by simp [results, Try.results85, go_sem]) rfl ?_
    exact ⟨rfl, HP.out⟩
  · by_cases m2 : more < 0
    · have hp := hr.put (j := a) (by rw [rowF_len]; exact ha) (f a + wn)
      rw [rowF_add ha wn] at hp
      rw [rowF_congr (g := fun i => f i + addG wn h a more i) (fun i _ _ => by
        unfold addG; simp only [gt_iff_lt, if_neg m1, if_pos m2]
        by_cases e : i = (h : Int)
        · rw [if_pos e, if_neg (by omega)]
        · rw [if_neg e])] at hp
      have HP := Lib.hid (And.intro hp (OnlyG.one g a w (.int .i64 (f a + wn)))); clear hp hr hf
      generalize f (h : Int) = x at *
      generalize f (a : Int) = y at *
      go_enter Try.func85, Try.ntmps85
      go_wp2
      refine bodyPost_end (v := .tuple #[]) (by simp [results, Try.results85, go_sem]) rfl ?_
      exact ⟨rfl, HP.out⟩
    · have hp0 := hr.put (j := h) (by rw [rowF_len]; exact hh) (f h + 1)
      rw [rowF_add hh 1] at hp0
      have hp := hp0.put (j := a) (by rw [rowF_len]; exact ha) (f a + 1)
      have ea : (rowF T fun i => f i + if i = (h : Int) then 1 else 0).set a (f a + 1) = rowF T (fun i => f i + addG wn h a more i) := by
        rw [rowF_set ha]
        refine rowF_congr fun i _ _ => ?_
        unfold addG; simp only [gt_iff_lt, if_neg m1, if_neg m2]
        by_cases e : i = (a : Int)
        · rw [if_pos e, if_neg (by omega), if_pos e, e]
        · rw [if_neg e, if_neg e]
      rw [ea] at hp
      have HP := Lib.hid (And.intro hp ((OnlyG.one g h w (.int .i64 (f h + 1))).trans (OnlyG.one g a _ (.int .i64 (f a + 1))))); clear hp hp0 hr hf ea
      generalize f (h : Int) = x at *
      generalize f (a : Int) = y at *
      go_enter Try.func85, Try.ntmps85
      go_wp2
      refine bodyPost_end (v := .tuple #[]) (by simp [results, Try.results85, go_sem]) rfl ?_
      exact ⟨rfl, HP.out⟩

/-- The row of all points. -/
def ptsRow (T : Nat) (wn : Int) (l : List Rs) : List Int := rowF T fun i => ptsT wn l i

set_option maxHeartbeats 3200000 in
set_option maxRecDepth 100000 in
theorem lgPoints_any (T : Nat) (wn : Int) (l : List Rs) (hgd : goodL T wn l = true) (ad : Option Addr) (c : Nat) (w : World) (hr : Reads w ad (ress l)) :
    Calls Try.prog 70 #[.agg #[.int .i64 T, .int .i64 wn, .slice ad l.length c]] w fun e w' => ∃ g, e = .returned (.slice (some ⟨g, 0, none⟩) T T) ∧ w.heap.size ≤ g ∧ RowAt w' g 3 (ptsRow T wn l) ∧ Below w.heap.size w w' := by
  obtain ⟨t2, t8, hw2, hw3, h56⟩ := goodL_bd hgd
  obtain ⟨i0, hi, hz0, hz1, hz2⟩ := info_parts infoInt
  have HI := Lib.hid (And.intro hi (And.intro hz0 (And.intro hz1 hz2))); clear hi hz0 hz1 hz2
  have HGD := Lib.hid (goodL_get hgd); clear hgd
  have HR := Lib.hid hr; clear hr
  have HB0 := Lib.hid (Below.ofNew (w := w) (.cells #[.int .i64 T, .int .i64 wn, .slice ad l.length c] 40))
  have HA := Lib.hid (ObAt.new w 40 #[.int .i64 T, .int .i64 wn, .slice ad l.length c])
  have hT8 : T ≤ 8 := by omega
  go_enter Try.func70, Try.ntmps70
  go_wp2_with (at_make; refine wpList_make_full _ rfl _ _ _ rfl (w.heap.size + 1) _ i0 _ 1 Try.underlying25 HI.out.1 HI.out.2.1 HI.out.2.2.1 .i64 .i64 _ _ T rfl rfl rfl rfl ?_ ?_ ?_ ?_)
  · rw [HI.out.2.2.2]; omega
  · unfold maxLen; omega
  · simp
  intro w1 hown hgrow
  have hrow := (RowAt.made (e := 3) hown).1
  rw [rowF_zero] at hrow
  have hbA : Below (w.alloc (.cells #[.int .i64 T, .int .i64 wn, .slice ad l.length c] 40)).heap.size (w.alloc (.cells #[.int .i64 T, .int .i64 wn, .slice ad l.length c] 40)) w1 := (Below.refl _ _).grown hgrow (Nat.le_refl _) (fun k hk => by cases hk)
  obtain ⟨g, hg⟩ : ∃ g, g = w.heap.size + 1 := ⟨_, rfl⟩
  have H0 : Hid (RowAt w1 g 3 (rowF T fun i => ptsT wn (l.take 0) i) ∧ ObAt w1 w.heap.size 40 #[.int .i64 T, .int .i64 wn, .slice ad l.length c] ∧ Below w.heap.size w w1) := ⟨by rw [hg]; exact hrow, HA.out.keep hbA, HB0.out.trans (hbA.mono (by simp))⟩
  have HG := Lib.hid hg
  clear hown hgrow hrow hbA HA HB0
  rw [← hg]
  clear hg
  obtain ⟨p0, p1, p2, -, -, -⟩ := H0.out.2.1.three
  go_wp2_with fail
  go_loopw [12] (fun i wr => ∃ k : Nat, i = .int .i64 k ∧ k ≤ l.length ∧ Hid (RowAt wr g 3 (rowF T fun i => ptsT wn (l.take k) i) ∧ ObAt wr w.heap.size 40 #[.int .i64 T, .int .i64 wn, .slice ad l.length c] ∧ Below w.heap.size w wr)) (fun i _ => l.length - (intOf i).toNat)
  case atStart => exact ⟨0, rfl, Nat.zero_le _, H0⟩
  case round =>
    clear p0 p1 p2 H0
    obtain ⟨k, rfl, hk, hH⟩ := hrel
    by_cases hlt : k < l.length
    · have b1 : (k : Int) < (l.length : Int) := by omega
      obtain ⟨b, off, ha, _, hc⟩ := rcells_of_reads (HR.out.old hH.out.2.2) (by omega)
      subst ha
      obtain ⟨c0, c1, c2, c3⟩ := hc k hlt
      clear hc
      have hgr := HGD.out k hlt
      have hsn := fun i => ptsT_snoc (wn := wn) l k hlt hgr i
      obtain ⟨⟨x0, xT⟩, ⟨y0, yT⟩, hne, g1, g2⟩ := goodR_bd hgr
      have HSN := Lib.hid hsn; clear hsn hgr
      generalize l.getD k zR = r at *
      obtain ⟨x, y, z, u⟩ := r
      simp only at c0 c1 c2 c3 g1 g2 x0 xT y0 yT hne
      obtain ⟨X, rfl⟩ : ∃ X : Nat, x = X := ⟨x.toNat, by omega⟩
      obtain ⟨Y, rfl⟩ : ∃ Y : Nat, y = Y := ⟨y.toNat, by omega⟩
      have hbR := hH.out.2.2.alloc hH.out.2.2.size (.cells #[.int .i64 X, .int .i64 Y, .int .i64 z, .int .i64 u] 101)
      have hrow2 := hH.out.1.keep (Below.ofNew (w := wr) (.cells #[.int .i64 X, .int .i64 Y, .int .i64 z, .int .i64 u] 101))
      have hob2 := hH.out.2.1.old (.cells #[.int .i64 X, .int .i64 Y, .int .i64 z, .int .i64 u] 101)
      have hcall := lgAdd_any T hT8 (fun i => ptsT wn (l.take k) i) (fun i _ _ => by
        have h1 := ptsT_bd (wn := wn) ⟨hw2, hw3⟩ (l.take k) i
        rw [List.length_take] at h1; omega) g wn ⟨hw2, hw3⟩ X Y (by omega) (by omega) (by omega) (z - u) _ hrow2
      have HC := Lib.hid (And.intro hcall (And.intro hob2 hbR)); clear hcall hob2 hbR hrow2
      have hp := hH.out.2.1
      have hlt0 := hp.lt
      obtain ⟨p0, p1, p2, -, -, -⟩ := hp.three
      clear hp hH hne
      go_wp2_with fail
      refine HC.out.1.mono ?_; rintro e w3 ⟨rfl, r3, o3⟩
      have hgne : w.heap.size ≠ g := by have := HG.out; omega
      have H3 : Hid (RowAt w3 g 3 (rowF T fun i => ptsT wn (l.take (k + 1)) i) ∧ ObAt w3 w.heap.size 40 #[.int .i64 T, .int .i64 wn, .slice (some ⟨b, off, none⟩) l.length c] ∧ Below w.heap.size w w3) :=
        ⟨by rw [rowF_congr (fun i _ _ => HSN.out i)]; exact r3, HC.out.2.1.only o3 hgne, o3.2.2 _ _ (by have := HG.out; omega) HC.out.2.2⟩
      clear r3 o3 HC HSN hgne p0 p1 p2
      go_wp2_with fail
      go_roundw
      case rel => exact ⟨k + 1, by go_num, by omega, H3⟩
      case measure => simp [intOf]; omega
    · obtain rfl : k = l.length := by omega
      have hh := hH.out
      rw [List.take_length] at hh
      have HH := Lib.hid hh; clear hh hH
      go_wp2_with fail
      go_ret
      exact ⟨g, rfl, by rw [HG.out]; omega, HH.out.1, HH.out.2.2⟩
end Go.Proofs.Ythbkclgdoopbpaa
