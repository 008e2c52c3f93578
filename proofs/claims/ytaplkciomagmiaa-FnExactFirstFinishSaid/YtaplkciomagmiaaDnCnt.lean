/-
  Darts: how many lists of so many darts have each score: the model.
-/
import Derived.Test.YtaplkciomagmiaaDnRow
import Derived.StillTailTactics
namespace Go.Proofs.Ytaplkciomagmiaa
open Go.RowKit
set_option linter.unusedVariables false
set_option linter.unusedSimpArgs false

theorem wrap64_add (a b : Int) : wrap64 (wrap64 a + wrap64 b) = wrap64 (a + b) := by unfold wrap64; omega
theorem wrap64_in {a : Int} (h0 : 0 ≤ a) (h1 : a ≤ 1000000000000) : wrap64 a = a := by unfold wrap64; omega
def rowW (M : Nat) (f : Int → Int) : List Int := (List.range M).map fun (i : Nat) => wrap64 (f i)
theorem rowW_len (M : Nat) (f : Int → Int) : (rowW M f).length = M := by simp [rowW]
theorem rowW_get {M i : Nat} (f : Int → Int) (h : i < M) : (rowW M f).getD i 0 = wrap64 (f i) := by simp [rowW, h]
theorem rowW_congr {M : Nat} {f g : Int → Int} (h : ∀ i : Nat, i < M → f i = g i) : rowW M f = rowW M g := by
  unfold rowW
  refine List.map_congr_left fun i hi => ?_
  rw [h i (List.mem_range.1 hi)]
theorem rowW_step {M c : Nat} {f g : Int → Int} (h : c < M) : (rowW M fun i => if i < (c : Int) then f i else g i).set c (wrap64 (f c)) = rowW M fun i => if i < ((c + 1 : Nat) : Int) then f i else g i := by
  apply List.ext_getElem
  · simp [rowW]
  · intro i h1 h2
    rw [List.getElem_set]
    simp only [rowW, List.getElem_map, List.getElem_range]
    by_cases q : c = i
    · subst q; rw [if_pos rfl, if_pos (by omega)]
    · rw [if_neg q]
      by_cases q2 : (i : Int) < (c : Int)
      · rw [if_pos q2, if_pos (by omega)]
      · rw [if_neg q2, if_neg (by omega)]
theorem rowW_end {M c : Nat} {f g : Int → Int} (h : M ≤ c) : (rowW M fun i => if i < (c : Int) then f i else g i) = rowW M f := by
  refine rowW_congr fun i hi => ?_
  rw [if_pos (by omega)]
theorem rowW_low {M s : Nat} {f g : Int → Int} (h : ∀ i : Nat, i < s → f i = g i) : (rowW M fun i => if i < (s : Int) then f i else g i) = rowW M g := by
  refine rowW_congr fun i hi => ?_
  by_cases q : (i : Int) < (s : Int)
  · rw [if_pos q, h i (by omega)]
  · rw [if_neg q]
theorem rowW_zero (M : Nat) {f : Int → Int} (h : ∀ i, f i = 0) : rowW M f = List.replicate M 0 := by
  apply List.ext_getElem
  · simp [rowW]
  · intro i h1 h2
    simp only [rowW, List.getElem_map, h, List.getElem_replicate]
    exact wrap64_in (by omega) (by omega)
theorem rowW_first (M : Nat) : rowW (M + 1) (ways 0) = 1 :: List.replicate M 0 := by
  apply List.ext_getElem
  · simp [rowW]
  · intro i h1 h2
    simp only [rowW, List.getElem_map, List.getElem_range, ways]
    cases i with
    | zero => simp; exact wrap64_in (by omega) (by omega)
    | succ i => simp; rw [if_neg (by omega)]; exact wrap64_in (by omega) (by omega)

def parV (b : Bool) (k j : Nat) (n : Int) : Int := sumD ((allD.take j).filter fun d => !b || dblD d) fun d => ways k (n - scD d)
def cntV (dbl : Bool) (D k : Nat) (n : Int) : Int := if dbl = true ∧ 0 < k ∧ k = D then finW k n else ways k n
theorem parV_zero (b : Bool) (k : Nat) (n : Int) : parV b k 0 n = 0 := rfl
theorem parV_succ (b : Bool) (k : Nat) {j : Nat} (hj : j < allD.length) (n : Int) : parV b k (j + 1) n = parV b k j n + (if (!b || dblD (allD.getD j (0, 0))) = true then ways k (n - scD (allD.getD j (0, 0))) else 0) := by
  unfold parV
  rw [List.take_succ_eq_append_getElem hj, List.filter_append, sumD_app]
  have e : allD.getD j (0, 0) = allD[j] := by simp [hj]
  rw [e]
  congr 1
  rw [List.filter_cons]
  split
  · rw [List.filter_nil, sumD_cons, sumD_nil]; omega
  · rw [List.filter_nil, sumD_nil]
theorem filter_tt (l : List (Int × Int)) : (l.filter fun _ => true) = l := List.filter_eq_self.2 (by simp)
theorem parV_all (dbl : Bool) {D k : Nat} (h : k < D) (n : Int) : parV (dbl && decide (k + 1 = D)) k allD.length n = cntV dbl D (k + 1) n := by
  unfold parV cntV
  rw [List.take_length]
  cases dbl
  · rw [Bool.false_and, if_neg (by simp)]
    simp only [Bool.not_false, Bool.true_or]
    rw [filter_tt]; rfl
  · by_cases q : k + 1 = D
    · rw [if_pos ⟨rfl, by omega, q⟩]
      simp only [q, decide_true, Bool.and_true, Bool.not_true, Bool.false_or]
      rw [← q]; rfl
    · rw [if_neg (fun z => q z.2.2)]
      simp only [q, decide_false, Bool.and_false, Bool.not_false, Bool.true_or]
      rw [filter_tt]; rfl
theorem cntV_early (dbl : Bool) {D k : Nat} (h : k < D) (n : Int) : cntV dbl D k n = ways k n := by unfold cntV; rw [if_neg (fun z => by omega)]
theorem parV_low (b : Bool) (k : Nat) {j s : Nat} {x1 x2 : Int} (hs : x1 * x2 = s) (h : ∀ n, parV b k (j + 1) n = parV b k j n + (if (!b || dblD (x1, x2)) = true then ways k (n - scD (x1, x2)) else 0)) (i : Nat) (hi : i < s) : parV b k (j + 1) i = parV b k j i := by
  rw [h, ways_neg k _ (by show (i : Int) - x1 * x2 < 0; omega)]
  split <;> omega
theorem cell_set_other (w : World) (p : Addr) (v : Value) {b o : Nat} (h : b ≠ p.block) : (w.setCell p v).drew.cell? ⟨b, o, none⟩ = w.cell? ⟨b, o, none⟩ := by
  have e : (w.setCell p v).drew.heap[b]? = w.heap[b]? := heap_setCell_other w p b v h
  unfold World.cell?
  simp only [e]

/-- Both rows, and the darts. -/
def Cnt2 (w : World) (gn gx gd : Nat) (l : List (Int × Int)) (N : Nat) (f h : Int → Int) (wr : World) : Prop :=
  RowAt wr gx 3 (rowW (N + 1) h) ∧ RowAt wr gn 3 (rowW (N + 1) f) ∧ DcAt wr gd l ∧ Below w.heap.size w wr
theorem Cnt2.keep {w wr w' : World} {gn gx gd N : Nat} {l : List (Int × Int)} {f h : Int → Int} (c : Cnt2 w gn gx gd l N f h wr) (hb : Below wr.heap.size wr w') : Cnt2 w gn gx gd l N f h w' :=
  ⟨c.1.keep hb, c.2.1.keep hb, c.2.2.1.keep hb, c.2.2.2.trans (hb.mono c.2.2.2.size)⟩
theorem Cnt2.put2 {w wr : World} {gn gx gd N c : Nat} {l : List (Int × Int)} {f h : Int → Int} {v : Int} (k : Cnt2 w gn gx gd l N f h wr) (hne : gn ≠ gx ∧ gd ≠ gx ∧ w.heap.size ≤ gx) :
    RowAt (wr.setCell ⟨gx, c, none⟩ (.int .i64 v)).drew gn 3 (rowW (N + 1) f) ∧ DcAt (wr.setCell ⟨gx, c, none⟩ (.int .i64 v)).drew gd l ∧ Below w.heap.size w (wr.setCell ⟨gx, c, none⟩ (.int .i64 v)).drew :=
  ⟨k.2.1.other ⟨gx, c, none⟩ _ hne.1, k.2.2.1.other ⟨gx, c, none⟩ _ hne.2.1, (k.2.2.2.setCell (p := ⟨gx, c, none⟩) hne.2.2 _).drew⟩
def Cnt1 (w : World) (gn gd : Nat) (l : List (Int × Int)) (N : Nat) (f : Int → Int) (wr : World) : Prop :=
  w.heap.size ≤ gn ∧ RowAt wr gn 3 (rowW (N + 1) f) ∧ DcAt wr gd l ∧ Below w.heap.size w wr

set_option maxRecDepth 8000 in
set_option maxHeartbeats 6400000 in
theorem daCount_any (D N : Nat) (hD : D ≤ 100) (hN : N ≤ 1001) (dbl : Bool) (w : World) :
    Calls Try.prog 49 #[.int .i64 D, .int .i64 N, .bool dbl] w fun e w' => ∃ g, e = .returned (.slice (some ⟨g, 0, none⟩) (N + 1) (N + 1)) ∧ w.heap.size ≤ g ∧ RowAt w' g 3 (rowW (N + 1) (cntV dbl D D)) ∧ Below w.heap.size w w' := by
  obtain ⟨i0, hi, hz0, hz1, hz2⟩ := info_parts infoInt
  have HI := Lib.hid (And.intro hi (And.intro hz0 (And.intro hz1 hz2))); clear hi hz0 hz1 hz2
  go_enter Try.func49, Try.ntmps49
  go_wp2_with (at_make; refine wpList_make_full _ rfl _ _ _ rfl w.heap.size _ i0 _ 1 Try.underlying28 HI.out.1 HI.out.2.1 HI.out.2.2.1 .i64 .i64 _ _ (N + 1) rfl rfl rfl rfl ?_ ?_ (Nat.le_refl _) ?_)
  · rw [HI.out.2.2.2]; omega
  · unfold maxLen; omega
  intro w2 hown hgrow
  have hr := (RowAt.made (e := 3) hown).1
  have hbel : Below w.heap.size w w2 := (Below.refl _ _).grown hgrow (Nat.le_refl _) (fun k hk => by cases hk)
  have hr2 := hr.put (j := 0) (by simp) 1
  rw [List.replicate_succ, List.set_cons_zero, ← rowW_first] at hr2
  have c0 := hr.cell (j := 0) (by simp)
  have f0 := hr.free 0
  have H2 : Hid (RowAt (w2.setCell ⟨w.heap.size, 0, none⟩ (.int .i64 1)) w.heap.size 3 (rowW (N + 1) (ways 0)) ∧ Below w.heap.size w (w2.setCell ⟨w.heap.size, 0, none⟩ (.int .i64 1))) :=
    ⟨hr2, hbel.setCell (p := ⟨w.heap.size, 0, none⟩) (Nat.le_refl _) _⟩
  clear hr hbel hr2 hown hgrow
  have b0 : (0 : Int) < (N : Int) + 1 := by omega
  go_wp2_with fail
  clear c0 f0
  generalize w2.setCell ⟨w.heap.size, 0, none⟩ (.int .i64 1) = W0 at *
  refine (daAll_any _).mono ?_; rintro e w1 ⟨v, rfl, hown, b1⟩
  obtain ⟨gd, cap, rfl, hgd, hdc⟩ := dcells_of_own hown (by rw [allD_len]; omega)
  obtain ⟨l, hl⟩ : ∃ l, l = allD := ⟨_, rfl⟩
  rw [← hl] at hdc ⊢
  have hl62 : l.length ≤ 62 := by rw [hl, allD_len]; omega
  have HL := Lib.hid hl; clear hl
  obtain ⟨g0, hg0⟩ : ∃ g0, g0 = w.heap.size := ⟨_, rfl⟩
  have HS : Hid (Cnt1 w w.heap.size gd l N (cntV dbl D 0) w1) := Lib.hid (by
    refine ⟨Nat.le_refl _, ?_, hdc, H2.out.2.trans (b1.mono H2.out.2.size)⟩
    rw [show cntV dbl D 0 = ways 0 from funext fun n => by unfold cntV; rw [if_neg (fun z => by omega)]]
    exact H2.out.1.keep b1)
  have HGd : Hid (w.heap.size ≠ gd) := Lib.hid (by have := H2.out.1.lt; omega)
  clear hown hdc H2 b1 hgd hg0
  go_wp2_with fail
  generalize w.heap.size = g0 at *
  go_loopw [7, 9] (fun v i wr => ∃ k gn : Nat, i = .int .i64 ((k : Int) + 1) ∧ k ≤ D ∧ v = .slice (some ⟨gn, 0, none⟩) (N + 1) (N + 1) ∧ gn ≠ gd ∧ Hid (Cnt1 w gn gd l N (cntV dbl D k) wr)) (fun _ i _ => D + 1 - (intOf i).toNat)
  case atStart => exact ⟨0, g0, rfl, by omega, rfl, HGd.out, HS⟩
  case round =>
    clear HS HGd
    obtain ⟨k, gn, rfl, hk0, rfl, hgn, hC⟩ := hrel
    by_cases hk : k < D
    · have b1 : (k : Int) + 1 ≤ (D : Int) := by omega
      have HWay := Lib.hid (cntV_early dbl hk)
      obtain ⟨B, hB⟩ : ∃ B : Bool, B = (dbl && decide (k + 1 = D)) := ⟨_, rfl⟩
      have HBe := Lib.hid hB; clear hB
      go_wp2_with (at_make; refine wpList_make_full _ rfl _ _ _ rfl wr.heap.size _ i0 _ 1 Try.underlying28 HI.out.1 HI.out.2.1 HI.out.2.2.1 .i64 .i64 _ _ (N + 1) rfl rfl rfl rfl ?_ ?_ (Nat.le_refl _) ?_)
      · rw [HI.out.2.2.2]; omega
      · unfold maxLen; omega
      intro w3 hown hgrow
      have hr := (RowAt.made (e := 3) hown).1
      have hbel : Below wr.heap.size wr w3 := (Below.refl _ _).grown hgrow (Nat.le_refl _) (fun k hk => by cases hk)
      obtain ⟨h1, h2, h3, h4⟩ := hC.out
      have HS2 : Hid (Cnt2 w gn wr.heap.size gd l N (cntV dbl D k) (parV B k 0) w3) := Lib.hid ⟨by rw [rowW_zero _ (parV_zero _ _)]; exact hr, h2.keep hbel, h3.keep hbel, h4.trans (hbel.mono h4.size)⟩
      have HNE : Hid (gn ≠ wr.heap.size ∧ gd ≠ wr.heap.size ∧ w.heap.size ≤ wr.heap.size) := by
        have := h2.lt
        have := h3.1
        have := h4.size
        exact Lib.hid ⟨by omega, by omega, by omega⟩
      have HG0 := Lib.hid h1
      clear hr hbel hown hgrow h1 h2 h3 h4 hC
      go_wp2_with fail
      generalize wr.heap.size = gx at *
      go_loopw [30] (fun i wr2 => ∃ j : Nat, i = .int .i64 j ∧ j ≤ l.length ∧ Hid (Cnt2 w gn gx gd l N (cntV dbl D k) (parV B k j) wr2)) (fun i _ => l.length - (intOf i).toNat)
      case atStart => exact ⟨0, rfl, Nat.zero_le _, HS2⟩
      case round =>
        clear HS2
        obtain ⟨j, rfl, hj, hW⟩ := hrel
        by_cases hlt : j < l.length
        · have b2 : (j : Int) < (l.length : Int) := by omega
          obtain ⟨c0, c1⟩ := hW.out.2.2.1.2 j hlt
          have HPar : Hid (∀ n, parV B k (j + 1) n = parV B k j n + (if (!B || dblD (l.getD j (0, 0))) = true then ways k (n - scD (l.getD j (0, 0))) else 0)) := Lib.hid (by
            rw [HL.out]; exact parV_succ _ _ (by rw [← HL.out]; exact hlt))
          have hbd := allD_bd (l.getD j (0, 0)) (by rw [← HL.out]; simp [hlt])
          generalize l.getD j (0, 0) = x at *
          obtain ⟨x1, x2⟩ := x
          simp only [scD] at hbd
          simp only at c0 c1
          obtain ⟨g5, g6, -, -, -, -⟩ := hbd
          obtain ⟨s, hs⟩ : ∃ s : Nat, x1 * x2 = (s : Int) := ⟨(x1 * x2).toNat, by omega⟩
          have HLow0 := Lib.hid (fun b h => parV_low b k (j := j) hs h)
          have HW3 : Hid (Cnt2 w gn gx gd l N (cntV dbl D k) (parV B k j) (wr.alloc (.cells #[.int .i64 x1, .int .i64 x2] 55))) := Lib.hid (hW.out.keep (below_new _ _))
          have HBk : Hid (wr.heap.size < (wr.alloc (.cells #[.int .i64 x1, .int .i64 x2] 55)).heap.size ∧ wr.heap.size ≠ gx ∧ (wr.alloc (.cells #[.int .i64 x1, .int .i64 x2] 55)).cell? ⟨wr.heap.size, 0, none⟩ = some (.int .i64 x1) ∧ (wr.alloc (.cells #[.int .i64 x1, .int .i64 x2] 55)).cell? ⟨wr.heap.size, 1, none⟩ = some (.int .i64 x2)) :=
            Lib.hid ⟨by simp, by have := hW.out.1.lt; omega, cell_of_row _ _ 0 _ _ _ (heap_alloc_last _ _), cell_of_row _ _ 1 _ _ _ (heap_alloc_last _ _)⟩
          have HLow : Hid (Cnt2 w gn gx gd l N (cntV dbl D k) (fun i => if i < (s : Int) then parV B k (j + 1) i else parV B k j i) (wr.alloc (.cells #[.int .i64 x1, .int .i64 x2] 55))) := Lib.hid (by
            obtain ⟨h1, h2⟩ := HW3.out
            refine ⟨?_, h2⟩
            rw [rowW_low (fun i hi => HLow0.out _ HPar.out i hi)]; exact h1)
          have hpar1 := HPar.out
          have hsc : scD (x1, x2) = (s : Int) := hs
          rw [hsc] at hpar1
          have HPar := Lib.hid hpar1; clear hpar1 hsc
          clear hW HLow0
          cases dbl
          · obtain rfl : B = false := HBe.out
            have hpar := HPar.out; simp only [Bool.not_false, Bool.true_or, if_true] at hpar
            have HPar := Lib.hid hpar; clear hpar
            have k0 := HBk.out.2.2.1
            have k1 := HBk.out.2.2.2
            go_wp2_with fail
            generalize wr.alloc (.cells #[.int .i64 x1, .int .i64 x2] 55) = W1 at *
            generalize wr.heap.size = bk at *
            go_loopw [13] (fun i wr3 => ∃ c : Nat, i = .int .i64 c ∧ s ≤ c ∧ (c ≤ N + 1 ∨ c = s) ∧ Hid (Cnt2 w gn gx gd l N (cntV false D k) (fun i => if i < (c : Int) then parV false k (j + 1) i else parV false k j i) wr3) ∧ Hid (bk < wr3.heap.size ∧ bk ≠ gx ∧ wr3.cell? ⟨bk, 0, none⟩ = some (.int .i64 x1) ∧ wr3.cell? ⟨bk, 1, none⟩ = some (.int .i64 x2))) (fun i _ => N + 1 - (intOf i).toNat)
            case atStart => exact ⟨s, rfl, Nat.le_refl _, .inr rfl, HLow, HBk⟩
            case round =>
              clear HLow HBk k0 k1
              obtain ⟨c, rfl, hsc, hcn, hC, hB⟩ := hrel
              by_cases hc : c ≤ N
              · have b4 : (c : Int) ≤ (N : Int) := by omega
                have b5 : (c : Int) < (N : Int) + 1 := by omega
                obtain ⟨q, hq⟩ : ∃ q : Nat, (c : Int) - (s : Int) = (q : Int) := ⟨c - s, by omega⟩
                have b6 : (q : Int) < (N : Int) + 1 := by omega
                have hwq : IntKind.i64.wrap (q : Int) = (q : Int) := IntWalk.i64_in _ (by omega)
                have hws : IntKind.i64.wrap (s : Int) = (s : Int) := IntWalk.i64_in _ (by omega)
                have d1 := hC.out.1.cell (j := c) (by rw [rowW_len]; omega)
                have d2 := hC.out.2.1.cell (j := q) (by rw [rowW_len]; omega)
                have f1 := hC.out.1.free c
                rw [rowW_get _ (by omega)] at d1 d2
                rw [if_neg (by omega)] at d1
                have hpu := hC.out.1.put (j := c) (by rw [rowW_len]; omega) (wrap64 (wrap64 (parV false k j c) + wrap64 (cntV false D k q)))
                rw [wrap64_add, HWay.out, show (q : Int) = (c : Int) - (s : Int) from hq.symm, ← HPar.out, rowW_step (by omega)] at hpu
                have hnew := hC.out.put2 (c := c) (v := wrap64 (wrap64 (parV false k j c) + wrap64 (cntV false D k q))) HNE.out
                have hput : Cnt2 w gn gx gd l N (cntV false D k) (fun i => if i < ((c + 1 : Nat) : Int) then parV false k (j + 1) i else parV false k j i) (wr.setCell ⟨gx, c, none⟩ (.int .i64 (wrap64 (wrap64 (parV false k j c) + wrap64 (cntV false D k q))))).drew := by
                  refine ⟨?_, hnew⟩
                  rw [wrap64_add, HWay.out, show (q : Int) = (c : Int) - (s : Int) from hq.symm, ← HPar.out]
                  exact hpu
                have HPU := Lib.hid hput
                have e0 := hB.out.2.2.1
                have e1 := hB.out.2.2.2
                have HB2 : Hid (bk < ((wr.setCell ⟨gx, c, none⟩ (.int .i64 (wrap64 (wrap64 (parV false k j c) + wrap64 (cntV false D k q))))).drew).heap.size ∧ bk ≠ gx ∧ ((wr.setCell ⟨gx, c, none⟩ (.int .i64 (wrap64 (wrap64 (parV false k j c) + wrap64 (cntV false D k q))))).drew).cell? ⟨bk, 0, none⟩ = some (.int .i64 x1) ∧ ((wr.setCell ⟨gx, c, none⟩ (.int .i64 (wrap64 (wrap64 (parV false k j c) + wrap64 (cntV false D k q))))).drew).cell? ⟨bk, 1, none⟩ = some (.int .i64 x2)) :=
                  Lib.hid ⟨by simpa using hB.out.1, hB.out.2.1, by rw [← e0]; exact cell_set_other _ _ _ hB.out.2.1, by rw [← e1]; exact cell_set_other _ _ _ hB.out.2.1⟩
                clear hput hpu hnew hC hB
                generalize parV false k j c = y1 at *
                generalize cntV false D k q = y2 at *
                go_wp2_with fail
                go_still_tail 16, (by kernel_rfl)
                go_wp2_with fail
                go_roundw
                case rel => exact ⟨c + 1, by go_num, by omega, by omega, HPU, HB2⟩
                case measure => simp [intOf]; omega
              · have hend : Hid (Cnt2 w gn gx gd l N (cntV false D k) (parV false k (j + 1)) wr) := Lib.hid (by
                  have := hC.out
                  unfold Cnt2 at this ⊢
                  rw [rowW_end (by omega)] at this
                  exact this)
                have b4 : ¬ (c : Int) ≤ (N : Int) := by omega
                clear hC hB
                go_wp2_with fail
                go_roundw
                case rel => exact ⟨j + 1, by go_num, by omega, hend⟩
                case measure => simp [intOf]; omega
          · by_cases q1 : k + 1 = D
            · have e1 : ((k : Int) + 1 == (D : Int)) = true := by rw [beq_iff_eq]; omega
              obtain rfl : B = true := by rw [HBe.out]; simp [q1]
              by_cases q4 : x2 = 2
              · have hpar := HPar.out
                have hd : dblD (x1, x2) = true := by simp [dblD, q4]
                simp only [hd, Bool.or_true, if_true] at hpar
                have HPar := Lib.hid hpar; clear hpar hd
                have e4 : (x2 != 2) = false := by rw [q4]; rfl
                clear q4
                have k0 := HBk.out.2.2.1
                have k1 := HBk.out.2.2.2
                go_wp2_with fail
                generalize wr.alloc (.cells #[.int .i64 x1, .int .i64 x2] 55) = W1 at *
                generalize wr.heap.size = bk at *
                go_loopw [13] (fun i wr3 => ∃ c : Nat, i = .int .i64 c ∧ s ≤ c ∧ (c ≤ N + 1 ∨ c = s) ∧ Hid (Cnt2 w gn gx gd l N (cntV true D k) (fun i => if i < (c : Int) then parV true k (j + 1) i else parV true k j i) wr3) ∧ Hid (bk < wr3.heap.size ∧ bk ≠ gx ∧ wr3.cell? ⟨bk, 0, none⟩ = some (.int .i64 x1) ∧ wr3.cell? ⟨bk, 1, none⟩ = some (.int .i64 x2))) (fun i _ => N + 1 - (intOf i).toNat)
                case atStart => exact ⟨s, rfl, Nat.le_refl _, .inr rfl, HLow, HBk⟩
                case round =>
                  clear HLow HBk k0 k1
                  obtain ⟨c, rfl, hsc, hcn, hC, hB⟩ := hrel
                  by_cases hc : c ≤ N
                  · have b4 : (c : Int) ≤ (N : Int) := by omega
                    have b5 : (c : Int) < (N : Int) + 1 := by omega
                    obtain ⟨q, hq⟩ : ∃ q : Nat, (c : Int) - (s : Int) = (q : Int) := ⟨c - s, by omega⟩
                    have b6 : (q : Int) < (N : Int) + 1 := by omega
                    have hwq : IntKind.i64.wrap (q : Int) = (q : Int) := IntWalk.i64_in _ (by omega)
                    have hws : IntKind.i64.wrap (s : Int) = (s : Int) := IntWalk.i64_in _ (by omega)
                    have d1 := hC.out.1.cell (j := c) (by rw [rowW_len]; omega)
                    have d2 := hC.out.2.1.cell (j := q) (by rw [rowW_len]; omega)
                    have f1 := hC.out.1.free c
                    rw [rowW_get _ (by omega)] at d1 d2
                    rw [if_neg (by omega)] at d1
                    have hpu := hC.out.1.put (j := c) (by rw [rowW_len]; omega) (wrap64 (wrap64 (parV true k j c) + wrap64 (cntV true D k q)))
                    rw [wrap64_add, HWay.out, show (q : Int) = (c : Int) - (s : Int) from hq.symm, ← HPar.out, rowW_step (by omega)] at hpu
                    have hnew := hC.out.put2 (c := c) (v := wrap64 (wrap64 (parV true k j c) + wrap64 (cntV true D k q))) HNE.out
                    have hput : Cnt2 w gn gx gd l N (cntV true D k) (fun i => if i < ((c + 1 : Nat) : Int) then parV true k (j + 1) i else parV true k j i) (wr.setCell ⟨gx, c, none⟩ (.int .i64 (wrap64 (wrap64 (parV true k j c) + wrap64 (cntV true D k q))))).drew := by
                      refine ⟨?_, hnew⟩
                      rw [wrap64_add, HWay.out, show (q : Int) = (c : Int) - (s : Int) from hq.symm, ← HPar.out]
                      exact hpu
                    have HPU := Lib.hid hput
                    have e0 := hB.out.2.2.1
                    have e1 := hB.out.2.2.2
                    have HB2 : Hid (bk < ((wr.setCell ⟨gx, c, none⟩ (.int .i64 (wrap64 (wrap64 (parV true k j c) + wrap64 (cntV true D k q))))).drew).heap.size ∧ bk ≠ gx ∧ ((wr.setCell ⟨gx, c, none⟩ (.int .i64 (wrap64 (wrap64 (parV true k j c) + wrap64 (cntV true D k q))))).drew).cell? ⟨bk, 0, none⟩ = some (.int .i64 x1) ∧ ((wr.setCell ⟨gx, c, none⟩ (.int .i64 (wrap64 (wrap64 (parV true k j c) + wrap64 (cntV true D k q))))).drew).cell? ⟨bk, 1, none⟩ = some (.int .i64 x2)) :=
                      Lib.hid ⟨by simpa using hB.out.1, hB.out.2.1, by rw [← e0]; exact cell_set_other _ _ _ hB.out.2.1, by rw [← e1]; exact cell_set_other _ _ _ hB.out.2.1⟩
                    clear hput hpu hnew hC hB
                    generalize parV true k j c = y1 at *
                    generalize cntV true D k q = y2 at *
                    go_wp2_with fail
                    go_still_tail 16, (by kernel_rfl)
                    go_wp2_with fail
                    go_roundw
                    case rel => exact ⟨c + 1, by go_num, by omega, by omega, HPU, HB2⟩
                    case measure => simp [intOf]; omega
                  · have hend : Hid (Cnt2 w gn gx gd l N (cntV true D k) (parV true k (j + 1)) wr) := Lib.hid (by
                      have := hC.out
                      unfold Cnt2 at this ⊢
                      rw [rowW_end (by omega)] at this
                      exact this)
                    have b4 : ¬ (c : Int) ≤ (N : Int) := by omega
                    clear hC hB
                    go_wp2_with fail
                    go_roundw
                    case rel => exact ⟨j + 1, by go_num, by omega, hend⟩
                    case measure => simp [intOf]; omega
              · have hpar := HPar.out
                have hd : dblD (x1, x2) = false := by simp [dblD, q4]
                simp only [hd, Bool.not_true, Bool.or_false, Bool.false_eq_true, if_false, Int.add_zero] at hpar
                have hend : Hid (Cnt2 w gn gx gd l N (cntV true D k) (parV true k (j + 1)) (wr.alloc (.cells #[.int .i64 x1, .int .i64 x2] 55))) := Lib.hid (by
                  rw [show parV true k (j + 1) = parV true k j from funext hpar]
                  exact HW3.out)
                have e4 : (x2 != 2) = true := by rw [bne_iff_ne]; exact q4
                clear q4 hpar hd HPar HLow HW3
                have k0 := HBk.out.2.2.1
                have k1 := HBk.out.2.2.2
                go_wp2_with fail
                go_roundw
                case rel => exact ⟨j + 1, by go_num, by omega, hend⟩
                case measure => simp [intOf]; omega
            · have e1 : ((k : Int) + 1 == (D : Int)) = false := by rw [beq_eq_false_iff_ne]; omega
              obtain rfl : B = false := by rw [HBe.out]; simp [q1]
              have hpar := HPar.out; simp only [Bool.not_false, Bool.true_or, if_true] at hpar
              have HPar := Lib.hid hpar; clear hpar
              have k0 := HBk.out.2.2.1
              have k1 := HBk.out.2.2.2
              go_wp2_with fail
              generalize wr.alloc (.cells #[.int .i64 x1, .int .i64 x2] 55) = W1 at *
              generalize wr.heap.size = bk at *
              go_loopw [13] (fun i wr3 => ∃ c : Nat, i = .int .i64 c ∧ s ≤ c ∧ (c ≤ N + 1 ∨ c = s) ∧ Hid (Cnt2 w gn gx gd l N (cntV true D k) (fun i => if i < (c : Int) then parV false k (j + 1) i else parV false k j i) wr3) ∧ Hid (bk < wr3.heap.size ∧ bk ≠ gx ∧ wr3.cell? ⟨bk, 0, none⟩ = some (.int .i64 x1) ∧ wr3.cell? ⟨bk, 1, none⟩ = some (.int .i64 x2))) (fun i _ => N + 1 - (intOf i).toNat)
              case atStart => exact ⟨s, rfl, Nat.le_refl _, .inr rfl, HLow, HBk⟩
              case round =>
                clear HLow HBk k0 k1
                obtain ⟨c, rfl, hsc, hcn, hC, hB⟩ := hrel
                by_cases hc : c ≤ N
                · have b4 : (c : Int) ≤ (N : Int) := by omega
                  have b5 : (c : Int) < (N : Int) + 1 := by omega
                  obtain ⟨q, hq⟩ : ∃ q : Nat, (c : Int) - (s : Int) = (q : Int) := ⟨c - s, by omega⟩
                  have b6 : (q : Int) < (N : Int) + 1 := by omega
                  have hwq : IntKind.i64.wrap (q : Int) = (q : Int) := IntWalk.i64_in _ (by omega)
                  have hws : IntKind.i64.wrap (s : Int) = (s : Int) := IntWalk.i64_in _ (by omega)
                  have d1 := hC.out.1.cell (j := c) (by rw [rowW_len]; omega)
                  have d2 := hC.out.2.1.cell (j := q) (by rw [rowW_len]; omega)
                  have f1 := hC.out.1.free c
                  rw [rowW_get _ (by omega)] at d1 d2
                  rw [if_neg (by omega)] at d1
                  have hpu := hC.out.1.put (j := c) (by rw [rowW_len]; omega) (wrap64 (wrap64 (parV false k j c) + wrap64 (cntV true D k q)))
                  rw [wrap64_add, HWay.out, show (q : Int) = (c : Int) - (s : Int) from hq.symm, ← HPar.out, rowW_step (by omega)] at hpu
                  have hnew := hC.out.put2 (c := c) (v := wrap64 (wrap64 (parV false k j c) + wrap64 (cntV true D k q))) HNE.out
                  have hput : Cnt2 w gn gx gd l N (cntV true D k) (fun i => if i < ((c + 1 : Nat) : Int) then parV false k (j + 1) i else parV false k j i) (wr.setCell ⟨gx, c, none⟩ (.int .i64 (wrap64 (wrap64 (parV false k j c) + wrap64 (cntV true D k q))))).drew := by
                    refine ⟨?_, hnew⟩
                    rw [wrap64_add, HWay.out, show (q : Int) = (c : Int) - (s : Int) from hq.symm, ← HPar.out]
                    exact hpu
                  have HPU := Lib.hid hput
                  have e0 := hB.out.2.2.1
                  have e1 := hB.out.2.2.2
                  have HB2 : Hid (bk < ((wr.setCell ⟨gx, c, none⟩ (.int .i64 (wrap64 (wrap64 (parV false k j c) + wrap64 (cntV true D k q))))).drew).heap.size ∧ bk ≠ gx ∧ ((wr.setCell ⟨gx, c, none⟩ (.int .i64 (wrap64 (wrap64 (parV false k j c) + wrap64 (cntV true D k q))))).drew).cell? ⟨bk, 0, none⟩ = some (.int .i64 x1) ∧ ((wr.setCell ⟨gx, c, none⟩ (.int .i64 (wrap64 (wrap64 (parV false k j c) + wrap64 (cntV true D k q))))).drew).cell? ⟨bk, 1, none⟩ = some (.int .i64 x2)) :=
                    Lib.hid ⟨by simpa using hB.out.1, hB.out.2.1, by rw [← e0]; exact cell_set_other _ _ _ hB.out.2.1, by rw [← e1]; exact cell_set_other _ _ _ hB.out.2.1⟩
                  clear hput hpu hnew hC hB
                  generalize parV false k j c = y1 at *
                  generalize cntV true D k q = y2 at *
                  go_wp2_with fail
                  go_still_tail 16, (by kernel_rfl)
                  go_wp2_with fail
                  go_roundw
                  case rel => exact ⟨c + 1, by go_num, by omega, by omega, HPU, HB2⟩
                  case measure => simp [intOf]; omega
                · have hend : Hid (Cnt2 w gn gx gd l N (cntV true D k) (parV false k (j + 1)) wr) := Lib.hid (by
                    have := hC.out
                    unfold Cnt2 at this ⊢
                    rw [rowW_end (by omega)] at this
                    exact this)
                  have b4 : ¬ (c : Int) ≤ (N : Int) := by omega
                  clear hC hB
                  go_wp2_with fail
                  go_roundw
                  case rel => exact ⟨j + 1, by go_num, by omega, hend⟩
                  case measure => simp [intOf]; omega
        · obtain rfl : j = l.length := by omega
          have hfin : Hid (Cnt1 w gx gd l N (cntV dbl D (k + 1)) wr) := Lib.hid (by
            obtain ⟨h1, h2, h3, h4⟩ := hW.out
            refine ⟨HNE.out.2.2, ?_, h3, h4⟩
            rw [HL.out, HBe.out] at h1
            rw [show cntV dbl D (k + 1) = parV (dbl && decide (k + 1 = D)) k allD.length from funext fun n => (parV_all dbl hk n).symm]
            exact h1)
          have hgx : gx ≠ gd := fun e => HNE.out.2.1 e.symm
          clear hW
          have b2 : ¬ (l.length : Int) < (l.length : Int) := by omega
          go_wp2_with fail
          go_roundw
          case rel => exact ⟨k + 1, gx, by go_num, by omega, rfl, hgx, hfin⟩
          case measure => simp [intOf]; omega
    · obtain rfl : k = D := by omega
      have b1 : ¬ (k : Int) + 1 ≤ (k : Int) := by omega
      go_wp2_with fail
      go_ret
      exact ⟨gn, rfl, hC.out.1, hC.out.2.1, hC.out.2.2.2⟩
end Go.Proofs.Ytaplkciomagmiaa
