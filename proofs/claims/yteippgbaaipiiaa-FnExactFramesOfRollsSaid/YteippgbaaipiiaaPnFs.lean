/-
  Pins: the program's scores: the closure that appends to what it captured.
-/
import Derived.Test.YteippgbaaipiiaaPnSc
namespace Go.Proofs.Yteippgbaaipiiaa
open Go.RowKit
set_option linter.unusedVariables false
set_option linter.unusedSimpArgs false

/-- A captured variable: a block of one cell. -/
def CapAt (w : World) (g : Nat) (v : Value) : Prop := w.heap[g]? = some (.cells #[v] 22 (0, 0))
theorem CapAt.cell {w : World} {g : Nat} {v : Value} (h : CapAt w g v) : w.cell? ⟨g, 0, none⟩ = some v := cell_of_row _ _ 0 _ _ _ h
theorem CapAt.free {w : World} {g : Nat} {v : Value} (h : CapAt w g v) : w.frozen? ⟨g, 0, none⟩ = false := frozen_of_row _ _ 0 _ _ h
theorem CapAt.lt {w : World} {g : Nat} {v : Value} (h : CapAt w g v) : g < w.heap.size := (Array.getElem?_eq_some_iff.1 h).1
theorem CapAt.keep {w w' : World} {g : Nat} {v : Value} (h : CapAt w g v) (hb : Below w.heap.size w w') : CapAt w' g v := by
  unfold CapAt at *; rw [hb.block _ (Array.getElem?_eq_some_iff.1 h).1]; exact h
theorem CapAt.put {w : World} {g : Nat} {v : Value} (h : CapAt w g v) (v' : Value) : CapAt (w.setCell ⟨g, 0, none⟩ v') g v' := by
  unfold CapAt at *
  have h0 := setRow_heap w g _ (#[v].setIfInBounds 0 v') _ _ h
  rw [← setCell_eq_setRow w g 0 _ _ _ _ h] at h0
  exact h0
theorem CapAt.grown {w w' : World} {g T base n size : Nat} {v0 : Value} (h : CapAt w g v0) {v : Value} {xs : List Value} (hT : 22 ≠ T) (ho : w.ownsRow base T size v n xs) (hg : w.grownBy w' v.ownBlock) : CapAt w' g v0 := by
  have hne := owns_apart h hT ho
  have hlt := h.lt
  unfold CapAt at *
  rw [hg.block g hlt (fun e => hne e.symm)]; exact h
/-- Frames stay as they were. -/
def FrKept (w w' : World) : Prop := ∀ (k : Nat) (cs : Array Value), w.heap[k]? = some (.cells cs 55 (0, 0)) → w'.heap[k]? = some (.cells cs 55 (0, 0))
theorem FrKept.below {w w' w3 : World} (h : FrKept w w') (hb : Below w'.heap.size w' w3) : FrKept w w3 := fun k cs e => by
  have := h k cs e
  rw [hb.block k (Array.getElem?_eq_some_iff.1 this).1]; exact this
theorem FrKept.grown {w w' w3 : World} {T base n size : Nat} {v : Value} {xs : List Value} (h : FrKept w w') (hT : 55 ≠ T) (ho : w'.ownsRow base T size v n xs) (hg : w'.grownBy w3 v.ownBlock) : FrKept w w3 := fun k cs e => by
  have h1 := h k cs e
  rw [hg.block k (Array.getElem?_eq_some_iff.1 h1).1 (fun e2 => owns_apart h1 hT ho e2.symm)]; exact h1
theorem FrKept.put {w w' : World} {g : Nat} {v v' : Value} (h : FrKept w w') (hc : CapAt w' g v) : FrKept w (w'.setCell ⟨g, 0, none⟩ v') := fun k cs e => by
  have h1 := h k cs e
  rw [Below.heap_setCell _ _ _ _ (fun ek => by subst ek; unfold CapAt at hc; rw [hc] at h1; simp at h1)]; exact h1
def CapR (B g : Nat) (out : List Int) (w w' : World) : Prop := (∃ a c, CapAt w' g (.slice a out.length c) ∧ w'.ownsRow B 3 1 (.slice a out.length c) out.length (ints out)) ∧ Below B w w' ∧ FrKept w w'

set_option maxHeartbeats 3200000 in
set_option maxRecDepth 100000 in
theorem count_any (B g : Nat) (hBg : B ≤ g) (v : Value) (out part : List Int) (ho : out.length ≤ 10) (hp : part.length ≤ 30) (hb : ∀ x ∈ part, 0 ≤ x ∧ x ≤ 30) (a : Option Addr) (c : Nat) (w : World) (hc : CapAt w g v) (how : w.ownsRow B 3 1 v out.length (ints out)) (h : Reads w a (ints part)) :
    Calls Try.prog 66 #[.slice a part.length c, .pointer (some ⟨g, 0, none⟩)] w fun e w' => e = .returned (.tuple #[]) ∧ CapR B g (out ++ [part.sum]) w w' := by
  obtain ⟨i0, hi0, hz0, hz1, hz2⟩ := info_parts infoInt
  have HI := Lib.hid (And.intro hi0 (And.intro hz0 (And.intro hz1 hz2))); clear hi0 hz0 hz1 hz2
  have hsum := fun (w' : World) (hr : Reads w' a (ints part)) => sumOf_any part a c w' hp hb hr
  have HS := Lib.hid hsum; clear hsum hb
  have HX := Lib.hid (And.intro (show CapAt w.drew g v from hc) (And.intro (show w.drew.ownsRow B 3 1 v out.length (ints out) from how) (And.intro (show Reads w.drew a (ints part) from h) (And.intro (Below.drew (Below.refl B w)) (show FrKept w w.drew from fun _ _ e => e))))); clear hc how h
  have hBlt : B ≤ w.drew.heap.size := Nat.le_trans hBg (Nat.le_of_lt HX.out.1.lt)
  have HBL := Lib.hid hBlt; clear hBlt
  generalize hss : part.sum = sm at *
  clear hss
  go_enter Try.func66, Try.ntmps66
  go_wp2_with fail
  refine wp_region_any (by kernel_rfl) ?_
  change wpAny _ _ _ _ _ _ _ w.drew
  generalize w.drew = W0 at *
  (refine wpAny_take (i := 1) (v := ?_) rfl (by kernel_rfl) (by kernel_rfl) (by kernel_rfl) (fun _ _ _ h => h) (Or.inl ⟨by kernel_rfl, ?_⟩) ?_; rotate_left; focus (intro w; go_simp; try with_reducible rfl); (try simp only [List.getElem_toArray, List.getElem_cons_succ, List.getElem_cons_zero, Act.put, List.setIfInBounds_toArray, List.set_cons_zero, List.set_cons_succ]))
  refine wpAny_ready (rs := [0, 2]) (by kernel_rfl) (by simp) (AllReady.cons rfl (fun K hK => ?_) (AllReady.cons rfl (fun K hK => ?_) AllReady.nil))
  · have hcell := HX.out.1.cell
    have HK := Lib.hid hK; clear hK
    go_simp
    clear hcell
    refine HK.out _ _ ?_
    clear HK K
    (try simp only [List.getElem_toArray, List.getElem_cons_succ, List.getElem_cons_zero, Act.put, List.setIfInBounds_toArray, List.set_cons_zero, List.set_cons_succ])
    refine wpAny_ready (rs := [2]) (by kernel_rfl) (by simp) (AllReady.cons rfl (fun K hK => ?_) AllReady.nil)
    have HK := Lib.hid hK; clear hK
    go_simp
    go_at_call 67
    refine (HS.out _ HX.out.2.2.1).mono ?_; rintro e w9' ⟨rfl, rfl⟩
    go_wp2_with fail
    refine HK.out _ _ ?_
    clear HK K
    (try simp only [List.getElem_toArray, List.getElem_cons_succ, List.getElem_cons_zero, Act.put, List.setIfInBounds_toArray, List.set_cons_zero, List.set_cons_succ])
    refine wpAny_ready (rs := [3]) (by kernel_rfl) (by simp) (AllReady.cons rfl (fun K hK => ?_) AllReady.nil)
    have HK := Lib.hid hK; clear hK
    go_simp
    have bd := below_new W0 (.cells #[.int .i64 sm] 3)
    have H9 := Lib.hid (And.intro (HX.out.1.keep bd) (And.intro (owns_below HX.out.2.1 bd) (And.intro (OneAt.new W0 sm) (And.intro (HX.out.2.2.2.1.trans (bd.mono HBL.out)) (HX.out.2.2.2.2.below bd)))))
    have HZ9 := Lib.hid (Nat.le_trans HBL.out bd.size)
    clear bd
    generalize W0.alloc (.cells #[.int .i64 sm] 3) = w9 at *
    refine HK.out _ _ ?_
    clear HK K
    (try simp only [List.getElem_toArray, List.getElem_cons_succ, List.getElem_cons_zero, Act.put, List.setIfInBounds_toArray, List.set_cons_zero, List.set_cons_succ])
    refine wpAny_ready (rs := [4]) (by kernel_rfl) (by simp) (AllReady.cons rfl (fun K hK => ?_) AllReady.nil)
    have HK := Lib.hid hK; clear hK
    (try simp only [List.getElem_toArray, List.getElem_cons_succ, List.getElem_cons_zero, Act.put, List.setIfInBounds_toArray, List.set_cons_zero, List.set_cons_succ])
    rw [if_pos (by kernel_rfl)]
    refine wp_append_at (.tmp 3) (.tmp 6) 22 ?_ B 3 i0 (.int .i64 0) 1 8 Try.underlying22 HI.out.1 HI.out.2.1 HI.out.2.2.1 HI.out.2.2.2 rfl (by decide) v out.length (ints out) ?_ H9.out.2.1 _ 1 1 [.int .i64 sm] ?_ (by simp) H9.out.2.2.1.news ?_ ?_ ?_ HZ9.out ?_
    · rfl
    · rfl
    · rfl
    · first | (intro u hu; simp at hu; subst hu; rfl) | rfl | simp
    · unfold maxLen; omega
    · omega
    intro v7 w7 hown hgrow _
    obtain ⟨a7, c7, rfl, -⟩ := Reads.own hown
    have h7 := H9.out.1.grown (by decide) H9.out.2.1 hgrow
    have hb7 := below_grown H9.out.2.2.2.1 H9.out.2.1 hgrow HZ9.out
    have hk7 := H9.out.2.2.2.2.grown (by decide) H9.out.2.1 hgrow
    have hrow7 : (w7.setCell ⟨g, 0, none⟩ (.slice a7 (out.length + 1) c7)).ownsRow B 3 1 (.slice a7 (out.length + 1) c7) (out.length + 1) (ints out ++ [.int .i64 sm]) := owns_heap hown (fun k e => Below.heap_setCell _ _ _ _ (fun ek => owns_apart h7 (by decide) hown (by rw [e, ek])))
    have hfin : CapR B g (out ++ [sm]) w (w7.setCell ⟨g, 0, none⟩ (.slice a7 (out.length + 1) c7)) := by
      refine ⟨⟨a7, c7, ?_, ?_⟩, hb7.setCell (p := ⟨g, 0, none⟩) hBg _, hk7.put h7⟩
      · rw [List.length_append]; exact h7.put _
      · rw [List.length_append, show ints (out ++ [sm]) = ints out ++ [.int .i64 sm] from by simp [ints]]; exact hrow7
    have HF := Lib.hid hfin; clear hfin
    have hc7 := h7.cell
    have hf7 := h7.free
    clear h7 hb7 hk7 hrow7 hown hgrow H9
    refine HK.out _ _ ?_
    clear HK K
    (try simp only [List.getElem_toArray, List.getElem_cons_succ, List.getElem_cons_zero, Act.put, List.setIfInBounds_toArray, List.set_cons_zero, List.set_cons_succ])
    refine wpAny_ready (rs := [5]) (by kernel_rfl) (by simp) (AllReady.cons rfl (fun K hK => ?_) AllReady.nil)
    have HK := Lib.hid hK; clear hK
    go_simp
    clear hc7 hf7
    refine HK.out _ _ ?_
    clear HK K
    (try simp only [List.getElem_toArray, List.getElem_cons_succ, List.getElem_cons_zero, Act.put, List.setIfInBounds_toArray, List.set_cons_zero, List.set_cons_succ])
    refine wpAny_done (by kernel_rfl) ?_ _
    go_wp2_with fail
    refine bodyPost_end (v := .tuple #[]) (by simp [results, Try.results66, go_sem]) rfl ?_
    exact ⟨rfl, HF.out⟩
  · have HK := Lib.hid hK; clear hK
    go_simp
    go_at_call 67
    refine (HS.out _ HX.out.2.2.1).mono ?_; rintro e w9' ⟨rfl, rfl⟩
    go_wp2_with fail
    refine HK.out _ _ ?_
    clear HK K
    (try simp only [List.getElem_toArray, List.getElem_cons_succ, List.getElem_cons_zero, Act.put, List.setIfInBounds_toArray, List.set_cons_zero, List.set_cons_succ])
    refine wpAny_ready (rs := [0, 3]) (by kernel_rfl) (by simp) (AllReady.cons rfl (fun K hK => ?_) (AllReady.cons rfl (fun K hK => ?_) AllReady.nil))
    · have hcell := HX.out.1.cell
      have HK := Lib.hid hK; clear hK
      go_simp
      clear hcell
      refine HK.out _ _ ?_
      clear HK K
      (try simp only [List.getElem_toArray, List.getElem_cons_succ, List.getElem_cons_zero, Act.put, List.setIfInBounds_toArray, List.set_cons_zero, List.set_cons_succ])
      refine wpAny_ready (rs := [3]) (by kernel_rfl) (by simp) (AllReady.cons rfl (fun K hK => ?_) AllReady.nil)
      have HK := Lib.hid hK; clear hK
      go_simp
      have bd := below_new W0 (.cells #[.int .i64 sm] 3)
      have H9 := Lib.hid (And.intro (HX.out.1.keep bd) (And.intro (owns_below HX.out.2.1 bd) (And.intro (OneAt.new W0 sm) (And.intro (HX.out.2.2.2.1.trans (bd.mono HBL.out)) (HX.out.2.2.2.2.below bd)))))
      have HZ9 := Lib.hid (Nat.le_trans HBL.out bd.size)
      clear bd
      generalize W0.alloc (.cells #[.int .i64 sm] 3) = w9 at *
      refine HK.out _ _ ?_
      clear HK K
      (try simp only [List.getElem_toArray, List.getElem_cons_succ, List.getElem_cons_zero, Act.put, List.setIfInBounds_toArray, List.set_cons_zero, List.set_cons_succ])
      refine wpAny_ready (rs := [4]) (by kernel_rfl) (by simp) (AllReady.cons rfl (fun K hK => ?_) AllReady.nil)
      have HK := Lib.hid hK; clear hK
      (try simp only [List.getElem_toArray, List.getElem_cons_succ, List.getElem_cons_zero, Act.put, List.setIfInBounds_toArray, List.set_cons_zero, List.set_cons_succ])
      rw [if_pos (by kernel_rfl)]
      refine wp_append_at (.tmp 3) (.tmp 6) 22 ?_ B 3 i0 (.int .i64 0) 1 8 Try.underlying22 HI.out.1 HI.out.2.1 HI.out.2.2.1 HI.out.2.2.2 rfl (by decide) v out.length (ints out) ?_ H9.out.2.1 _ 1 1 [.int .i64 sm] ?_ (by simp) H9.out.2.2.1.news ?_ ?_ ?_ HZ9.out ?_
      · rfl
      · rfl
      · rfl
      · first | (intro u hu; simp at hu; subst hu; rfl) | rfl | simp
      · unfold maxLen; omega
      · omega
      intro v7 w7 hown hgrow _
      obtain ⟨a7, c7, rfl, -⟩ := Reads.own hown
      have h7 := H9.out.1.grown (by decide) H9.out.2.1 hgrow
      have hb7 := below_grown H9.out.2.2.2.1 H9.out.2.1 hgrow HZ9.out
      have hk7 := H9.out.2.2.2.2.grown (by decide) H9.out.2.1 hgrow
      have hrow7 : (w7.setCell ⟨g, 0, none⟩ (.slice a7 (out.length + 1) c7)).ownsRow B 3 1 (.slice a7 (out.length + 1) c7) (out.length + 1) (ints out ++ [.int .i64 sm]) := owns_heap hown (fun k e => Below.heap_setCell _ _ _ _ (fun ek => owns_apart h7 (by decide) hown (by rw [e, ek])))
      have hfin : CapR B g (out ++ [sm]) w (w7.setCell ⟨g, 0, none⟩ (.slice a7 (out.length + 1) c7)) := by
        refine ⟨⟨a7, c7, ?_, ?_⟩, hb7.setCell (p := ⟨g, 0, none⟩) hBg _, hk7.put h7⟩
        · rw [List.length_append]; exact h7.put _
        · rw [List.length_append, show ints (out ++ [sm]) = ints out ++ [.int .i64 sm] from by simp [ints]]; exact hrow7
      have HF := Lib.hid hfin; clear hfin
      have hc7 := h7.cell
      have hf7 := h7.free
      clear h7 hb7 hk7 hrow7 hown hgrow H9
      refine HK.out _ _ ?_
      clear HK K
      (try simp only [List.getElem_toArray, List.getElem_cons_succ, List.getElem_cons_zero, Act.put, List.setIfInBounds_toArray, List.set_cons_zero, List.set_cons_succ])
      refine wpAny_ready (rs := [5]) (by kernel_rfl) (by simp) (AllReady.cons rfl (fun K hK => ?_) AllReady.nil)
      have HK := Lib.hid hK; clear hK
      go_simp
      clear hc7 hf7
      refine HK.out _ _ ?_
      clear HK K
      (try simp only [List.getElem_toArray, List.getElem_cons_succ, List.getElem_cons_zero, Act.put, List.setIfInBounds_toArray, List.set_cons_zero, List.set_cons_succ])
      refine wpAny_done (by kernel_rfl) ?_ _
      go_wp2_with fail
      refine bodyPost_end (v := .tuple #[]) (by simp [results, Try.results66, go_sem]) rfl ?_
      exact ⟨rfl, HF.out⟩
    · have HK := Lib.hid hK; clear hK
      go_simp
      have bd := below_new W0 (.cells #[.int .i64 sm] 3)
      have H9 := Lib.hid (And.intro (HX.out.1.keep bd) (And.intro (owns_below HX.out.2.1 bd) (And.intro (OneAt.new W0 sm) (And.intro (HX.out.2.2.2.1.trans (bd.mono HBL.out)) (HX.out.2.2.2.2.below bd)))))
      have HZ9 := Lib.hid (Nat.le_trans HBL.out bd.size)
      clear bd
      generalize W0.alloc (.cells #[.int .i64 sm] 3) = w9 at *
      refine HK.out _ _ ?_
      clear HK K
      (try simp only [List.getElem_toArray, List.getElem_cons_succ, List.getElem_cons_zero, Act.put, List.setIfInBounds_toArray, List.set_cons_zero, List.set_cons_succ])
      have hcell := H9.out.1.cell
      refine wpAny_ready (rs := [0]) (by kernel_rfl) (by simp) (AllReady.cons rfl (fun K hK => ?_) AllReady.nil)
      have HK := Lib.hid hK; clear hK
      go_simp
      clear hcell
      refine HK.out _ _ ?_
      clear HK K
      (try simp only [List.getElem_toArray, List.getElem_cons_succ, List.getElem_cons_zero, Act.put, List.setIfInBounds_toArray, List.set_cons_zero, List.set_cons_succ])
      refine wpAny_ready (rs := [4]) (by kernel_rfl) (by simp) (AllReady.cons rfl (fun K hK => ?_) AllReady.nil)
      have HK := Lib.hid hK; clear hK
      (try simp only [List.getElem_toArray, List.getElem_cons_succ, List.getElem_cons_zero, Act.put, List.setIfInBounds_toArray, List.set_cons_zero, List.set_cons_succ])
      rw [if_pos (by kernel_rfl)]
      refine wp_append_at (.tmp 3) (.tmp 6) 22 ?_ B 3 i0 (.int .i64 0) 1 8 Try.underlying22 HI.out.1 HI.out.2.1 HI.out.2.2.1 HI.out.2.2.2 rfl (by decide) v out.length (ints out) ?_ H9.out.2.1 _ 1 1 [.int .i64 sm] ?_ (by simp) H9.out.2.2.1.news ?_ ?_ ?_ HZ9.out ?_
      · rfl
      · rfl
      · rfl
      · first | (intro u hu; simp at hu; subst hu; rfl) | rfl | simp
      · unfold maxLen; omega
      · omega
      intro v7 w7 hown hgrow _
      obtain ⟨a7, c7, rfl, -⟩ := Reads.own hown
      have h7 := H9.out.1.grown (by decide) H9.out.2.1 hgrow
      have hb7 := below_grown H9.out.2.2.2.1 H9.out.2.1 hgrow HZ9.out
      have hk7 := H9.out.2.2.2.2.grown (by decide) H9.out.2.1 hgrow
      have hrow7 : (w7.setCell ⟨g, 0, none⟩ (.slice a7 (out.length + 1) c7)).ownsRow B 3 1 (.slice a7 (out.length + 1) c7) (out.length + 1) (ints out ++ [.int .i64 sm]) := owns_heap hown (fun k e => Below.heap_setCell _ _ _ _ (fun ek => owns_apart h7 (by decide) hown (by rw [e, ek])))
      have hfin : CapR B g (out ++ [sm]) w (w7.setCell ⟨g, 0, none⟩ (.slice a7 (out.length + 1) c7)) := by
        refine ⟨⟨a7, c7, ?_, ?_⟩, hb7.setCell (p := ⟨g, 0, none⟩) hBg _, hk7.put h7⟩
        · rw [List.length_append]; exact h7.put _
        · rw [List.length_append, show ints (out ++ [sm]) = ints out ++ [.int .i64 sm] from by simp [ints]]; exact hrow7
      have HF := Lib.hid hfin; clear hfin
      have hc7 := h7.cell
      have hf7 := h7.free
      clear h7 hb7 hk7 hrow7 hown hgrow H9
      refine HK.out _ _ ?_
      clear HK K
      (try simp only [List.getElem_toArray, List.getElem_cons_succ, List.getElem_cons_zero, Act.put, List.setIfInBounds_toArray, List.set_cons_zero, List.set_cons_succ])
      refine wpAny_ready (rs := [5]) (by kernel_rfl) (by simp) (AllReady.cons rfl (fun K hK => ?_) AllReady.nil)
      have HK := Lib.hid hK; clear hK
      go_simp
      clear hc7 hf7
      refine HK.out _ _ ?_
      clear HK K
      (try simp only [List.getElem_toArray, List.getElem_cons_succ, List.getElem_cons_zero, Act.put, List.setIfInBounds_toArray, List.set_cons_zero, List.set_cons_succ])
      refine wpAny_done (by kernel_rfl) ?_ _
      go_wp2_with fail
      refine bodyPost_end (v := .tuple #[]) (by simp [results, Try.results66, go_sem]) rfl ?_
      exact ⟨rfl, HF.out⟩
end Go.Proofs.Yteippgbaaipiiaa
