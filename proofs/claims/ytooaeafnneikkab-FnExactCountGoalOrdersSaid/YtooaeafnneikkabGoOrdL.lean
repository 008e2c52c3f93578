/-
  Goals: CountGoalOrders: the program's.
-/
import Derived.Test.YtooaeafnneikkabGoOrdI
import Derived.Test.YtooaeafnneikkabGoOut
import Derived.Deep.CutRange
namespace Go.Proofs.Ytooaeafnneikkab
open Go.RowKit
set_option linter.unusedVariables false
set_option linter.unusedSimpArgs false

/-- Two captured variables, the row and the score, and the row itself. -/
structure OrdL (ks : List Int) (w wr : World) (go gr k : Nat) (v : Value) : Prop where
  hgo : wr.heap[go]? = some (.cells #[v] 45 (0, 0))
  hgr : wr.heap[gr]? = some (.cells #[.int .i64 ((k : Int) + 1)] 3 (0, 0))
  own : wr.ownsRow w.heap.size 3 1 v (ordP ks k).length (ints (ordP ks k))
  ne : v.ownBlock ≠ some gr
  lo : w.heap.size ≤ go ∧ w.heap.size ≤ gr
  bel : Below w.heap.size w wr
theorem tyne : (45 : TypeId) ≠ 3 := by decide
theorem OrdL.gosize {ks : List Int} {w wr : World} {go gr k : Nat} {v : Value} (h : OrdL ks w wr go gr k v) : go < wr.heap.size ∧ gr < wr.heap.size ∧ go ≠ gr := by
  refine ⟨(Array.getElem?_eq_some_iff.1 h.hgo).1, (Array.getElem?_eq_some_iff.1 h.hgr).1, ?_⟩
  rintro rfl
  have h1 := h.hgo
  rw [h.hgr] at h1
  injection h1 with h1
  injection h1 with h1 h2 h3
  exact tyne h2.symm
theorem OrdL.toC {ks : List Int} {w wr : World} {go gr k : Nat} {v : Value} (h : OrdL ks w wr go gr k v) : OrdC wr (ordP ks k) ((k : Int) + 1) go gr := by
  obtain ⟨g, cap, rfl, _, _, hc⟩ := own_cells h.own (by rw [ordP_len]; omega)
  exact ⟨⟨g, cap, cell_of_row _ _ 0 _ _ _ h.hgo, hc⟩, cell_of_row _ _ 0 _ _ _ h.hgr⟩
def atPtr (p : Value) (w : World) : Int := match p with
  | .pointer (some q) => (match w.cell? q with | some x => intOf x | none => 0)
  | _ => 0
theorem OrdL.atp {ks : List Int} {w wr : World} {go gr k : Nat} {v : Value} (h : OrdL ks w wr go gr k v) : atPtr (.pointer (some ⟨gr, 0, none⟩)) wr = (k : Int) + 1 := by
  have := h.toC.at'
  simp [atPtr, this, intOf]
/-- After the append and its store. -/
structure OrdN (ks : List Int) (w w4 : World) (go gr k : Nat) (v : Value) : Prop where
  hgo : w4.heap[go]? = some (.cells #[v] 45 (0, 0))
  hgr : w4.heap[gr]? = some (.cells #[.int .i64 ((k : Int) + 1)] 3 (0, 0))
  own : w4.ownsRow w.heap.size 3 1 v (ordP ks (k + 1)).length (ints (ordP ks (k + 1)))
  lo : w.heap.size ≤ go
  bel : Below w.heap.size w w4
theorem OrdL.go3 {ks : List Int} {w wr : World} {go gr k : Nat} {v : Value} (h : OrdL ks w wr go gr k v) {o : Obj} {w3 : World} (hg : (wr.alloc o).grownBy w3 v.ownBlock) :
    w3.heap[go]? = some (.cells #[v] 45 (0, 0)) := by
  obtain ⟨s1, s2, s3⟩ := h.gosize
  have hnv : v.ownBlock ≠ some go := owns_apart h.hgo tyne h.own
  rw [hg.block go (by simp; omega) (fun e => hnv e.symm), heap_alloc_old _ _ s1]; exact h.hgo
theorem OrdL.next {ks : List Int} {w wr : World} {go gr k : Nat} {v : Value} (h : OrdL ks w wr go gr k v) {x : Int} (hx : x = (ordP ks (k + 1)).getD (k + 1) 0) {w3 : World} {v' : Value}
    (ho : w3.ownsRow w.heap.size 3 1 v' ((ordP ks k).length + 1) (ints (ordP ks k) ++ [.int .i64 x])) (hg : (wr.alloc (.cells #[.int .i64 x] 3)).grownBy w3 v.ownBlock) :
    OrdN ks w (w3.setCell ⟨go, 0, none⟩ v') go gr k v' := by
  obtain ⟨s1, s2, s3⟩ := h.gosize
  have hsz := h.bel.size
  have hnv : v.ownBlock ≠ some go := owns_apart h.hgo tyne h.own
  have e1 : w3.heap[go]? = some (.cells #[v] 45 (0, 0)) := by
    rw [hg.block go (by simp; omega) (fun e => hnv e.symm), heap_alloc_old _ _ s1]; exact h.hgo
  have e2 : w3.heap[gr]? = some (.cells #[.int .i64 ((k : Int) + 1)] 3 (0, 0)) := by
    rw [hg.block gr (by simp; omega) (fun e => h.ne e.symm), heap_alloc_old _ _ s2]; exact h.hgr
  have hb3 : Below w.heap.size w w3 := (h.bel.alloc hsz _).grown hg (by simp; omega) (fun g hgg => (owns_ge h.own hgg).1)
  have hnv' : v'.ownBlock ≠ some go := owns_apart e1 tyne ho
  refine ⟨?_, ?_, ?_, h.lo.1, hb3.setCell (p := ⟨go, 0, none⟩) h.lo.1 _⟩
  · have h0 := setRow_heap w3 go _ (#[v].setIfInBounds 0 v') _ _ e1
    rw [← setCell_eq_setRow w3 go 0 _ _ _ _ e1] at h0
    exact h0
  · rw [Below.heap_setCell _ _ _ _ (by simp; omega)]; exact e2
  · refine owns_heap ?_ (fun g hgg => Below.heap_setCell _ _ _ _ (by rintro rfl; exact hnv' hgg))
    rw [ints_snoc] at ho
    rw [show ordP ks (k + 1) = ordP ks k ++ [x] by rw [hx, ordP_last]; rfl, List.length_append]
    exact ho
theorem OrdN.fresh {ks : List Int} {w w4 : World} {go gr k : Nat} {v : Value} (h : OrdN ks w w4 go gr k v) : OrdL ks w (w4.alloc (.cells #[.int .i64 (((k + 1 : Nat) : Int) + 1)] 3)) go w4.heap.size (k + 1) v := by
  have s1 := (Array.getElem?_eq_some_iff.1 h.hgo).1
  refine ⟨by rw [heap_alloc_old _ _ s1]; exact h.hgo, heap_alloc_last _ _, owns_heap h.own (fun g hg => heap_alloc_old _ _ (owns_ge h.own hg).2), fun e => ?_, ⟨h.lo, h.bel.size⟩, h.bel.alloc h.bel.size _⟩
  have := (owns_ge h.own e).2
  omega
theorem OrdL.start (ks : List Int) {w w1 : World} (hb : Below w.heap.size w w1) : OrdL ks w (((w1.alloc (.cells #[.int .i64 1] 3)).alloc (.cells #[.slice (some ⟨w1.heap.size, 0, none⟩) 1 1] 45)).alloc (.cells #[.int .i64 1] 3)) (w1.heap.size + 1) (w1.heap.size + 1 + 1) 0 (.slice (some ⟨w1.heap.size, 0, none⟩) 1 1) := by
  have hz := hb.size
  have hb2 := hb.alloc hz (.cells #[.int .i64 1] 3)
  have hb3 := hb2.alloc hb2.size (.cells #[.slice (some ⟨w1.heap.size, 0, none⟩) 1 1] 45)
  have hb4 := hb3.alloc hb3.size (.cells #[.int .i64 1] 3)
  have z1 : (w1.alloc (.cells #[.int .i64 1] 3)).heap.size = w1.heap.size + 1 := by simp
  have z2 : ((w1.alloc (.cells #[.int .i64 1] 3)).alloc (.cells #[.slice (some ⟨w1.heap.size, 0, none⟩) 1 1] 45)).heap.size = w1.heap.size + 1 + 1 := by simp
  refine ⟨?_, ?_, ?_, ?_, ⟨by omega, by omega⟩, hb4⟩
  · rw [heap_alloc_old _ _ (by omega), ← z1]; exact heap_alloc_last _ _
  · rw [← z2]; exact heap_alloc_last _ _
  · refine owns_heap (w := w1.alloc (.cells #[.int .i64 1] 3)) (owns_base (owns_one w1 3 (.int .i64 1)) hz) (fun g hg => ?_)
    simp [Value.ownBlock] at hg
    subst hg
    rw [heap_alloc_old _ _ (by omega), heap_alloc_old _ _ (by omega)]
  · simp [Value.ownBlock]; omega

theorem minO_eq (x : Int) : minO x = if x ≤ 1000000000000001 then x else 1000000000000001 := rfl

set_option maxRecDepth 8000 in
set_option maxHeartbeats 3200000 in
theorem implOrd_any (ks : List Int) (s : Int) (a : Option Addr) (c : Nat) (w : World) (hl : (ks.length : Int) ≤ 1000000000000) (h : Reads w a (ints ks)) :
    Calls Try.prog 32 #[.slice a ks.length c, .int .i64 s] w fun e w' => e = .returned (.tuple #[.int .i64 (ordV ks s), .bool (ordB ks s)]) ∧ Below w.heap.size w w' := by
  have HQ := Lib.hid (areKS_any ks s a c w hl h)
  cases hg : askedG ks s
  · have e : ordV ks s = 0 := by simp [ordV, hg]
    have e2 : ordB ks s = false := by simp [ordB, hg]
    have HE := Lib.hid (And.intro e e2)
    have HG := Lib.hid hg; clear hg e e2 h
    go_enter Try.func32, Try.ntmps32
    go_wp2_with fail
    refine HQ.out.mono ?_; rintro e w1 ⟨rfl, b1⟩
    rw [HG.out]
    go_wp2_with fail
    go_ret2
    exact ⟨by rw [HE.out.1, HE.out.2]; rfl, b1⟩
  · have hl5 := (good_len (asked_split hg).1).2
    obtain ⟨m, rfl, hm, hk⟩ := asked_nat hg
    have e : ordV ks (m : Int) = if ordN ks m ≤ 1000000000000000 then ordN ks m else 0 := by simp [ordV, hg]
    have e2 : ordB ks (m : Int) = decide (ordN ks m ≤ 1000000000000000) := by simp [ordB, hg]
    rw [e, e2]; clear e e2
    have HLIM := Lib.hid (fun W => limitGames_any (ordN ks m) W)
    generalize hV : (if ordN ks m ≤ 1000000000000000 then ordN ks m else 0) = V at *
    generalize hVB : decide (ordN ks m ≤ 1000000000000000) = VB at *
    clear hV hVB
    have HG := Lib.hid hg; clear hg
    have HR := Lib.hid h; clear h
    have HSUM := Lib.hid (fun k go gr w' (hkm : k < m) (hc : OrdC w' (ordP ks k) ((k : Int) + 1) go gr) (hr : Reads w' a (ints ks)) => sumOrd_any ks hk hl5 (ordP ks k) (ordP_bd ks k) ((k : Int) + 1) go gr (by omega) (by omega) (by rw [ordP_len]; omega) a c w' hc hr)
    clear hk
    obtain ⟨i0, hi, hz0, hz1, hz2⟩ := info_parts infoInt
    have HI := Lib.hid (And.intro hi (And.intro hz0 (And.intro hz1 hz2))); clear hi hz0 hz1 hz2
    go_enter Try.func32, Try.ntmps32
    go_wp2_with fail
    refine HQ.out.mono ?_; rintro e w1 ⟨rfl, b1⟩
    rw [HG.out]
    have H0 := Lib.hid (OrdL.start ks b1)
    clear b1
    go_wp2_with fail
    generalize ((w1.alloc (.cells #[.int .i64 1] 3)).alloc (.cells #[.slice (some ⟨w1.heap.size, 0, none⟩) 1 1] 45)).alloc (.cells #[.int .i64 1] 3) = W0 at *
    generalize w1.heap.size + 1 = go at *
    generalize hgr0 : go + 1 = gr0 at *
    clear hgr0
    generalize Value.slice (some ⟨w1.heap.size, 0, none⟩) 1 1 = v0 at *
    go_loopw [7] (fun p wr => ∃ (k gr : Nat) (v : Value), p = .pointer (some ⟨gr, 0, none⟩) ∧ k ≤ m ∧ Hid (OrdL ks w wr go gr k v)) (fun p wr => ((m : Int) + 1 - atPtr p wr).toNat)
    case atStart => exact ⟨0, gr0, v0, rfl, Nat.zero_le _, H0⟩
    case round =>
      clear H0
      obtain ⟨k, gr, v, rfl, hkm, hO⟩ := hrel
      have hC := hO.out.toC
      obtain ⟨g, cap, rfl, hg1, hg2, hcs⟩ := own_cells hO.out.own (by rw [ordP_len]; omega)
      have c0 := cell_of_row _ _ 0 _ _ _ hO.out.hgo
      have c1 := hC.at'
      have f0 := frozen_of_row _ go 0 _ _ hO.out.hgo
      have hown := hO.out.own
      have HAT := Lib.hid hO.out.atp
      have hlast := hcs k (by rw [ordP_len]; omega)
      by_cases hlt : k < m
      · have b1 : (k : Int) + 1 ≤ (m : Int) := by omega
        have HS := Lib.hid (HSUM.out k go gr wr hlt hC (HR.out.old hO.out.bel))
        have hmin : minO (sumO (ordP ks k) ((k : Int) + 1) ks 0) = (ordP ks (k + 1)).getD (k + 1) 0 := by rw [ordP_last]; rfl
        have HM := Lib.hid hmin
        clear hmin hC hcs hlast
        generalize sumO (ordP ks k) ((k : Int) + 1) ks 0 = sm at *
        generalize Value.slice (some ⟨g, 0, none⟩) (ordP ks k).length cap = vv at *
        rw [ordP_len] at hown
        have HOW := Lib.hid hown; clear hown
        by_cases q : 1000000000000001 < sm
        · have HX := Lib.hid (show 1000000000000001 = (ordP ks (k + 1)).getD (k + 1) 0 by rw [← HM.out, minO_eq]; exact (if_neg (by omega)).symm)
          have HN := Lib.hid (new_cell wr (1000000000000001) 3)
          clear HM
          go_wp2_with fail
          refine HS.out.mono ?_; rintro e w2 ⟨rfl, rfl⟩
          go_upto_region 9 with (at_builtin; refine wpList_append_own_at _ rfl _ _ 45 rfl w.heap.size 3 i0 (.int .i64 0) 1 8 Try.underlying45 HI.out.1 HI.out.2.1 HI.out.2.2.1 HI.out.2.2.2 rfl (by decide) _ _ _ rfl (HOW.out.alloc _) ⟨_, 0, none⟩ 1 1 [.int .i64 (1000000000000001)] rfl rfl HN.out ?_ ?_ ?_ ?_ ?_)
          · first | rfl | (intro u hu; simp at hu; subst hu; rfl)
          · unfold maxLen; omega
          · omega
          · have := hO.out.bel.size; simp; omega
          intro v' w3 hown3 hgrow _ _
          obtain ⟨a', c', rfl, -, -, -⟩ := own_cap hown3
          have hgo3 := hO.out.go3 hgrow
          have c3 := cell_of_row _ _ 0 _ _ _ hgo3
          have f3 := frozen_of_row _ go 0 _ _ hgo3
          have HNX := Lib.hid (hO.out.next HX.out (by rw [ordP_len]; exact hown3) hgrow)
          clear hown3 hgrow hgo3
          go_upto_region 9 with fail
          clear c0 c1 f0 c3 f3
          generalize w3.setCell ⟨go, 0, none⟩ (.slice a' (k + 1 + 1) c') = w4 at *
          have c1 := cell_of_row _ _ 0 _ _ _ HNX.out.hgr
          have hfr := HNX.out.fresh
          have hat2 := hfr.atp
          rw [show ((k + 1 : Nat) : Int) + 1 = (k : Int) + 1 + 1 by omega] at hfr hat2
          have HFR := Lib.hid hfr
          have HA2 := Lib.hid hat2
          clear hfr hat2
          have d0 := cell_of_row _ _ 0 _ _ _ (heap_alloc_last w4 (.cells #[.int .i64 ((k : Int) + 1)] 3))
          have d1 := frozen_of_row _ w4.heap.size 0 _ _ (heap_alloc_last w4 (.cells #[.int .i64 ((k : Int) + 1)] 3))
          go_wp2_with fail
          go_roundw
          case rel => exact ⟨k + 1, w4.heap.size, _, rfl, by omega, HFR⟩
          case measure => rw [HAT.out, HA2.out]; omega
        · have HX := Lib.hid (show sm = (ordP ks (k + 1)).getD (k + 1) 0 by rw [← HM.out, minO_eq]; exact (if_pos (by omega)).symm)
          have HN := Lib.hid (new_cell wr (sm) 3)
          clear HM
          go_wp2_with fail
          refine HS.out.mono ?_; rintro e w2 ⟨rfl, rfl⟩
          go_upto_region 9 with (at_builtin; refine wpList_append_own_at _ rfl _ _ 45 rfl w.heap.size 3 i0 (.int .i64 0) 1 8 Try.underlying45 HI.out.1 HI.out.2.1 HI.out.2.2.1 HI.out.2.2.2 rfl (by decide) _ _ _ rfl (HOW.out.alloc _) ⟨_, 0, none⟩ 1 1 [.int .i64 (sm)] rfl rfl HN.out ?_ ?_ ?_ ?_ ?_)
          · first | rfl | (intro u hu; simp at hu; subst hu; rfl)
          · unfold maxLen; omega
          · omega
          · have := hO.out.bel.size; simp; omega
          intro v' w3 hown3 hgrow _ _
          obtain ⟨a', c', rfl, -, -, -⟩ := own_cap hown3
          have hgo3 := hO.out.go3 hgrow
          have c3 := cell_of_row _ _ 0 _ _ _ hgo3
          have f3 := frozen_of_row _ go 0 _ _ hgo3
          have HNX := Lib.hid (hO.out.next HX.out (by rw [ordP_len]; exact hown3) hgrow)
          clear hown3 hgrow hgo3
          go_upto_region 9 with fail
          clear c0 c1 f0 c3 f3
          generalize w3.setCell ⟨go, 0, none⟩ (.slice a' (k + 1 + 1) c') = w4 at *
          have c1 := cell_of_row _ _ 0 _ _ _ HNX.out.hgr
          have hfr := HNX.out.fresh
          have hat2 := hfr.atp
          rw [show ((k + 1 : Nat) : Int) + 1 = (k : Int) + 1 + 1 by omega] at hfr hat2
          have HFR := Lib.hid hfr
          have HA2 := Lib.hid hat2
          clear hfr hat2
          have d0 := cell_of_row _ _ 0 _ _ _ (heap_alloc_last w4 (.cells #[.int .i64 ((k : Int) + 1)] 3))
          have d1 := frozen_of_row _ w4.heap.size 0 _ _ (heap_alloc_last w4 (.cells #[.int .i64 ((k : Int) + 1)] 3))
          go_wp2_with fail
          go_roundw
          case rel => exact ⟨k + 1, w4.heap.size, _, rfl, by omega, HFR⟩
          case measure => rw [HAT.out, HA2.out]; omega
      · obtain rfl : k = m := by omega
        have b1 : ¬ (k : Int) + 1 ≤ (k : Int) := by omega
        have b2 : (k : Int) < (k : Int) + 1 := by omega
        rw [show (ordP ks k).getD k 0 = ordN ks k from rfl] at hlast
        rw [ordP_len] at c0
        have HB := Lib.hid hO.out.bel
        clear hC hcs hown hO HAT
        generalize ordN ks k = x at *
        go_wp2_with fail
        refine (HLIM.out _).mono ?_; rintro e w2 ⟨rfl, rfl⟩
        go_wp2_with fail
        go_ret2
        exact ⟨rfl, HB.out⟩
end Go.Proofs.Ytooaeafnneikkab
