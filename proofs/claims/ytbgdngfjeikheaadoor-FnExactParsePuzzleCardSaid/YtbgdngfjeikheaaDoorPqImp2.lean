/-
  Puzzles out of texts: the program, whole.
-/
import Derived.Test.YtbgdngfjeikheaaDoorPqImpl
namespace Go.Proofs.YtbgdngfjeikheaaDoor
open Go.RowKit
set_option linter.unusedVariables false
set_option linter.unusedSimpArgs false

theorem eq_listPq (T : List UInt8) (s : ByteArray) : ((⟨T.toArray⟩ : ByteArray).toList == s.toList) = decide (T = s.data.toList) := by
  rw [Bool.eq_iff_iff]; simp only [beq_iff_eq, decide_eq_true_eq]
  have e1 : ∀ b : ByteArray, b.toList = b.data.toList := fun b => ByteArray.toList_eq b
  rw [e1, e1]
theorem cutL_le (b : UInt8) : ∀ l : List UInt8, (cutL b l).length ≤ l.length + 1
  | [] => by simp [cutL]
  | c :: r => by
    have ih := cutL_le b r
    by_cases hc : c = b
    · subst hc; rw [cutL_hit]; simp; omega
    · obtain ⟨p, ps, e⟩ : ∃ p ps, cutL b r = p :: ps := by
        cases h : cutL b r with
        | nil => exact absurd h (cutL_ne b r)
        | cons p ps => exact ⟨p, ps, rfl⟩
      rw [cutL_miss hc e]
      rw [e] at ih
      simp at ih ⊢; omega
/-- The result's block, still empty, the puzzle read in a block of its own. -/
def PqS (w : World) (t : Int) (g : Nat) (a : Option Addr) (l : List Cl) (c : Nat) (wi : World) : Prop :=
  ObAt wi w.heap.size 24 #[.int .i64 0, .slice none 0 0] ∧ ObAt wi g 24 #[.int .i64 t, .slice a l.length c] ∧ wi.ownsRow w.heap.size 75 3 (.slice a l.length c) l.length (clus l) ∧ Below w.heap.size w wi
theorem PqS.keep {w : World} {t : Int} {g : Nat} {a : Option Addr} {l : List Cl} {c : Nat} {wi wj : World} (h : PqS w t g a l c wi) (hb : Below wi.heap.size wi wj) : PqS w t g a l c wj :=
  ⟨h.1.keep hb, h.2.1.keep hb, owns_below h.2.2.1 hb, h.2.2.2.trans (hb.mono h.2.2.2.size)⟩
theorem PqS.res {w : World} {t : Int} {g : Nat} {a : Option Addr} {l : List Cl} {c : Nat} {wi : World} (h : PqS w t g a l c wi) (u0 u1 : Value) :
    ((wi.setCell ⟨w.heap.size, 0, none⟩ u0).setCell ⟨w.heap.size, 1, none⟩ u1).ownsRow w.heap.size 75 3 (.slice a l.length c) l.length (clus l) ∧ Below w.heap.size w ((wi.setCell ⟨w.heap.size, 0, none⟩ u0).setCell ⟨w.heap.size, 1, none⟩ u1) ∧ ObAt ((wi.setCell ⟨w.heap.size, 0, none⟩ u0).setCell ⟨w.heap.size, 1, none⟩ u1) w.heap.size 24 #[u0, u1] := by
  obtain ⟨h1, -, ho, h4⟩ := h
  refine ⟨owns_heap ho (fun b e => ?_), (h4.setCell (p := ⟨w.heap.size, 0, none⟩) (Nat.le_refl _) _).setCell (p := ⟨w.heap.size, 1, none⟩) (Nat.le_refl _) _, (h1.put 0 _).put 1 _⟩
  have hne : b ≠ w.heap.size := by
    intro e2
    subst e2
    exact owns_apart (T := 24) (fr := (0, 0)) h1 (by decide) ho e
  rw [Below.heap_setCell _ _ _ _ hne, Below.heap_setCell _ _ _ _ hne]

set_option maxHeartbeats 1600000 in
set_option maxRecDepth 100000 in
theorem implParsePuzzle_any (s : ByteArray) (hs : s.size ≤ 1048576) (w : World) (hd : Door w) :
    Calls Tryd.prog 23 #[.string s] w fun e w' => PzR (valP s.data.toList).1 (valP s.data.toList).2 (okP s.data.toList) w e w' := by
  have l1 := cut_len1 s.data.toList [112]
  have l2 := cut_len2 s.data.toList [112]
  have hl : s.data.toList.length = s.size := by simp
  have B0 := Below.ofNew (w := w) (.cells #[.int .i64 0, .slice none 0 0] 24)
  have P0 := ObAt.new w 24 #[.int .i64 0, .slice none 0 0]
  have hd0 := hd.keep B0
  obtain ⟨mm, hm⟩ := hd0.m
  have hc := Tryd.strings_Cut s ⟨#[112]⟩ mm _ (by omega) hm
  rw [show (⟨#[112]⟩ : ByteArray).data.toList = [112] from rfl] at hc
  have ht : pzP s.data.toList = (atoiV (Lib.cut s.data.toList [112]).1, clsP (Lib.cut s.data.toList [112]).2.1) := rfl
  have hv : valP s.data.toList = if okP s.data.toList then pzP s.data.toList else (0, []) := rfl
  have hok : okP s.data.toList = (goodP (pzP s.data.toList).1 (pzP s.data.toList).2 && decide (pzTL (pzP s.data.toList).1 (pzP s.data.toList).2 = s.data.toList)) := rfl
  rw [ht] at hv hok
  generalize valP s.data.toList = V at *
  generalize okP s.data.toList = o at *
  generalize (Lib.cut s.data.toList [112]).1 = X at *
  generalize (Lib.cut s.data.toList [112]).2.1 = Y at *
  generalize (Lib.cut s.data.toList [112]).2.2 = Z at *
  have rx := fun w hd => readNum_any ⟨X.toArray⟩ (ofL_size (by omega)) w hd
  have ry := fun w hd => readClues_any Y (by omega) w hd
  rw [show (⟨X.toArray⟩ : ByteArray).data.toList = X from by simp] at rx
  simp only at hv hok
  generalize atoiV X = t at *
  have hlc : ((clsP Y).length : Int) ≤ 1048577 := by
    unfold clsP; split
    · simp
    · rw [List.length_map]; have := cutL_le 44 Y; omega
  generalize clsP Y = l at *
  have HX := Lib.hid (And.intro rx ry); clear rx ry
  have HC := Lib.hid hc; clear hc
  have HVO := Lib.hid (And.intro hv hok); clear hv hok ht
  have HD := Lib.hid (And.intro hd0 (And.intro P0 B0)); clear hd hd0 hm l1 l2 hl P0 B0
  go_enter Tryd.func23, Tryd.ntmps23
  go_wp2_with fail
  refine HC.out.mono ?_; rintro e w1 ⟨rfl, n, rfl⟩
  have bN : Below (w.alloc (.cells #[.int .i64 0, .slice none 0 0] 24)).heap.size (w.alloc (.cells #[.int .i64 0, .slice none 0 0] 24)) ((w.alloc (.cells #[.int .i64 0, .slice none 0 0] 24)).drewN n) := below_drewN (Below.refl _ _) _
  have HD1 := Lib.hid (And.intro (HD.out.1.keep bN) (And.intro (HD.out.2.1.keep bN) (HD.out.2.2.trans (bN.mono HD.out.2.2.size)))); clear bN HD HC
  go_wp2_with fail
  refine (HX.out.1 _ HD1.out.1).mono ?_; rintro e w2 ⟨rfl, b2⟩
  have HD2 := Lib.hid (And.intro (HD1.out.1.keep b2) (And.intro (HD1.out.2.1.keep b2) (HD1.out.2.2.trans (b2.mono HD1.out.2.2.size)))); clear b2 HD1
  go_wp2_with fail
  refine (HX.out.2 _ HD2.out.1).mono ?_; rintro e w3 ⟨a, c, rfl, o3, b3⟩
  have bn := Below.ofNew (w := w3) (.cells #[.int .i64 t, .slice a l.length c] 24)
  have h3 := HD2.out.2.2.trans (b3.mono HD2.out.2.2.size)
  have HP : Hid (PqS w t w3.heap.size a l c (w3.alloc (.cells #[.int .i64 t, .slice a l.length c] 24))) :=
    ⟨(HD2.out.2.1.keep b3).keep bn, ObAt.new _ _ _, owns_base (owns_below o3 bn) HD2.out.2.2.size, h3.trans (bn.mono h3.size)⟩
  clear bn h3 o3 b3 HD2 HX
  go_wp2_with fail
  generalize w3.alloc (.cells #[.int .i64 t, .slice a l.length c] 24) = w4 at *
  generalize w3.heap.size = g at *
  obtain ⟨p0, p1, -, -⟩ := HP.out.2.1.two
  have hrd : Reads w4 a (clus l) := by
    obtain ⟨a', c', he, -, hr, -⟩ := own_cap HP.out.2.2.1
    injection he with h1 h2 h3
    subst h1
    exact hr
  have HT := Lib.hid (implPuzzleText_any t l a c w4 (by omega) hrd); clear hrd
  cases hg : goodP t l
  · have e1 : pzTV t l = ⟨#[]⟩ := by unfold pzTV; rw [hg]; rfl
    rw [hg, e1] at HT
    have HF : Hid (V = (0, []) ∧ o = false) := by
      have ho : o = false := by rw [HVO.out.2, hg]; rfl
      exact ⟨by rw [HVO.out.1, ho]; rfl, ho⟩
    clear hg e1 HVO
    go_wp2_with fail
    refine HT.out.mono ?_; rintro e w5 ⟨rfl, b5⟩
    have HP5 := Lib.hid (HP.out.keep b5); clear b5 HP HT p0 p1
    obtain ⟨q0, q1, f0, f1⟩ := HP5.out.1.two
    have HR := Lib.hid (fun u0 u1 : Value => HP5.out.res u0 u1)
    go_wp2_with fail
    rw [HF.out.1, HF.out.2]
    refine bodyPost_ret (v := .tuple #[.agg #[.int .i64 0, .slice none 0 0], .bool false]) ?_ rfl ⟨none, 0, rfl, owns_nil3 _ _ _, (HR.out _ _).2.1⟩
    simp [results, Tryd.results23, go_sem, *]
  · have e1 : pzTV t l = ⟨(pzTL t l).toArray⟩ := by unfold pzTV; rw [hg]; rfl
    rw [hg, e1] at HT
    have hq := eq_listPq (pzTL t l) s
    by_cases ht : pzTL t l = s.data.toList
    · rw [decide_eq_true ht] at hq
      have HF : Hid (V = (t, l) ∧ o = true) := by
        have ho : o = true := by rw [HVO.out.2, hg, ht]; simp
        exact ⟨by rw [HVO.out.1, ho]; rfl, ho⟩
      generalize (⟨(pzTL t l).toArray⟩ : ByteArray) = T at *
      clear hg e1 HVO ht
      go_wp2_with fail
      refine HT.out.mono ?_; rintro e w5 ⟨rfl, b5⟩
      have HP5 := Lib.hid (HP.out.keep b5); clear b5 HP HT p0 p1
      obtain ⟨p0, p1, -, -⟩ := HP5.out.2.1.two
      obtain ⟨q0, q1, f0, f1⟩ := HP5.out.1.two
      have HR := Lib.hid (HP5.out.res (.int .i64 t) (.slice a l.length c))
      obtain ⟨r0, r1, -, -⟩ := HR.out.2.2.two
      go_wp2_with fail
      rw [HF.out.1, HF.out.2]
      refine bodyPost_ret (v := .tuple #[.agg #[.int .i64 t, .slice a l.length c], .bool true]) ?_ rfl ⟨a, c, rfl, HR.out.1, HR.out.2.1⟩
      simp [results, Tryd.results23, go_sem, *]
    · rw [decide_eq_false ht] at hq
      have HF : Hid (V = (0, []) ∧ o = false) := by
        have ho : o = false := by rw [HVO.out.2, hg, decide_eq_false ht]; rfl
        exact ⟨by rw [HVO.out.1, ho]; rfl, ho⟩
      generalize (⟨(pzTL t l).toArray⟩ : ByteArray) = T at *
      clear hg e1 HVO ht
      go_wp2_with fail
      refine HT.out.mono ?_; rintro e w5 ⟨rfl, b5⟩
      have HP5 := Lib.hid (HP.out.keep b5); clear b5 HP HT p0 p1
      obtain ⟨q0, q1, f0, f1⟩ := HP5.out.1.two
      have HR := Lib.hid (fun u0 u1 : Value => HP5.out.res u0 u1)
      go_wp2_with fail
      rw [HF.out.1, HF.out.2]
      refine bodyPost_ret (v := .tuple #[.agg #[.int .i64 0, .slice none 0 0], .bool false]) ?_ rfl ⟨none, 0, rfl, owns_nil3 _ _ _, (HR.out _ _).2.1⟩
      simp [results, Tryd.results23, go_sem, *]
end Go.Proofs.YtbgdngfjeikheaaDoor
