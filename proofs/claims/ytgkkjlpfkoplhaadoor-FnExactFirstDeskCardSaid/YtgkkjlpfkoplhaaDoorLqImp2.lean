/-
  Leagues out of texts: the program, whole.
-/
import Derived.Test.YtgkkjlpfkoplhaaDoorLqImpl
namespace Go.Proofs.YtgkkjlpfkoplhaaDoor
open Go.RowKit
set_option linter.unusedVariables false
set_option linter.unusedSimpArgs false

theorem eq_listLq (T : List UInt8) (s : ByteArray) : ((⟨T.toArray⟩ : ByteArray).toList == s.toList) = decide (T = s.data.toList) := by
  rw [Bool.eq_iff_iff]; simp only [beq_iff_eq, decide_eq_true_eq]
  have e1 : ∀ b : ByteArray, b.toList = b.data.toList := fun b => ByteArray.toList_eq b
  rw [e1, e1]
theorem cutL_le (b : UInt8) : ∀ l : List UInt8, (cutL b l).length ≤ l.length + 1
  | [] => by simp [cutL]
  | c :: r => by
    have ih := cutL_le b r
    by_cases hc : c = b
    · subst hc; rw [cutL_hit]; simp; omega
    · obtain ⟨p, ps, e⟩ : ∃ p ps, cutL b r = p :: ps := by
        cases h : cutL b r with
        | nil => exact absurd h (cutL_ne b r)
        | cons p ps => exact ⟨p, ps, rfl⟩
      rw [cutL_miss hc e]
      rw [e] at ih
      simp at ih ⊢; omega
/-- The result's block, still empty, the puzzle read in a block of its own. -/
def PlS (w : World) (t wn : Int) (g : Nat) (a : Option Addr) (l : List Rs) (c : Nat) (wi : World) : Prop :=
  ObAt wi w.heap.size 34 #[.int .i64 0, .int .i64 0, .slice none 0 0] ∧ ObAt wi g 34 #[.int .i64 t, .int .i64 wn, .slice a l.length c] ∧ wi.ownsRow w.heap.size 50 4 (.slice a l.length c) l.length (ress l) ∧ Below w.heap.size w wi
theorem PlS.keep {w : World} {t wn : Int} {g : Nat} {a : Option Addr} {l : List Rs} {c : Nat} {wi wj : World} (h : PlS w t wn g a l c wi) (hb : Below wi.heap.size wi wj) : PlS w t wn g a l c wj :=
  ⟨h.1.keep hb, h.2.1.keep hb, owns_below h.2.2.1 hb, h.2.2.2.trans (hb.mono h.2.2.2.size)⟩
theorem PlS.res {w : World} {t wn : Int} {g : Nat} {a : Option Addr} {l : List Rs} {c : Nat} {wi : World} (h : PlS w t wn g a l c wi) (u0 u1 u2 : Value) :
    (((wi.setCell ⟨w.heap.size, 0, none⟩ u0).setCell ⟨w.heap.size, 1, none⟩ u1).setCell ⟨w.heap.size, 2, none⟩ u2).ownsRow w.heap.size 50 4 (.slice a l.length c) l.length (ress l) ∧ Below w.heap.size w (((wi.setCell ⟨w.heap.size, 0, none⟩ u0).setCell ⟨w.heap.size, 1, none⟩ u1).setCell ⟨w.heap.size, 2, none⟩ u2) ∧ ObAt (((wi.setCell ⟨w.heap.size, 0, none⟩ u0).setCell ⟨w.heap.size, 1, none⟩ u1).setCell ⟨w.heap.size, 2, none⟩ u2) w.heap.size 34 #[u0, u1, u2] := by
  obtain ⟨h1, -, ho, h4⟩ := h
  refine ⟨owns_heap ho (fun b e => ?_), ((h4.setCell (p := ⟨w.heap.size, 0, none⟩) (Nat.le_refl _) _).setCell (p := ⟨w.heap.size, 1, none⟩) (Nat.le_refl _) _).setCell (p := ⟨w.heap.size, 2, none⟩) (Nat.le_refl _) _, ((h1.put 0 _).put 1 _).put 2 _⟩
  have hne : b ≠ w.heap.size := by
    intro e2
    subst e2
    exact owns_apart (T := 34) (fr := (0, 0)) h1 (by decide) ho e
  rw [Below.heap_setCell _ _ _ _ hne, Below.heap_setCell _ _ _ _ hne, Below.heap_setCell _ _ _ _ hne]

set_option maxHeartbeats 1600000 in
set_option maxRecDepth 100000 in
theorem implParseLeague_any (s : ByteArray) (hs : s.size ≤ 1048576) (w : World) (hd : Door w) :
    Calls Tryd.prog 27 #[.string s] w fun e w' => LgR (valP s.data.toList).1 (valP s.data.toList).2.1 (valP s.data.toList).2.2 (okP s.data.toList) w e w' := by
  have l1 := cut_len1 s.data.toList [124]
  have l2 := cut_len2 s.data.toList [124]
  have hl : s.data.toList.length = s.size := by simp
  have B0 := Below.ofNew (w := w) (.cells #[.int .i64 0, .int .i64 0, .slice none 0 0] 34)
  have P0 := ObAt.new w 34 #[.int .i64 0, .int .i64 0, .slice none 0 0]
  have hd0 := hd.keep B0
  obtain ⟨mm, hm⟩ := hd0.m
  have hc := Tryd.strings_Cut s ⟨#[124]⟩ mm _ (by omega) hm
  rw [show (⟨#[124]⟩ : ByteArray).data.toList = [124] from rfl] at hc
  have ht : lgP s.data.toList = ((pairP 119 (Lib.cut s.data.toList [124]).1).1, (pairP 119 (Lib.cut s.data.toList [124]).1).2, rowsP (Lib.cut s.data.toList [124]).2.1) := rfl
  have hv : valP s.data.toList = if okP s.data.toList then lgP s.data.toList else (0, 0, []) := rfl
  have hok : okP s.data.toList = (goodL (lgP s.data.toList).1 (lgP s.data.toList).2.1 (lgP s.data.toList).2.2 && decide (textL (lgP s.data.toList).1 (lgP s.data.toList).2.1 (lgP s.data.toList).2.2 = s.data.toList)) := rfl
  rw [ht] at hv hok
  generalize valP s.data.toList = V at *
  generalize okP s.data.toList = o at *
  generalize (Lib.cut s.data.toList [124]).1 = X at *
  generalize (Lib.cut s.data.toList [124]).2.1 = Y at *
  generalize (Lib.cut s.data.toList [124]).2.2 = Z at *
  have rx := fun w hd => readPair_any ⟨X.toArray⟩ ⟨#[119]⟩ (ofL_size (by omega)) w hd
  have ry := fun w hd => readResults_any Y (by omega) w hd
  rw [show (⟨X.toArray⟩ : ByteArray).data.toList = X from by simp, show (⟨#[119]⟩ : ByteArray).data.toList = [119] from rfl] at rx
  change ∀ w, Door w → Calls _ _ _ _ (fun e w' => e = .returned (.tuple #[.int .i64 (pairP 119 X).1, .int .i64 (pairP 119 X).2]) ∧ Below w.heap.size w w') at rx
  simp only at hv hok
  generalize (pairP 119 X).1 = t at *
  generalize (pairP 119 X).2 = wn at *
  have hlc : ((rowsP Y).length : Int) ≤ 1048577 := by
    unfold rowsP; split
    · simp
    · rw [List.length_map]; have := cutL_le 44 Y; omega
  generalize rowsP Y = l at *
  have HX := Lib.hid (And.intro rx ry); clear rx ry
  have HC := Lib.hid hc; clear hc
  have HVO := Lib.hid (And.intro hv hok); clear hv hok ht
  have HD := Lib.hid (And.intro hd0 (And.intro P0 B0)); clear hd hd0 hm l1 l2 hl P0 B0
  go_enter Tryd.func27, Tryd.ntmps27
  go_wp2_with fail
  refine HC.out.mono ?_; rintro e w1 ⟨rfl, n, rfl⟩
  have bN : Below (w.alloc (.cells #[.int .i64 0, .int .i64 0, .slice none 0 0] 34)).heap.size (w.alloc (.cells #[.int .i64 0, .int .i64 0, .slice none 0 0] 34)) ((w.alloc (.cells #[.int .i64 0, .int .i64 0, .slice none 0 0] 34)).drewN n) := below_drewN (Below.refl _ _) _
  have HD1 := Lib.hid (And.intro (HD.out.1.keep bN) (And.intro (HD.out.2.1.keep bN) (HD.out.2.2.trans (bN.mono HD.out.2.2.size)))); clear bN HD HC
  go_wp2_with fail
  refine (HX.out.1 _ HD1.out.1).mono ?_; rintro e w2 ⟨rfl, b2⟩
  have HD2 := Lib.hid (And.intro (HD1.out.1.keep b2) (And.intro (HD1.out.2.1.keep b2) (HD1.out.2.2.trans (b2.mono HD1.out.2.2.size)))); clear b2 HD1
  go_wp2_with fail
  refine (HX.out.2 _ HD2.out.1).mono ?_; rintro e w3 ⟨a, c, rfl, o3, b3⟩
  have bn := Below.ofNew (w := w3) (.cells #[.int .i64 t, .int .i64 wn, .slice a l.length c] 34)
  have h3 := HD2.out.2.2.trans (b3.mono HD2.out.2.2.size)
  have HP : Hid (PlS w t wn w3.heap.size a l c (w3.alloc (.cells #[.int .i64 t, .int .i64 wn, .slice a l.length c] 34))) :=
    ⟨(HD2.out.2.1.keep b3).keep bn, ObAt.new _ _ _, owns_base (owns_below o3 bn) HD2.out.2.2.size, h3.trans (bn.mono h3.size)⟩
  clear bn h3 o3 b3 HD2 HX
  go_wp2_with fail
  generalize w3.alloc (.cells #[.int .i64 t, .int .i64 wn, .slice a l.length c] 34) = w4 at *
  generalize w3.heap.size = g at *
  obtain ⟨p0, p1, p2, -, -, -⟩ := HP.out.2.1.three
  have hrl : l.length ≤ c ∧ Reads w4 a (ress l) := by
    obtain ⟨a', c', he, hlc, hr, -⟩ := own_cap HP.out.2.2.1
    injection he with h1 h2 h3
    subst h1 h3
    exact ⟨hlc, hr⟩
  obtain ⟨hlc, hrd⟩ := hrl
  have HT := Lib.hid (implLeagueText_any t wn l a c w4 (by omega) hlc hrd); clear hrd hlc
  cases hg : goodL t wn l
  · have e1 : lgTV t wn l = ⟨#[]⟩ := by unfold lgTV; rw [hg]; rfl
    rw [hg, e1] at HT
    have HF : Hid (V = (0, 0, []) ∧ o = false) := by
      have ho : o = false := by rw [HVO.out.2, hg]; rfl
      exact ⟨by rw [HVO.out.1, ho]; rfl, ho⟩
    clear hg e1 HVO
    go_wp2_with fail
    refine HT.out.mono ?_; rintro e w5 ⟨rfl, b5⟩
    have HP5 := Lib.hid (HP.out.keep b5); clear b5 HP HT p0 p1 p2
    obtain ⟨q0, q1, q2, f0, f1, f2⟩ := HP5.out.1.three
    have HR := Lib.hid (fun u0 u1 u2 : Value => HP5.out.res u0 u1 u2)
    go_wp2_with fail
    rw [HF.out.1, HF.out.2]
    refine bodyPost_ret (v := .tuple #[.agg #[.int .i64 0, .int .i64 0, .slice none 0 0], .bool false]) ?_ rfl ⟨none, 0, rfl, owns_nil4 _ _ _, (HR.out _ _ _).2.1⟩
    simp [results, Tryd.results27, go_sem, *]
  · have e1 : lgTV t wn l = ⟨(textL t wn l).toArray⟩ := by unfold lgTV; rw [hg]; rfl
    rw [hg, e1] at HT
    have hq := eq_listLq (textL t wn l) s
    by_cases ht : textL t wn l = s.data.toList
    · rw [decide_eq_true ht] at hq
      have HF : Hid (V = (t, wn, l) ∧ o = true) := by
        have ho : o = true := by rw [HVO.out.2, hg, ht]; simp
        exact ⟨by rw [HVO.out.1, ho]; rfl, ho⟩
      generalize (⟨(textL t wn l).toArray⟩ : ByteArray) = T at *
      clear hg e1 HVO ht
      go_wp2_with fail
      refine HT.out.mono ?_; rintro e w5 ⟨rfl, b5⟩
      have HP5 := Lib.hid (HP.out.keep b5); clear b5 HP HT p0 p1 p2
      obtain ⟨p0, p1, p2, -, -, -⟩ := HP5.out.2.1.three
      obtain ⟨q0, q1, q2, f0, f1, f2⟩ := HP5.out.1.three
      have HR := Lib.hid (HP5.out.res (.int .i64 t) (.int .i64 wn) (.slice a l.length c))
      obtain ⟨r0, r1, r2, -, -, -⟩ := HR.out.2.2.three
      go_wp2_with fail
      rw [HF.out.1, HF.out.2]
      refine bodyPost_ret (v := .tuple #[.agg #[.int .i64 t, .int .i64 wn, .slice a l.length c], .bool true]) ?_ rfl ⟨a, c, rfl, HR.out.1, HR.out.2.1⟩
      simp [results, Tryd.results27, go_sem, *]
    · rw [decide_eq_false ht] at hq
      have HF : Hid (V = (0, 0, []) ∧ o = false) := by
        have ho : o = false := by rw [HVO.out.2, hg, decide_eq_false ht]; rfl
        exact ⟨by rw [HVO.out.1, ho]; rfl, ho⟩
      generalize (⟨(textL t wn l).toArray⟩ : ByteArray) = T at *
      clear hg e1 HVO ht
      go_wp2_with fail
      refine HT.out.mono ?_; rintro e w5 ⟨rfl, b5⟩
      have HP5 := Lib.hid (HP.out.keep b5); clear b5 HP HT p0 p1 p2
      obtain ⟨q0, q1, q2, f0, f1, f2⟩ := HP5.out.1.three
      have HR := Lib.hid (fun u0 u1 u2 : Value => HP5.out.res u0 u1 u2)
      go_wp2_with fail
      rw [HF.out.1, HF.out.2]
      refine bodyPost_ret (v := .tuple #[.agg #[.int .i64 0, .int .i64 0, .slice none 0 0], .bool false]) ?_ rfl ⟨none, 0, rfl, owns_nil4 _ _ _, (HR.out _ _ _).2.1⟩
      simp [results, Tryd.results27, go_sem, *]
end Go.Proofs.YtgkkjlpfkoplhaaDoor
