/-
  Puzzles: clues taken out as long as the puzzle is solved: both sides.
-/
import Derived.Test.YtcigighklghjkaaDoorPzNeedA
import Derived.Test.YtcigighklghjkaaDoorPzDrop
import Derived.Deep.RegionHeld3
namespace Go.Proofs.YtcigighklghjkaaDoor
open Go.RowKit
set_option linter.unusedVariables false
set_option linter.unusedSimpArgs false

def oneC (pn : Nat) (m : List Cl) : Bool := oneB (cntC pn m)
/-- The clues that stay. -/
def hardF (pn : Nat) : Nat → List Cl → Nat → List Cl
  | 0, m, _ => m
  | f + 1, m, k => if k < m.length then (if oneC pn (dropC m k) then hardF pn f (dropC m k) k else hardF pn f m (k + 1)) else m
theorem hardF_done (pn f : Nat) {m : List Cl} {k : Nat} (h : ¬ k < m.length) : hardF pn f m k = m := by
  cases f with
  | zero => rfl
  | succ f => rw [hardF, if_neg h]
def hardOk (p : Int) (l : List Cl) : Bool := goodP p l && oneC p.toNat l
def hardO (p : Int) (l : List Cl) : List Cl := if hardOk p l then hardF p.toNat l.length l 0 else []
def hardP (p : Int) (l : List Cl) : Int := if hardOk p l then p else 0
theorem hardF_len (pn : Nat) : ∀ (f : Nat) (m : List Cl) (k : Nat), (hardF pn f m k).length ≤ m.length
  | 0, m, k => Nat.le_refl _
  | f + 1, m, k => by
    rw [hardF]
    split
    · rename_i h
      split
      · have := hardF_len pn f (dropC m k) k
        rw [dropC_len m h] at this; omega
      · exact hardF_len pn f m (k + 1)
    · exact Nat.le_refl _
theorem hardO_len (p : Int) (l : List Cl) : ((hardO p l).length : Int) ≤ 1000 := by
  unfold hardO
  split
  · rename_i h
    have hg : goodP p l = true := by unfold hardOk at h; simp at h; exact h.1
    have := (goodP_bd hg).2.1
    have := hardF_len p.toNat l.length l 0
    omega
  · simp
/-- Where a search for clues stands. -/
def HardQ (pn : Nat) (l : List Cl) (k : Nat) (m : List Cl) : Prop := goodP pn m = true ∧ ∃ f, m.length ≤ k + f ∧ hardF pn f m k = hardF pn l.length l 0
theorem HardQ.start {pn : Nat} {l : List Cl} (h : goodP pn l = true) : HardQ pn l 0 l := ⟨h, l.length, by omega, rfl⟩
theorem HardQ.drop {pn : Nat} {l m : List Cl} {k : Nat} (h : HardQ pn l k m) (hk : k < m.length) (h1 : oneC pn (dropC m k) = true) : HardQ pn l k (dropC m k) := by
  obtain ⟨hg, f, hf, he⟩ := h
  obtain ⟨f', rfl⟩ : ∃ f', f = f' + 1 := ⟨f - 1, by omega⟩
  rw [hardF, if_pos hk, if_pos h1] at he
  exact ⟨goodP_drop hg hk, f', by rw [dropC_len m hk]; omega, he⟩
theorem HardQ.next {pn : Nat} {l m : List Cl} {k : Nat} (h : HardQ pn l k m) (hk : k < m.length) (h1 : oneC pn (dropC m k) = false) : HardQ pn l (k + 1) m := by
  obtain ⟨hg, f, hf, he⟩ := h
  obtain ⟨f', rfl⟩ : ∃ f', f = f' + 1 := ⟨f - 1, by omega⟩
  rw [hardF, if_pos hk, h1] at he
  simp only [Bool.false_eq_true, if_false] at he
  exact ⟨hg, f', by omega, he⟩
theorem HardQ.done {pn : Nat} {l m : List Cl} {k : Nat} (h : HardQ pn l k m) (hk : ¬ k < m.length) : m = hardF pn l.length l 0 := by
  obtain ⟨-, f, -, he⟩ := h
  rw [hardF_done pn f hk] at he; exact he

theorem Two.grow {w : World} {p : Int} {v : Value} {wi wj : World} (h : Two w p v wi) {r : Value} {n : Nat} {xs : List Value} (ho : wi.ownsRow w.heap.size 26 3 r n xs) (hg : wi.grownBy wj r.ownBlock) : Two w p v wj :=
  ⟨h.1.grow (by decide) ho hg, h.2.1.grow (by decide) ho hg, h.2.2.grown hg h.2.2.size (fun g e => (owns_ge ho e).1)⟩
def lenOf : Value → Nat | .slice _ n _ => n | _ => 0
theorem solvedC_any {pn : Nat} {m : List Cl} (hg : goodP pn m = true) (a : Option Addr) (c : Nat) (pe0 pe1 : Addr) (w : World) (hr : Reads w a (clus m)) (hd : PzDoor w pe0 pe1) :
    Calls Tryd.prog 33 #[.agg #[.int .i64 pn, .slice a m.length c]] w fun e w' => e = .returned (.tuple #[.bool (oneC pn m), .bool true]) ∧ Below w.heap.size w w' := by
  have h6 := (goodP_bd hg).2.1
  have := implSolved_any pn m a c pe0 pe1 w (by omega) hr hd
  rw [count_is hg, hg] at this
  exact this
theorem pzSolvedC_any {pn : Nat} {m : List Cl} (hg : goodP pn m = true) (a : Option Addr) (c : Nat) (w : World) (hr : Reads w a (clus m)) :
    Calls Tryd.prog 64 #[.int .i64 pn, .slice a m.length c] w fun e w' => e = .returned (.bool (oneC pn m)) ∧ Below w.heap.size w w' := by
  obtain ⟨h1, h2, h3⟩ := goodP_bd hg
  exact pzSolved_any pn m a c w (by omega) h2 h3 hr

set_option maxHeartbeats 800000 in
set_option maxRecDepth 100000 in
theorem specHarder_any (p : Int) (l : List Cl) (g0 c : Nat) (w : World) (hl : (l.length : Int) ≤ 1000000000000) (hr : Reads w (some ⟨g0, 0, none⟩) (clus l)) :
    Calls Tryd.prog 43 #[.agg #[.int .i64 p, .slice (some ⟨g0, 0, none⟩) l.length c]] w fun e w' => PzR (hardP p l) (hardO p l) (hardOk p l) w e w' := by
  have HG := Lib.hid (fun W (hb : Below w.heap.size w W) => pzGood_any p l (some ⟨g0, 0, none⟩) c W hl (hr.old hb))
  have T0 := Lib.hid (Two.new w p (.slice (some ⟨g0, 0, none⟩) l.length c))
  obtain ⟨p0, p1, -, -, -, -⟩ := T0.out.cells
  cases hok : hardOk p l
  · have e1 : hardP p l = 0 := by unfold hardP; rw [hok]; rfl
    have e2 : hardO p l = [] := by unfold hardO; rw [hok]; rfl
    rw [e1, e2]; clear e1 e2
    cases hg : goodP p l
    · rw [hg] at HG; clear hg hok hr
      go_enter Tryd.func43, Tryd.ntmps43
      go_wp2_with fail
      refine (HG.out _ T0.out.2.2).mono ?_; rintro e w1 ⟨rfl, b1⟩
      have T1 := Lib.hid (T0.out.keep b1); clear b1 p0 p1
      obtain ⟨p0, p1, q0, q1, f0, f1⟩ := T1.out.cells
      have HF := Lib.hid (fun u0 u1 : Value => T1.out.put u0 u1)
      go_wp2_with fail
      refine bodyPost_ret (v := .tuple #[.agg #[.int .i64 0, .slice none 0 0], .bool false]) ?_ rfl ⟨none, 0, rfl, owns_nil3 _ _ _, HF.out _ _⟩
      simp [results, Tryd.results43, go_sem, *]
    · obtain ⟨hp, h6, hgc⟩ := goodP_bd hg
      obtain ⟨pn, rfl⟩ : ∃ pn : Nat, p = pn := ⟨p.toNat, by omega⟩
      have h1 : oneC pn l = false := by
        unfold hardOk at hok; rw [hg, Bool.true_and] at hok; exact hok
      have HS := Lib.hid (fun W (hb : Below w.heap.size w W) => pzSolvedC_any hg (some ⟨g0, 0, none⟩) c W (hr.old hb))
      rw [h1] at HS
      rw [hg] at HG; clear hg hok hr hgc h1
      go_enter Tryd.func43, Tryd.ntmps43
      go_wp2_with fail
      refine (HG.out _ T0.out.2.2).mono ?_; rintro e w1 ⟨rfl, b1⟩
      have T1 := Lib.hid (T0.out.keep b1); clear b1 p0 p1
      obtain ⟨p0, p1, -, -, -, -⟩ := T1.out.cells
      go_wp2_with fail
      refine (HS.out _ T1.out.2.2).mono ?_; rintro e w2 ⟨rfl, b2⟩
      have T2 := Lib.hid (T1.out.keep b2); clear b2 p0 p1
      obtain ⟨p0, p1, q0, q1, f0, f1⟩ := T2.out.cells
      have HF := Lib.hid (fun u0 u1 : Value => T2.out.put u0 u1)
      go_wp2_with fail
      refine bodyPost_ret (v := .tuple #[.agg #[.int .i64 0, .slice none 0 0], .bool false]) ?_ rfl ⟨none, 0, rfl, owns_nil3 _ _ _, HF.out _ _⟩
      simp [results, Tryd.results43, go_sem, *]
  · have hg : goodP p l = true := by unfold hardOk at hok; simp at hok; exact hok.1
    obtain ⟨hp, h6, hgc⟩ := goodP_bd hg
    obtain ⟨pn, rfl⟩ : ∃ pn : Nat, p = pn := ⟨p.toNat, by omega⟩
    have h1 : oneC pn l = true := by
      unfold hardOk at hok; rw [hg, Bool.true_and] at hok; exact hok
    have e1 : hardP pn l = pn := by unfold hardP; rw [hok]; rfl
    have e2 : hardO pn l = hardF pn l.length l 0 := by unfold hardO; rw [hok]; rfl
    rw [e1, e2]; clear e1 e2
    have HS := Lib.hid (fun W (hb : Below w.heap.size w W) => pzSolvedC_any hg (some ⟨g0, 0, none⟩) c W (hr.old hb))
    rw [h1] at HS
    have HQ0 := Lib.hid (HardQ.start hg)
    rw [hg] at HG; clear hg hok hgc h1
    have HRD := Lib.hid hr; clear hr
    have HQD : Hid (∀ k m, HardQ pn l k m → ¬ k < m.length → m = hardF pn l.length l 0) := fun k m h hk => h.done hk
    generalize hardF pn l.length l 0 = HFL at *
    obtain ⟨i0, hi, hz0, hz1, hz2⟩ := info_parts infoClue
    have HIC := Lib.hid (And.intro hi (And.intro hz0 (And.intro hz1 hz2))); clear hi hz0 hz1 hz2
    go_enter Tryd.func43, Tryd.ntmps43
    go_wp2_with fail
    refine (HG.out _ T0.out.2.2).mono ?_; rintro e w1 ⟨rfl, b1⟩
    have T1 := Lib.hid (T0.out.keep b1); clear b1 p0 p1
    obtain ⟨p0, p1, -, -, -, -⟩ := T1.out.cells
    go_wp2_with fail
    refine (HS.out _ T1.out.2.2).mono ?_; rintro e w2 ⟨rfl, b2⟩
    have T2 := Lib.hid (T1.out.keep b2); clear b2 p0 p1
    have hsz2 := T2.out.2.2.size
    have bn := Below.ofNew (w := w2) (.cells #[] 26)
    have T3 := Lib.hid (And.intro (T2.out.keep bn) (And.intro (owns_mono (clus_empty w2) hsz2) (HRD.out.old (T2.out.2.2.trans (bn.mono hsz2))))); clear bn
    obtain ⟨p0, p1, -, -, -, -⟩ := T3.out.1.cells
    go_wp2_with (at_builtin; refine wpList_append_own_at _ rfl _ _ 36 rfl w.heap.size 26 i0 (.agg #[.int .i64 0, .int .i64 0, .int .i64 0]) 3 24 Tryd.underlying36 HIC.out.1 HIC.out.2.1 HIC.out.2.2.1 HIC.out.2.2.2 rfl (by decide) _ 0 (clus []) rfl T3.out.2.1 ⟨g0, 0, none⟩ l.length c (clus l) rfl (by rw [clus_len, Nat.mul_comm]) (read_cells T3.out.2.2 _ rfl) clus_one (by unfold maxLen; omega) (by omega) (by simp; omega) ?_)
    intro v' w5 hown5 hgrow _ hob
    have hown6 : w5.ownsRow w.heap.size 26 3 v' l.length (clus l) := hown5
    have T5' := T3.out.1.grow T3.out.2.1 hgrow
    obtain ⟨a5, c5, rfl, hc5, hrd5, -⟩ := own_cap hown6
    have T5 := Lib.hid (And.intro hown6 T5'); clear hown5 hown6 hgrow hob T5' p0 p1 hrd5 hc5
    obtain ⟨p0, p1, -, -, -, -⟩ := T5.out.2.cells
    have h6i : (l.length : Int) ≤ 6 := by omega
    go_wp2_with fail
    go_loopw [4, 5] (fun v i wq => ∃ (k : Nat) (m : List Cl) (a : Option Addr) (c' : Nat), i = .int .i64 k ∧ v = .slice a m.length c' ∧ k ≤ 6 ∧ m.length ≤ 6 ∧ Hid (HardQ pn l k m ∧ wq.ownsRow w.heap.size 26 3 (.slice a m.length c') m.length (clus m) ∧ Two w pn (.slice (some ⟨g0, 0, none⟩) l.length c) wq)) (fun v i _ => lenOf v - (intOf i).toNat)
    case atStart => exact ⟨0, l, a5, c5, rfl, rfl, by omega, h6, HQ0.out, T5.out.1, T5.out.2⟩
    case round =>
      clear p0 p1
      obtain ⟨k, m, a, c', rfl, rfl, hk6, hm6, HJ⟩ := hrel
      by_cases hlt : k < m.length
      · have b2 : (k : Int) < (m.length : Int) := by omega
        obtain ⟨a7, c7, he7, hc7, hrd7, -⟩ := own_cap HJ.out.2.1
        injection he7 with x1 x2 x3
        subst x1 x3
        have HW := Lib.hid (pzWithout_any m a c' k wr (by omega) hc7 hlt hrd7)
        have HDL := Lib.hid (dropC_len m hlt)
        have HS2 := Lib.hid (fun a c W hra => pzSolvedC_any (goodP_drop HJ.out.1.1 hlt) a c W hra)
        have HQ1 := Lib.hid (And.intro (fun h => HJ.out.1.drop hlt h) (fun h => HJ.out.1.next hlt h))
        obtain ⟨p0, p1, -, -, -, -⟩ := HJ.out.2.2.cells
        clear hrd7 hc7 x2
        generalize dropC m k = m2 at *
        go_wp2_with fail
        refine HW.out.mono ?_; rintro e w7 ⟨a8, c8, rfl, o8, b8⟩
        obtain ⟨a9, c9, he9, hc9, hrd9, -⟩ := own_cap o8
        injection he9 with x1 x2 x3
        subst x1 x3
        have T7 := Lib.hid (And.intro (HJ.out.2.2.keep b8) (And.intro (owns_mono o8 HJ.out.2.2.2.2.size) (owns_below HJ.out.2.1 b8)))
        have HS3 := Lib.hid (HS2.out a8 c8 w7 hrd9)
        clear p0 p1 o8 b8 hrd9 hc9 x2
        obtain ⟨p0, p1, -, -, -, -⟩ := T7.out.1.cells
        cases h1 : oneC pn m2
        · rw [h1] at HS3
          have HQN := Lib.hid (HQ1.out.2 h1)
          clear h1
          go_wp2_with fail
          refine HS3.out.mono ?_; rintro e w8 ⟨rfl, b8⟩
          have T8 := Lib.hid (And.intro HQN.out (And.intro (owns_below T7.out.2.2 b8) (T7.out.1.keep b8))); clear b8 p0 p1
          go_wp2_with fail
          go_roundw
          case rel => exact ⟨k + 1, m, a, c', by go_num, rfl, by omega, hm6, T8⟩
          case measure => simp [intOf, lenOf]; omega
        · rw [h1] at HS3
          have HQN := Lib.hid (HQ1.out.1 h1)
          clear h1
          go_wp2_with fail
          refine HS3.out.mono ?_; rintro e w8 ⟨rfl, b8⟩
          have T8 := Lib.hid (And.intro HQN.out (And.intro (owns_below T7.out.2.1 b8) (T7.out.1.keep b8))); clear b8 p0 p1
          go_wp2_with fail
          go_roundw
          case rel => exact ⟨k, m2, a8, c8, rfl, rfl, hk6, by have := HDL.out; omega, T8⟩
          case measure => have := HDL.out; simp [intOf, lenOf]; omega
      · have hng : ¬ (k : Int) < (m.length : Int) := by omega
        obtain rfl := HQD.out k m HJ.out.1 hlt
        obtain ⟨p0, p1, q0, q1, f0, f1⟩ := HJ.out.2.2.cells
        have HF2 := Lib.hid (HJ.out.2.2.putOwn HJ.out.2.1 (.int .i64 pn) (.slice a m.length c'))
        obtain ⟨r0, r1, -, -⟩ := HF2.out.2.2.1.two
        go_wp2_with fail
        refine bodyPost_ret (v := .tuple #[.agg #[.int .i64 pn, .slice a m.length c'], .bool true]) ?_ rfl ⟨a, c', rfl, HF2.out.1, HF2.out.2.1⟩
        simp [results, Tryd.results43, go_sem, *]
end Go.Proofs.YtcigighklghjkaaDoor
