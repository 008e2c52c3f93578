/-
  Puzzles out of texts: the model.
-/
import Derived.Test.YtbgdngfjeikheaaDoorPqImp2
import Derived.Test.YtbgdngfjeikheaaDoorPzDrop
import Derived.OwnWalk
import Derived.Deep.RegionHeld3
namespace Go.Proofs.YtbgdngfjeikheaaDoor
open Go.RowKit
set_option linter.unusedVariables false
set_option linter.unusedSimpArgs false

theorem rawM_none {l : List UInt8} (h : pzM l = none ∨ 60 < l.length) : (rawM l).getD (0, []) = (0, []) ∧ okM l = false := by
  have : rawM l = none := by
    unfold rawM
    rcases h with h | h
    · rw [h]; simp
    · rw [if_neg (by omega)]
  unfold okM; rw [this]; exact ⟨rfl, rfl⟩
theorem rawM_some {l : List UInt8} {t : Int} {rs : List Cl} (h : pzM l = some (t, rs)) (hl : l.length ≤ 60) : (rawM l).getD (0, []) = (t, rs) ∧ okM l = (goodP t rs && decide (pzTL t rs = l)) := by
  have : rawM l = some (t, rs) := by unfold rawM; rw [if_pos hl, h]
  unfold okM; rw [this]; exact ⟨rfl, rfl⟩
theorem pzM_not {l : List UInt8} (h : (cutL 112 l).length ≠ 2) : pzM l = none := by
  unfold pzM
  split
  · rename_i e; rw [e] at h; exact absurd rfl h
  · rfl
theorem pzM_two {l p q : List UInt8} (h : cutL 112 l = [p, q]) : pzM l = (clsM q).map fun rs => (readL p, rs) := by
  unfold pzM
  rw [h]
  simp only
  cases clsM q <;> rfl
theorem ob_ne {w : World} {g g' : Nat} {T T' : TypeId} {cs cs' : Array Value} (h : ObAt w g T cs) (h' : ObAt w g' T' cs') (hT : T ≠ T') : g ≠ g' := by
  intro e
  subst e
  unfold ObAt at h h'
  rw [h] at h'
  injection h' with h'
  injection h' with h1 h2 h3
  exact hT h2
theorem row_ob {w : World} {B n : Nat} {v : Value} {ps : List ByteArray} (h : w.ownsRow B 9 1 v n (strS ps)) (hn : 0 < n) :
    ∃ b cap cs, v = .slice (some ⟨b, 0, none⟩) n cap ∧ B ≤ b ∧ ObAt w b 9 cs ∧ ∀ (j : Nat) p, ps[j]? = some p → cs[j]? = some (.string p) := by
  obtain ⟨hl, ⟨-, h0⟩ | ⟨g, cap, cur, hv, hg, hh, hn', hc, hs, ht⟩⟩ := h
  · omega
  · refine ⟨g, cap, cur, hv, hg, hh, fun j p hj => ?_⟩
    have hlen : (strS ps).length = ps.length := by simp [strS]
    have hj1 : j < ps.length := (List.getElem?_eq_some_iff.1 hj).1
    have h2 : (strS ps)[j]? = some (.string p) := by simp [strS, hj]
    rw [← ht, List.getElem?_take, if_pos (by omega)] at h2
    rw [← h2]; simp
theorem pq_cells {w9 : World} {g h : Nat} {t : Value} {v u0 u1 : Value} (ho : ObAt w9 g 24 #[t, v]) (hne : g ≠ h) :
    ((w9.setCell ⟨h, 0, none⟩ u0).setCell ⟨h, 1, none⟩ u1).cell? ⟨g, 0, none⟩ = some t ∧ ((w9.setCell ⟨h, 0, none⟩ u0).setCell ⟨h, 1, none⟩ u1).cell? ⟨g, 1, none⟩ = some v := by
  have := (ho.other hne u0 (o := 0)).other hne u1 (o := 1)
  exact ⟨this.cell 0, this.cell 1⟩
theorem pzTextZ_any (t : Int) (l : List Cl) (hgd : goodP t l = true) (ad : Option Addr) (c : Nat) (w : World) (hr : Reads w ad (clus l)) :
    Calls Tryd.prog 63 #[.agg #[.int .i64 t, .slice ad l.length c]] w fun e w' => e = .returned (.string ⟨(pzTL t l).toArray⟩) ∧ Below w.heap.size w w' := by
  obtain ⟨n, rfl⟩ : ∃ n : Nat, t = n := ⟨t.toNat, by have := (goodP_bd hgd).1; omega⟩
  exact pzText_any n l hgd ad c w hr

set_option maxHeartbeats 800000 in
set_option maxRecDepth 100000 in
theorem pzParse_not (s : ByteArray) (n : Nat) (xs : List Value) (hn : (n : Int) ≤ 1048577) (hz : (s.size : Int) ≤ 1048576) (h : 60 < s.size ∨ n ≠ 2) (hsp : ∀ w : World, Calls Tryd.prog 88 #[.string s, .int .u8 112] w fun e w' => ∃ v, e = .returned v ∧ w'.ownsRow w.heap.size 9 1 v n xs ∧ Below w.heap.size w w') (w : World) :
    Calls Tryd.prog 69 #[.string s] w fun e w' => PzR 0 [] false w e w' := by
  have HSP := Lib.hid hsp; clear hsp
  have HP0 := Lib.hid (And.intro (ObAt.new w 24 #[.int .i64 0, .slice none 0 0]) (Below.ofNew (w := w) (.cells #[.int .i64 0, .slice none 0 0] 24)))
  by_cases h6 : 60 < s.size
  · have d6 : (60 : Int) < (s.size : Int) := by omega
    clear h h6
    go_enter Tryd.func69, Tryd.ntmps69
    go_wp2_with fail
    refine (HSP.out _).mono ?_; rintro e w1 ⟨v, rfl, hown, hbel⟩
    have HP1 := Lib.hid (And.intro (HP0.out.1.keep hbel) (HP0.out.2.trans (hbel.mono HP0.out.2.size)))
    obtain ⟨a, c, rfl, -, -, -, -⟩ := Reads.own hown
    clear hown hbel HP0 HSP
    obtain ⟨z0, z1, f0, f1⟩ := HP1.out.1.two
    have HB9 : Hid (∀ u0 u1 : Value, Below w.heap.size w ((w1.setCell ⟨w.heap.size, 0, none⟩ u0).setCell ⟨w.heap.size, 1, none⟩ u1)) := fun u0 u1 =>
      (HP1.out.2.setCell (p := ⟨w.heap.size, 0, none⟩) (Nat.le_refl _) u0).setCell (p := ⟨w.heap.size, 1, none⟩) (Nat.le_refl _) u1
    have HQ := Lib.hid ((HP1.out.1.put 0 (.int .i64 0)).put 1 (.slice none 0 0)).two
    go_wp2_with fail
    obtain ⟨y0, y1, -, -⟩ := HQ.out
    refine bodyPost_ret (v := .tuple #[.agg #[.int .i64 0, .slice none 0 0], .bool false]) ?_ rfl ⟨none, 0, rfl, owns_nil3 _ _ _, HB9.out _ _⟩
    simp [results, Tryd.results69, go_sem, *]
  · have d6 : ¬ (60 : Int) < (s.size : Int) := by omega
    have d2 : ((n : Int) != 2) = true := by simp; omega
    have d3 : ¬ n = 2 := by omega
    clear h h6
    go_enter Tryd.func69, Tryd.ntmps69
    go_wp2_with fail
    refine (HSP.out _).mono ?_; rintro e w1 ⟨v, rfl, hown, hbel⟩
    have HP1 := Lib.hid (And.intro (HP0.out.1.keep hbel) (HP0.out.2.trans (hbel.mono HP0.out.2.size)))
    obtain ⟨a, c, rfl, -, -, -, -⟩ := Reads.own hown
    clear hown hbel HP0 HSP
    obtain ⟨z0, z1, f0, f1⟩ := HP1.out.1.two
    have HB9 : Hid (∀ u0 u1 : Value, Below w.heap.size w ((w1.setCell ⟨w.heap.size, 0, none⟩ u0).setCell ⟨w.heap.size, 1, none⟩ u1)) := fun u0 u1 =>
      (HP1.out.2.setCell (p := ⟨w.heap.size, 0, none⟩) (Nat.le_refl _) u0).setCell (p := ⟨w.heap.size, 1, none⟩) (Nat.le_refl _) u1
    have HQ := Lib.hid ((HP1.out.1.put 0 (.int .i64 0)).put 1 (.slice none 0 0)).two
    go_wp2_with fail
    obtain ⟨y0, y1, -, -⟩ := HQ.out
    refine bodyPost_ret (v := .tuple #[.agg #[.int .i64 0, .slice none 0 0], .bool false]) ?_ rfl ⟨none, 0, rfl, owns_nil3 _ _ _, HB9.out _ _⟩
    simp [results, Tryd.results69, go_sem, *]
end Go.Proofs.YtbgdngfjeikheaaDoor
