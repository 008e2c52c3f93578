/-
  Leagues out of texts: the model.
-/
import Derived.Test.YtbgdngfjeikheaaDoorLqImp2
import Derived.OwnWalk
namespace Go.Proofs.YtbgdngfjeikheaaDoor
open Go.RowKit
set_option linter.unusedVariables false
set_option linter.unusedSimpArgs false

theorem valM_none {l : List UInt8} (h : lgM l = none ∨ 600 < l.length) : valM l = (0, 0, []) ∧ okM l = false := by
  have : okM l = false := by
    unfold okM
    rcases h with h | h
    · rw [h]; simp
    · rw [decide_eq_false (by omega)]; rfl
  exact ⟨by unfold valM; rw [this]; rfl, this⟩
theorem valM_some {l : List UInt8} {t wn : Int} {rs : List Rs} (h : lgM l = some (t, wn, rs)) (hl : l.length ≤ 600) : (goodL t wn rs = false ∧ valM l = (0, 0, []) ∧ okM l = false) ∨ (goodL t wn rs = true ∧ valM l = (t, wn, rs) ∧ okM l = true) := by
  have ho : okM l = goodL t wn rs := by unfold okM; rw [h, decide_eq_true hl]; rfl
  cases hg : goodL t wn rs
  · exact .inl ⟨rfl, by unfold valM; rw [ho, hg]; rfl, by rw [ho, hg]⟩
  · exact .inr ⟨rfl, by unfold valM; rw [ho, hg, h]; rfl, by rw [ho, hg]⟩
theorem lgM_not {l : List UInt8} (h : (cutL 124 l).length ≠ 2) : lgM l = none := by
  unfold lgM
  split
  · rename_i e; rw [e] at h; exact absurd rfl h
  · rfl
theorem lgM_two {l p q : List UInt8} (h : cutL 124 l = [p, q]) : lgM l = (rowsM q).map fun rs => ((twoM 119 p).1, (twoM 119 p).2, rs) := by
  unfold lgM
  rw [h]
  simp only
  cases rowsM q <;> rfl

set_option maxHeartbeats 3200000 in
set_option maxRecDepth 100000 in
theorem lgParse_not (s : ByteArray) (n : Nat) (xs : List Value) (hn : (n : Int) ≤ 1048577) (hz : (s.size : Int) ≤ 1048576) (h : 600 < s.size ∨ n ≠ 2) (hsp : ∀ w : World, Calls Tryd.prog 88 #[.string s, .int .u8 124] w fun e w' => ∃ v, e = .returned v ∧ w'.ownsRow w.heap.size 9 1 v n xs ∧ Below w.heap.size w w') (w : World) :
    Calls Tryd.prog 74 #[.string s] w fun e w' => LgR 0 0 [] false w e w' := by
  have HSP := Lib.hid hsp; clear hsp
  have P0 := ObAt.new w 42 #[.int .i64 0, .int .i64 0, .slice none 0 0]
  have B0 := Below.ofNew (w := w) (.cells #[.int .i64 0, .int .i64 0, .slice none 0 0] 42)
  have HP0 := Lib.hid (And.intro P0 B0); clear P0 B0
  by_cases h6 : 600 < s.size
  · have d6 : (600 : Int) < (s.size : Int) := by omega
    clear h h6
    go_enter Tryd.func74, Tryd.ntmps74
    go_wp2_with fail
    refine (HSP.out _).mono ?_; rintro e w1 ⟨v, rfl, hown, hbel⟩
    have HP1 := Lib.hid (And.intro (HP0.out.1.keep hbel) (HP0.out.2.trans (hbel.mono HP0.out.2.size)))
    obtain ⟨a, c, rfl, -, -, -, -⟩ := Reads.own hown
    clear hown hbel HP0 HSP
    obtain ⟨z0, z1, z2, f0, f1, f2⟩ := HP1.out.1.three
    have HB9 : Hid (∀ u0 u1 u2 : Value, Below w.heap.size w (((w1.setCell ⟨w.heap.size, 0, none⟩ u0).setCell ⟨w.heap.size, 1, none⟩ u1).setCell ⟨w.heap.size, 2, none⟩ u2)) := fun u0 u1 u2 =>
      ((HP1.out.2.setCell (p := ⟨w.heap.size, 0, none⟩) (Nat.le_refl _) u0).setCell (p := ⟨w.heap.size, 1, none⟩) (Nat.le_refl _) u1).setCell (p := ⟨w.heap.size, 2, none⟩) (Nat.le_refl _) u2
    have HQ := Lib.hid (((HP1.out.1.put 0 (.int .i64 0)).put 1 (.int .i64 0)).put 2 (.slice none 0 0)).three
    go_wp2_with fail
    obtain ⟨y0, y1, y2, -, -, -⟩ := HQ.out
    refine bodyPost_ret (v := .tuple #[.agg #[.int .i64 0, .int .i64 0, .slice none 0 0], .bool false]) (by simp [results, Tryd.results74, go_sem, y0, y1, y2]) rfl ⟨none, 0, rfl, ⟨rfl, .inl ⟨rfl, rfl⟩⟩, HB9.out _ _ _⟩
  · have d6 : ¬ (600 : Int) < (s.size : Int) := by omega
    have d2 : ((n : Int) != 2) = true := by simp; omega
    clear h h6
    go_enter Tryd.func74, Tryd.ntmps74
    go_wp2_with fail
    refine (HSP.out _).mono ?_; rintro e w1 ⟨v, rfl, hown, hbel⟩
    have HP1 := Lib.hid (And.intro (HP0.out.1.keep hbel) (HP0.out.2.trans (hbel.mono HP0.out.2.size)))
    obtain ⟨a, c, rfl, -, -, -, -⟩ := Reads.own hown
    clear hown hbel HP0 HSP
    obtain ⟨z0, z1, z2, f0, f1, f2⟩ := HP1.out.1.three
    have HB9 : Hid (∀ u0 u1 u2 : Value, Below w.heap.size w (((w1.setCell ⟨w.heap.size, 0, none⟩ u0).setCell ⟨w.heap.size, 1, none⟩ u1).setCell ⟨w.heap.size, 2, none⟩ u2)) := fun u0 u1 u2 =>
      ((HP1.out.2.setCell (p := ⟨w.heap.size, 0, none⟩) (Nat.le_refl _) u0).setCell (p := ⟨w.heap.size, 1, none⟩) (Nat.le_refl _) u1).setCell (p := ⟨w.heap.size, 2, none⟩) (Nat.le_refl _) u2
    have HQ := Lib.hid (((HP1.out.1.put 0 (.int .i64 0)).put 1 (.int .i64 0)).put 2 (.slice none 0 0)).three
    go_wp2_with fail
    obtain ⟨y0, y1, y2, -, -, -⟩ := HQ.out
    refine bodyPost_ret (v := .tuple #[.agg #[.int .i64 0, .int .i64 0, .slice none 0 0], .bool false]) (by simp [results, Tryd.results74, go_sem, y0, y1, y2]) rfl ⟨none, 0, rfl, ⟨rfl, .inl ⟨rfl, rfl⟩⟩, HB9.out _ _ _⟩

set_option maxHeartbeats 3200000 in
set_option maxRecDepth 100000 in
theorem lgParse_nil (s p q : ByteArray) (t wn : Int) (V : Int × Int × List Rs) (o : Bool) (hz : s.size ≤ 600) (hp : p.size ≤ s.size) (hq : q.data.toList = []) (ht : twoM 119 p.data.toList = (t, wn)) (hcs : (goodL t wn [] = false ∧ V = (0, 0, []) ∧ o = false) ∨ (goodL t wn [] = true ∧ V = (t, wn, []) ∧ o = true)) (hsp : ∀ w : World, Calls Tryd.prog 88 #[.string s, .int .u8 124] w fun e w' => ∃ v, e = .returned v ∧ w'.ownsRow w.heap.size 9 1 v 2 (strS [p, q]) ∧ Below w.heap.size w w') (w : World) :
    Calls Tryd.prog 74 #[.string s] w fun e w' => LgR V.1 V.2.1 V.2.2 o w e w' := by
  have HSP := Lib.hid hsp; clear hsp
  have htw := fun W => lgTwo_any p 119 (by omega) W
  rw [ht, show (((119 : UInt8).toNat : Nat) : Int) = 119 from rfl] at htw
  have HTW := Lib.hid htw; clear htw ht
  have P0 := ObAt.new w 42 #[.int .i64 0, .int .i64 0, .slice none 0 0]
  have B0 := Below.ofNew (w := w) (.cells #[.int .i64 0, .int .i64 0, .slice none 0 0] 42)
  have HP0 := Lib.hid (And.intro P0 B0); clear P0 B0
  have d6 : ¬ (600 : Int) < (s.size : Int) := by omega
  have hq2 : q.toList.isEmpty = true := by rw [ByteArray.toList_eq, hq]; rfl
  clear hz hp hq
  go_enter Tryd.func74, Tryd.ntmps74
  go_wp2_with fail
  refine (HSP.out _).mono ?_; rintro e w1 ⟨v, rfl, hown, hbel⟩
  obtain ⟨a1, c1', rfl, hrd, -, -, -⟩ := Reads.own hown
  obtain ⟨b, off, rfl, hlt, k0, k1⟩ := two_cells hrd
  have HP1 := Lib.hid (And.intro (HP0.out.1.keep hbel) (And.intro (HP0.out.2.trans (hbel.mono HP0.out.2.size)) hrd))
  clear hown hbel HP0 HSP hrd
  go_wp2_with fail
  refine (HTW.out _).mono ?_; rintro e w2 ⟨rfl, b2⟩
  have bn := Below.ofNew (w := w2) (.cells #[.int .i64 t, .int .i64 wn, .slice none 0 0] 42)
  have bb := b2.trans (bn.mono b2.size)
  have HP8 : Hid (ObAt (w2.alloc (.cells #[.int .i64 t, .int .i64 wn, .slice none 0 0] 42)) w.heap.size 42 #[.int .i64 0, .int .i64 0, .slice none 0 0] ∧ ObAt (w2.alloc (.cells #[.int .i64 t, .int .i64 wn, .slice none 0 0] 42)) w2.heap.size 42 #[.int .i64 t, .int .i64 wn, .slice none 0 0] ∧ (w2.alloc (.cells #[.int .i64 t, .int .i64 wn, .slice none 0 0] 42)).ownsRow w.heap.size 97 4 (.slice none 0 0) 0 (ress []) ∧ Below w.heap.size w (w2.alloc (.cells #[.int .i64 t, .int .i64 wn, .slice none 0 0] 42))) :=
    ⟨HP1.out.1.keep bb, ObAt.new _ _ _, ⟨rfl, .inl ⟨rfl, rfl⟩⟩, HP1.out.2.1.trans (bb.mono HP1.out.2.1.size)⟩
  have hr9 := HP1.out.2.2.old bb
  rcases hr9 with hr9 | ⟨b', off', e', -, hc9⟩
  · simp [strS] at hr9
  cases e'
  have k0 := hc9 0 (by simp [strS])
  have k1 := hc9 1 (by simp [strS])
  simp only [Nat.add_zero] at k0
  rw [show (strS [p, q])[1]? = some (.string q) from rfl] at k1
  clear b2 bn bb HP1 HTW hc9
  have hrd : Reads (w2.alloc (.cells #[.int .i64 t, .int .i64 wn, .slice none 0 0] 42)) none (ress []) := .inl rfl
  have hac : ([] : List Rs).length ≤ 0 := Nat.le_refl _
  have HLT := Lib.hid (lgGood_any t wn [] none 0 (w2.alloc (.cells #[.int .i64 t, .int .i64 wn, .slice none 0 0] 42)) (by simp) hac hrd)
  clear hac hrd
  obtain ⟨c0, c1, c2, -, -, -⟩ := HP8.out.2.1.three
  rcases hcs with ⟨hg, rfl, rfl⟩ | ⟨hg, rfl, rfl⟩
  · rw [hg] at HLT
    clear hg
    go_wp2_with fail
    refine HLT.out.mono ?_; rintro e w9 ⟨rfl, b9⟩
    have HP9 := Lib.hid (And.intro (HP8.out.1.keep b9) (HP8.out.2.2.2.trans (b9.mono HP8.out.2.2.2.size))); clear b9 HP8 HLT c0 c1 c2
    obtain ⟨z0, z1, z2, f0, f1, f2⟩ := HP9.out.1.three
    have HB9 : Hid (∀ u0 u1 u2 : Value, Below w.heap.size w (((w9.setCell ⟨w.heap.size, 0, none⟩ u0).setCell ⟨w.heap.size, 1, none⟩ u1).setCell ⟨w.heap.size, 2, none⟩ u2)) := fun u0 u1 u2 =>
      ((HP9.out.2.setCell (p := ⟨w.heap.size, 0, none⟩) (Nat.le_refl _) u0).setCell (p := ⟨w.heap.size, 1, none⟩) (Nat.le_refl _) u1).setCell (p := ⟨w.heap.size, 2, none⟩) (Nat.le_refl _) u2
    have HQ := Lib.hid (((HP9.out.1.put 0 (.int .i64 0)).put 1 (.int .i64 0)).put 2 (.slice none 0 0)).three
    go_wp2_with fail
    obtain ⟨y0, y1, y2, -, -, -⟩ := HQ.out
    refine bodyPost_ret (v := .tuple #[.agg #[.int .i64 0, .int .i64 0, .slice none 0 0], .bool false]) (by simp [results, Tryd.results74, go_sem, y0, y1, y2]) rfl ⟨none, 0, rfl, ⟨rfl, .inl ⟨rfl, rfl⟩⟩, HB9.out _ _ _⟩
  · rw [hg] at HLT
    clear hg
    go_wp2_with fail
    refine HLT.out.mono ?_; rintro e w9 ⟨rfl, b9⟩
    have HP9 := Lib.hid (And.intro (HP8.out.1.keep b9) (And.intro (HP8.out.2.1.keep b9) (And.intro (owns_below HP8.out.2.2.1 b9) (HP8.out.2.2.2.trans (b9.mono HP8.out.2.2.2.size))))); clear b9 HP8 HLT c0 c1 c2
    obtain ⟨z0, z1, z2, f0, f1, f2⟩ := HP9.out.1.three
    obtain ⟨c0, c1, c2, -, -, -⟩ := HP9.out.2.1.three
    have HB9 : Hid (∀ u0 u1 u2 : Value, (((w9.setCell ⟨w.heap.size, 0, none⟩ u0).setCell ⟨w.heap.size, 1, none⟩ u1).setCell ⟨w.heap.size, 2, none⟩ u2).ownsRow w.heap.size 97 4 (.slice none 0 0) 0 (ress []) ∧ Below w.heap.size w (((w9.setCell ⟨w.heap.size, 0, none⟩ u0).setCell ⟨w.heap.size, 1, none⟩ u1).setCell ⟨w.heap.size, 2, none⟩ u2)) := fun u0 u1 u2 => by
      refine ⟨owns_heap HP9.out.2.2.1 (fun k e => ?_), ((HP9.out.2.2.2.setCell (p := ⟨w.heap.size, 0, none⟩) (Nat.le_refl _) u0).setCell (p := ⟨w.heap.size, 1, none⟩) (Nat.le_refl _) u1).setCell (p := ⟨w.heap.size, 2, none⟩) (Nat.le_refl _) u2⟩
      have hne : k ≠ w.heap.size := by
        intro e2
        rw [e2] at e
        exact owns_apart (g := w.heap.size) (T := 42) (fr := (0, 0)) HP9.out.1 (by decide) HP9.out.2.2.1 e
      rw [Below.heap_setCell _ _ _ _ hne, Below.heap_setCell _ _ _ _ hne, Below.heap_setCell _ _ _ _ hne]
    have HQ := Lib.hid (((HP9.out.1.put 0 (.int .i64 t)).put 1 (.int .i64 wn)).put 2 (.slice none 0 0)).three
    go_wp2_with fail
    obtain ⟨y0, y1, y2, -, -, -⟩ := HQ.out
    refine bodyPost_ret (v := .tuple #[.agg #[.int .i64 t, .int .i64 wn, .slice none 0 0], .bool true]) (by simp [results, Tryd.results74, go_sem, y0, y1, y2]) rfl ⟨none, 0, rfl, (HB9.out _ _ _).1, (HB9.out _ _ _).2⟩
end Go.Proofs.YtbgdngfjeikheaaDoor
