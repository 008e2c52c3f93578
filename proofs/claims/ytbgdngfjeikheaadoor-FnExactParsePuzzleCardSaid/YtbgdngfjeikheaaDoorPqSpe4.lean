/-
  Puzzles out of texts: the model, whole.
-/
import Derived.Test.YtbgdngfjeikheaaDoorPqSpe3
namespace Go.Proofs.YtbgdngfjeikheaaDoor
open Go.RowKit
set_option linter.unusedVariables false
set_option linter.unusedSimpArgs false

theorem vv_of {V : Int × List Cl} {o : Bool} {t : Int} {m : List Cl} {s : ByteArray} (h1 : V = (t, m)) (h2 : o = (goodP t m && decide (pzTL t m = s.data.toList))) :
    (goodP t m = false → V = (t, m) ∧ o = false) ∧ (goodP t m = true → (pzTL t m = s.data.toList → V = (t, m) ∧ o = true) ∧ (¬ pzTL t m = s.data.toList → V = (t, m) ∧ o = false)) := by
  refine ⟨fun h => ⟨h1, by rw [h2, h]; rfl⟩, fun h => ⟨fun e => ⟨h1, by rw [h2, h, decide_eq_true e]; rfl⟩, fun e => ⟨h1, by rw [h2, h, decide_eq_false e]; rfl⟩⟩⟩
def rawV (l : List UInt8) : Int × List Cl := (rawM l).getD (0, [])
theorem pzParse_any (s : ByteArray) (hz : (s.size : Int) ≤ 1048576) (w : World) :
    Calls Tryd.prog 69 #[.string s] w fun e w' => PzR (rawV s.data.toList).1 (rawV s.data.toList).2 (okM s.data.toList) w e w' := by
  have hsp := fun w => l1Split_any s 112 hz w
  rw [show (((112 : UInt8).toNat : Nat) : Int) = 112 from rfl] at hsp
  have hpl := cutS_len s 112 s.size 0
  have hps := fun x (hx : x ∈ cutS s 112 s.size 0) => cutS_size s 112 s.size 0 x hx
  have hpc := pcsL s 112
  have hl : s.data.toList.length = s.size := by simp
  generalize cutS s 112 s.size 0 = ps at *
  have hnot : 60 < s.size ∨ ps.length ≠ 2 → Calls Tryd.prog 69 #[.string s] w fun e w' => PzR (rawV s.data.toList).1 (rawV s.data.toList).2 (okM s.data.toList) w e w' := by
    intro h
    have hr : (rawM s.data.toList).getD (0, []) = (0, []) ∧ okM s.data.toList = false := rawM_none (by
      rcases h with h | h
      · right; omega
      · left; exact pzM_not (by rw [← hpc, List.length_map]; exact h))
    have e1 : rawV s.data.toList = (0, []) := hr.1
    rw [e1, hr.2]
    exact pzParse_not s ps.length _ (by omega) hz h (fun w => hsp w) w
  by_cases h6 : 60 < s.size
  · exact hnot (.inl h6)
  · by_cases h2 : ps.length = 2
    · clear hnot
      match ps, h2 with
      | [p, q], _ =>
        have hcut : cutL 112 s.data.toList = [p.data.toList, q.data.toList] := by rw [← hpc]; rfl
        have hm := pzM_two hcut
        have hp := hps p (by simp)
        have hq := hps q (by simp)
        have hsome : ∀ m, clsM q.data.toList = some m → (goodP (readL p.data.toList) m = false → rawV s.data.toList = (readL p.data.toList, m) ∧ okM s.data.toList = false) ∧ (goodP (readL p.data.toList) m = true → (pzTL (readL p.data.toList) m = s.data.toList → rawV s.data.toList = (readL p.data.toList, m) ∧ okM s.data.toList = true) ∧ (¬ pzTL (readL p.data.toList) m = s.data.toList → rawV s.data.toList = (readL p.data.toList, m) ∧ okM s.data.toList = false)) := by
          intro m h
          rw [h] at hm
          have hr := rawM_some (t := readL p.data.toList) (rs := m) hm (by omega)
          exact vv_of (s := s) hr.1 hr.2
        by_cases hq0 : q.data.toList = []
        · exact pzParse_nil s p q _ _ _ (by omega) hp hq0 rfl (hsome [] (by rw [hq0]; rfl)) hsp w
        · refine pzParse_rows s p q _ _ _ (by omega) hp hq hq0 rfl (fun h => ?_) hsome hsp w
          rw [h] at hm
          exact rawM_none (.inl hm)
    · exact hnot (.inr h2)

set_option maxHeartbeats 800000 in
set_option maxRecDepth 100000 in
theorem specParsePuzzle_any (s : ByteArray) (hz : (s.size : Int) ≤ 1048576) (w : World) :
    Calls Tryd.prog 22 #[.string s] w fun e w' => PzR (valM s.data.toList).1 (valM s.data.toList).2 (okM s.data.toList) w e w' := by
  have hv : valM s.data.toList = if okM s.data.toList then rawV s.data.toList else (0, []) := rfl
  have HP := Lib.hid (fun W => pzParse_any s hz W)
  generalize valM s.data.toList = V at *
  generalize okM s.data.toList = o at *
  generalize rawV s.data.toList = R at *
  obtain ⟨t, m⟩ := R
  simp only at HP
  have HA := Lib.hid (And.intro (ObAt.new w 24 #[.int .i64 0, .slice none 0 0]) (Below.ofNew (w := w) (.cells #[.int .i64 0, .slice none 0 0] 24)))
  cases o
  · have HF := Lib.hid (show V = (0, []) from hv); clear hv
    go_enter Tryd.func22, Tryd.ntmps22
    go_wp2_with fail
    refine (HP.out _).mono ?_; rintro e w1 ⟨a, c, rfl, o1, b1⟩
    have bn := Below.ofNew (w := w1) (.cells #[.int .i64 t, .slice a m.length c] 24)
    have HB := Lib.hid (And.intro ((HA.out.1.keep b1).keep bn) ((HA.out.2.trans (b1.mono HA.out.2.size)).trans (bn.mono (HA.out.2.trans (b1.mono HA.out.2.size)).size)))
    clear bn b1 o1
    obtain ⟨z0, z1, f0, f1⟩ := HB.out.1.two
    have HR := Lib.hid (fun u0 u1 : Value => (HB.out.2.setCell (p := ⟨w.heap.size, 0, none⟩) (Nat.le_refl _) u0).setCell (p := ⟨w.heap.size, 1, none⟩) (Nat.le_refl _) u1)
    have HQ := Lib.hid ((HB.out.1.put 0 (.int .i64 0)).put 1 (.slice none 0 0)).two
    go_wp2_with fail
    obtain ⟨y0, y1, -, -⟩ := HQ.out
    rw [HF.out]
    refine bodyPost_ret (v := .tuple #[.agg #[.int .i64 0, .slice none 0 0], .bool false]) ?_ rfl ⟨none, 0, rfl, owns_nil3 _ _ _, HR.out _ _⟩
    simp [results, Tryd.results22, go_sem, *]
  · have HF := Lib.hid (show V = (t, m) from hv); clear hv
    go_enter Tryd.func22, Tryd.ntmps22
    go_wp2_with fail
    refine (HP.out _).mono ?_; rintro e w1 ⟨a, c, rfl, o1, b1⟩
    have bn := Below.ofNew (w := w1) (.cells #[.int .i64 t, .slice a m.length c] 24)
    have h1 := HA.out.2.trans (b1.mono HA.out.2.size)
    have HPQ : Hid (PqS w t w1.heap.size a m c (w1.alloc (.cells #[.int .i64 t, .slice a m.length c] 24))) := ⟨(HA.out.1.keep b1).keep bn, ObAt.new _ _ _, owns_base (owns_below o1 bn) HA.out.2.size, h1.trans (bn.mono h1.size)⟩
    clear bn b1 o1 h1
    obtain ⟨z0, z1, f0, f1⟩ := HPQ.out.1.two
    obtain ⟨p0, p1, -, -⟩ := HPQ.out.2.1.two
    have HRS := Lib.hid (HPQ.out.res (.int .i64 t) (.slice a m.length c))
    obtain ⟨r0, r1, -, -⟩ := HRS.out.2.2.two
    go_wp2_with fail
    rw [HF.out]
    refine bodyPost_ret (v := .tuple #[.agg #[.int .i64 t, .slice a m.length c], .bool true]) ?_ rfl ⟨a, c, rfl, HRS.out.1, HRS.out.2.1⟩
    simp [results, Tryd.results22, go_sem, *]
end Go.Proofs.YtbgdngfjeikheaaDoor
