/-
  Leagues out of texts: the model, whole.
-/
import Derived.Test.YtbgdngfjeikheaaDoorLqSpe3
namespace Go.Proofs.YtbgdngfjeikheaaDoor
open Go.RowKit
set_option linter.unusedVariables false
set_option linter.unusedSimpArgs false

theorem lgParse_any (s : ByteArray) (hz : (s.size : Int) ≤ 1048576) (w : World) :
    Calls Tryd.prog 74 #[.string s] w fun e w' => LgR (valM s.data.toList).1 (valM s.data.toList).2.1 (valM s.data.toList).2.2 (okM s.data.toList) w e w' := by
  have hsp := fun w => l1Split_any s 124 hz w
  rw [show (((124 : UInt8).toNat : Nat) : Int) = 124 from rfl] at hsp
  have hpl := cutS_len s 124 s.size 0
  have hps := fun x (hx : x ∈ cutS s 124 s.size 0) => cutS_size s 124 s.size 0 x hx
  have hpc := pcsL s 124
  have hl : s.data.toList.length = s.size := by simp
  generalize cutS s 124 s.size 0 = ps at *
  have hnot : 600 < s.size ∨ ps.length ≠ 2 → Calls Tryd.prog 74 #[.string s] w fun e w' => LgR (valM s.data.toList).1 (valM s.data.toList).2.1 (valM s.data.toList).2.2 (okM s.data.toList) w e w' := by
    intro h
    obtain ⟨e1, e2⟩ := valM_none (l := s.data.toList) (by
      rcases h with h | h
      · right; omega
      · left; exact lgM_not (by rw [← hpc, List.length_map]; exact h))
    rw [e1, e2]
    exact lgParse_not s ps.length _ (by omega) hz h (fun w => hsp w) w
  by_cases h6 : 600 < s.size
  · exact hnot (.inl h6)
  · by_cases h2 : ps.length = 2
    · clear hnot
      match ps, h2 with
      | [p, q], _ =>
        have hcut : cutL 124 s.data.toList = [p.data.toList, q.data.toList] := by rw [← hpc]; rfl
        have hm := lgM_two hcut
        have hp := hps p (by simp)
        have hq := hps q (by simp)
        have hsome : ∀ rs, rowsM q.data.toList = some rs → (goodL (twoM 119 p.data.toList).1 (twoM 119 p.data.toList).2 rs = false ∧ valM s.data.toList = (0, 0, []) ∧ okM s.data.toList = false) ∨ (goodL (twoM 119 p.data.toList).1 (twoM 119 p.data.toList).2 rs = true ∧ valM s.data.toList = ((twoM 119 p.data.toList).1, (twoM 119 p.data.toList).2, rs) ∧ okM s.data.toList = true) := by
          intro rs h
          rw [h] at hm
          exact valM_some hm (by omega)
        by_cases hq0 : q.data.toList = []
        · exact lgParse_nil s p q _ _ _ _ (by omega) hp hq0 rfl (hsome [] (by rw [hq0]; rfl)) hsp w
        · refine lgParse_rows s p q _ _ _ _ (by omega) hp hq hq0 rfl (fun h => ?_) hsome hsp w
          rw [h] at hm
          exact valM_none (.inl hm)
    · exact hnot (.inr h2)
set_option maxHeartbeats 800000 in
theorem specParseLeague_any (s : ByteArray) (hz : (s.size : Int) ≤ 1048576) (w : World) :
    Calls Tryd.prog 24 #[.string s] w fun e w' => LgR (valM s.data.toList).1 (valM s.data.toList).2.1 (valM s.data.toList).2.2 (okM s.data.toList) w e w' := by
  have HP := Lib.hid (fun W => lgParse_any s hz W)
  generalize (valM s.data.toList).1 = t at *
  generalize (valM s.data.toList).2.1 = wn at *
  generalize (valM s.data.toList).2.2 = m at *
  generalize okM s.data.toList = o at *
  have HA := Lib.hid (And.intro (ObAt.new w 42 #[.int .i64 0, .int .i64 0, .slice none 0 0]) (Below.ofNew (w := w) (.cells #[.int .i64 0, .int .i64 0, .slice none 0 0] 42)))
  go_enter Tryd.func24, Tryd.ntmps24
  go_wp2_with fail
  refine (HP.out _).mono ?_; rintro e w1 ⟨a, c, rfl, o1, b1⟩
  have HPL : Hid (ObAt w1 w.heap.size 42 #[.int .i64 0, .int .i64 0, .slice none 0 0] ∧ w1.ownsRow w.heap.size 97 4 (.slice a m.length c) m.length (ress m) ∧ Below w.heap.size w w1) := ⟨HA.out.1.keep b1, owns_base o1 HA.out.2.size, HA.out.2.trans (b1.mono HA.out.2.size)⟩
  clear b1 o1
  obtain ⟨z0, z1, z2, f0, f1, f2⟩ := HPL.out.1.three
  have HR : Hid (((((w1.setCell ⟨w.heap.size, 0, none⟩ (.int .i64 t)).setCell ⟨w.heap.size, 1, none⟩ (.int .i64 wn)).setCell ⟨w.heap.size, 2, none⟩ (.slice a m.length c)).ownsRow w.heap.size 97 4 (.slice a m.length c) m.length (ress m)) ∧ Below w.heap.size w (((w1.setCell ⟨w.heap.size, 0, none⟩ (.int .i64 t)).setCell ⟨w.heap.size, 1, none⟩ (.int .i64 wn)).setCell ⟨w.heap.size, 2, none⟩ (.slice a m.length c))) := by
    refine ⟨owns_heap HPL.out.2.1 (fun b e => ?_), ((HPL.out.2.2.setCell (p := ⟨w.heap.size, 0, none⟩) (Nat.le_refl _) _).setCell (p := ⟨w.heap.size, 1, none⟩) (Nat.le_refl _) _).setCell (p := ⟨w.heap.size, 2, none⟩) (Nat.le_refl _) _⟩
    have hne : b ≠ w.heap.size := by
      intro e2
      subst e2
      exact owns_apart (T := 42) (fr := (0, 0)) HPL.out.1 (by decide) HPL.out.2.1 e
    rw [Below.heap_setCell _ _ _ _ hne, Below.heap_setCell _ _ _ _ hne, Below.heap_setCell _ _ _ _ hne]
  have HQ := Lib.hid (((HPL.out.1.put 0 (.int .i64 t)).put 1 (.int .i64 wn)).put 2 (.slice a m.length c)).three
  go_wp2_with fail
  obtain ⟨y0, y1, y2, -, -, -⟩ := HQ.out
  refine bodyPost_ret (v := .tuple #[.agg #[.int .i64 t, .int .i64 wn, .slice a m.length c], .bool o]) ?_ rfl ⟨a, c, rfl, HR.out.1, HR.out.2⟩
  simp [results, Tryd.results24, go_sem, *]
theorem valP_len (l : List UInt8) : ((valP l).2.2.length : Int) ≤ 1000 := by
  unfold valP
  cases h : okP l
  · simp
  · rw [if_pos rfl]
    simp only [okP, Bool.and_eq_true] at h
    have := (goodL_bd h.1).2.2.2.2
    omega
end Go.Proofs.YtbgdngfjeikheaaDoor
