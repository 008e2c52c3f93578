/-
  ParseOdds: the model at every text, and the law.
-/
import Derived.Test.YthlkndloggmehaaDoorChParT
namespace Go.Proofs.YthlkndloggmehaaDoor
open Go.RowKit
set_option linter.unusedVariables false
set_option linter.unusedSimpArgs false

set_option maxHeartbeats 1600000 in
theorem parse_notCh (s : ByteArray) (n : Nat) (xs : List Value) (hn : (n : Int) ≤ 1048577) (h : ¬ (s.size ≤ 5 ∧ n = 2)) (hsp : ∀ w : World, Calls Tryd.prog 61 #[.string s, .int .u8 47] w fun e w' => ∃ v, e = .returned v ∧ w'.ownsRow w.heap.size 9 1 v n xs ∧ Below w.heap.size w w') (w : World) :
    Calls Tryd.prog 35 #[.string s] w fun e w' => e = .returned (.tuple #[.agg #[.int .i64 0, .int .i64 0], .bool false]) ∧ Below w.heap.size w w' := by
  have HSP := Lib.hid hsp; clear hsp
  by_cases h5 : s.size ≤ 5
  · have d5 : ¬ (5 : Int) < (s.size : Int) := by omega
    have d2 : ((n : Int) != 2) = true := by simp; omega
    clear h h5
    go_enter Tryd.func35, Tryd.ntmps35
    go_wp2_with fail
    have P0 := ObAt.new w 26 #[.int .i64 0, .int .i64 0]
    have B0 := Below.ofNew (w := w) (.cells #[.int .i64 0, .int .i64 0] 26)
    refine (HSP.out _).mono ?_; rintro e w1 ⟨v, rfl, hown, hbel⟩
    have P1 := P0.keep hbel
    have B1 := Lib.hid (B0.trans (hbel.mono B0.size))
    clear hbel P0 B0
    obtain ⟨a, c, rfl, hrd, -, -, -⟩ := Reads.own hown
    clear hown hrd
    obtain ⟨y0, y1, y2, y3⟩ := P1.two
    have HQ := Lib.hid ((P1.put 0 (.int .i64 0)).put 1 (.int .i64 0)).two; clear P1
    go_wp2_with fail
    obtain ⟨q0, q1, q2, q3⟩ := HQ.out
    refine bodyPost_ret (v := .tuple #[.agg #[.int .i64 0, .int .i64 0], .bool false]) (by simp [results, Tryd.results35, go_sem, q0, q1]) rfl ⟨rfl, ?_⟩
    exact (B1.out.setCell (p := ⟨w.heap.size, 0, none⟩) (Nat.le_refl _) _).setCell (p := ⟨w.heap.size, 1, none⟩) (Nat.le_refl _) _
  · have d5 : (5 : Int) < (s.size : Int) := by omega
    clear h h5
    go_enter Tryd.func35, Tryd.ntmps35
    go_wp2_with fail
    have P0 := ObAt.new w 26 #[.int .i64 0, .int .i64 0]
    have B0 := Below.ofNew (w := w) (.cells #[.int .i64 0, .int .i64 0] 26)
    refine (HSP.out _).mono ?_; rintro e w1 ⟨v, rfl, hown, hbel⟩
    have P1 := P0.keep hbel
    have B1 := Lib.hid (B0.trans (hbel.mono B0.size))
    clear hbel P0 B0
    obtain ⟨a, c, rfl, hrd, -, -, -⟩ := Reads.own hown
    clear hown hrd
    obtain ⟨y0, y1, y2, y3⟩ := P1.two
    have HQ := Lib.hid ((P1.put 0 (.int .i64 0)).put 1 (.int .i64 0)).two; clear P1
    go_wp2_with fail
    obtain ⟨q0, q1, q2, q3⟩ := HQ.out
    refine bodyPost_ret (v := .tuple #[.agg #[.int .i64 0, .int .i64 0], .bool false]) (by simp [results, Tryd.results35, go_sem, q0, q1]) rfl ⟨rfl, ?_⟩
    exact (B1.out.setCell (p := ⟨w.heap.size, 0, none⟩) (Nat.le_refl _) _).setCell (p := ⟨w.heap.size, 1, none⟩) (Nat.le_refl _) _

set_option maxHeartbeats 1600000 in
theorem chParse_any (s : ByteArray) (hz : (s.size : Int) ≤ 1048576) (w : World) :
    Calls Tryd.prog 35 #[.string s] w fun e w' => e = .returned (.tuple #[.agg #[.int .i64 (valSCh s).1, .int .i64 (valSCh s).2], .bool (okSCh s)]) ∧ Below w.heap.size w w' := by
  have hv : valSCh s = if okSCh s then (rdS s 47 0, rdS s 47 1) else (0, 0) := rfl
  have hok : okSCh s = ((decide (s.size ≤ 5) && decide ((pieces s 47).length = 2)) && goodO (rdS s 47 0) (rdS s 47 1)) := rfl
  have hsp := fun w => l1Split_any s 47 hz w
  rw [show (((47 : UInt8).toNat : Nat) : Int) = 47 from rfl] at hsp
  have hps := fun p (hp : p ∈ pieces s 47) => cut_size s 47 s.size 0 p hp
  have hpl := cut_len s 47 s.size 0
  change ∀ w : World, Calls _ _ _ _ (fun e w' => ∃ v, e = .returned v ∧ w'.ownsRow w.heap.size _ 1 v (pieces s 47).length (strS (pieces s 47)) ∧ _) at hsp
  change (pieces s 47).length ≤ s.size + 1 at hpl
  have r0 : rdS s 47 0 = readL ((pieces s 47).getD 0 ⟨#[]⟩).data.toList := rfl
  have r1 : rdS s 47 1 = readL ((pieces s 47).getD 1 ⟨#[]⟩).data.toList := rfl
  rw [hv]; clear hv
  generalize rdS s 47 0 = x at *
  generalize rdS s 47 1 = y at *
  generalize okSCh s = o at *
  generalize pieces s 47 = ps at *
  by_cases h : s.size ≤ 5 ∧ ps.length = 2
  · match ps, h with
    | [p, q], h =>
      rw [decide_eq_true h.1, show decide ([p, q].length = 2) = true from rfl, Bool.true_and, Bool.true_and] at hok
      have := parse_twoCh s p q x y h.1 (hps p (by simp)) (hps q (by simp)) r0.symm r1.symm hsp o hok.symm w
      cases o <;> exact this
  · have ho : o = false := by
      rw [hok]
      by_cases h5 : s.size ≤ 5
      · rw [decide_eq_false (show ¬ ps.length = 2 from fun e => h ⟨h5, e⟩)]; simp
      · rw [decide_eq_false h5]; simp
    subst ho
    exact parse_notCh s ps.length _ (by omega) h hsp w

set_option maxHeartbeats 800000 in
theorem specParseOdds_any (s : ByteArray) (hz : (s.size : Int) ≤ 1048576) (w : World) :
    Calls Tryd.prog 13 #[.string s] w fun e w' => e = .returned (.tuple #[.agg #[.int .i64 (valPCh s.data.toList).1, .int .i64 (valPCh s.data.toList).2], .bool (okPCh s.data.toList)]) ∧ Below w.heap.size w w' := by
  have hp := fun w => chParse_any s hz w
  rw [(ways_ch s).1, (ways_ch s).2] at hp
  generalize valPCh s.data.toList = v at *
  generalize okPCh s.data.toList = o at *
  obtain ⟨x, y⟩ := v
  have HP := Lib.hid hp; clear hp
  go_enter Tryd.func13, Tryd.ntmps13
  go_wp2_with fail
  have P0 := ObAt.new w 26 #[.int .i64 0, .int .i64 0]
  have B0 := Below.ofNew (w := w) (.cells #[.int .i64 0, .int .i64 0] 26)
  refine (HP.out _).mono ?_; rintro e w1 ⟨rfl, hbel⟩
  have P1 := P0.keep hbel
  have B1 := Lib.hid (B0.trans (hbel.mono B0.size))
  clear hbel P0 B0
  obtain ⟨y0, y1, y2, y3⟩ := P1.two
  have HQ := Lib.hid ((P1.put 0 (.int .i64 x)).put 1 (.int .i64 y)).two; clear P1
  go_wp2_with fail
  obtain ⟨q0, q1, q2, q3⟩ := HQ.out
  refine bodyPost_ret (v := .tuple #[.agg #[.int .i64 x, .int .i64 y], .bool o]) (by simp [results, Tryd.results13, go_sem, q0, q1]) rfl ⟨rfl, ?_⟩
  exact (B1.out.setCell (p := ⟨w.heap.size, 0, none⟩) (Nat.le_refl _) _).setCell (p := ⟨w.heap.size, 1, none⟩) (Nat.le_refl _) _

end Go.Proofs.YthlkndloggmehaaDoor
