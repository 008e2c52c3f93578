/-
  ParseRace: the model at every text, and the law.
-/
import Derived.Test.YthlkndloggmehaaDoorRaParT
namespace Go.Proofs.YthlkndloggmehaaDoor
open Go.RowKit
set_option linter.unusedVariables false
set_option linter.unusedSimpArgs false

set_option maxHeartbeats 1600000 in
theorem parse_notRa (s : ByteArray) (n : Nat) (xs : List Value) (hn : (n : Int) ≤ 1048577) (h : ¬ (s.size ≤ 4 ∧ n = 2)) (hsp : ∀ w : World, Calls Tryd.prog 61 #[.string s, .int .u8 43] w fun e w' => ∃ v, e = .returned v ∧ w'.ownsRow w.heap.size 9 1 v n xs ∧ Below w.heap.size w w') (w : World) :
    Calls Tryd.prog 53 #[.string s] w fun e w' => e = .returned (.tuple #[.agg #[.int .i64 0, .int .i64 0], .bool false]) ∧ Below w.heap.size w w' := by
  have HSP := Lib.hid hsp; clear hsp
  by_cases h5 : s.size ≤ 4
  · have d5 : ¬ (4 : Int) < (s.size : Int) := by omega
    have d2 : ((n : Int) != 2) = true := by simp; omega
    clear h h5
    go_enter Tryd.func53, Tryd.ntmps53
    go_wp2_with fail
    have P0 := ObAt.new w 37 #[.int .i64 0, .int .i64 0]
    have B0 := Below.ofNew (w := w) (.cells #[.int .i64 0, .int .i64 0] 37)
    refine (HSP.out _).mono ?_; rintro e w1 ⟨v, rfl, hown, hbel⟩
    have P1 := P0.keep hbel
    have B1 := Lib.hid (B0.trans (hbel.mono B0.size))
    clear hbel P0 B0
    obtain ⟨a, c, rfl, hrd, -, -, -⟩ := Reads.own hown
    clear hown hrd
    obtain ⟨y0, y1, y2, y3⟩ := P1.two
    have HQ := Lib.hid ((P1.put 0 (.int .i64 0)).put 1 (.int .i64 0)).two; clear P1
    go_wp2_with fail
    obtain ⟨q0, q1, q2, q3⟩ := HQ.out
    refine bodyPost_ret (v := .tuple #[.agg #[.int .i64 0, .int .i64 0], .bool false]) (by simp [results, Tryd.results53, go_sem, q0, q1]) rfl ⟨rfl, ?_⟩
    exact (B1.out.setCell (p := ⟨w.heap.size, 0, none⟩) (Nat.le_refl _) _).setCell (p := ⟨w.heap.size, 1, none⟩) (Nat.le_refl _) _
  · have d5 : (4 : Int) < (s.size : Int) := by omega
    clear h h5
    go_enter Tryd.func53, Tryd.ntmps53
    go_wp2_with fail
    have P0 := ObAt.new w 37 #[.int .i64 0, .int .i64 0]
    have B0 := Below.ofNew (w := w) (.cells #[.int .i64 0, .int .i64 0] 37)
    refine (HSP.out _).mono ?_; rintro e w1 ⟨v, rfl, hown, hbel⟩
    have P1 := P0.keep hbel
    have B1 := Lib.hid (B0.trans (hbel.mono B0.size))
    clear hbel P0 B0
    obtain ⟨a, c, rfl, hrd, -, -, -⟩ := Reads.own hown
    clear hown hrd
    obtain ⟨y0, y1, y2, y3⟩ := P1.two
    have HQ := Lib.hid ((P1.put 0 (.int .i64 0)).put 1 (.int .i64 0)).two; clear P1
    go_wp2_with fail
    obtain ⟨q0, q1, q2, q3⟩ := HQ.out
    refine bodyPost_ret (v := .tuple #[.agg #[.int .i64 0, .int .i64 0], .bool false]) (by simp [results, Tryd.results53, go_sem, q0, q1]) rfl ⟨rfl, ?_⟩
    exact (B1.out.setCell (p := ⟨w.heap.size, 0, none⟩) (Nat.le_refl _) _).setCell (p := ⟨w.heap.size, 1, none⟩) (Nat.le_refl _) _

set_option maxHeartbeats 1600000 in
theorem raParse_any (s : ByteArray) (hz : (s.size : Int) ≤ 1048576) (w : World) :
    Calls Tryd.prog 53 #[.string s] w fun e w' => (∃ u v : Int, e = .returned (.tuple #[.agg #[.int .i64 u, .int .i64 v], .bool (okSRa s)]) ∧ (okSRa s = true → (u, v) = valSRa s)) ∧ Below w.heap.size w w' := by
  have hv : valSRa s = if okSRa s then (rdS s 43 0, rdS s 43 1) else (0, 0) := rfl
  have hok : okSRa s = ((decide (s.size ≤ 4) && decide ((pieces s 43).length = 2)) && (goodR (rdS s 43 0) (rdS s 43 1) && decide (textRa (rdS s 43 0).toNat (rdS s 43 1).toNat = s.data.toList))) := rfl
  have hsp := fun w => l1Split_any s 43 hz w
  rw [show (((43 : UInt8).toNat : Nat) : Int) = 43 from rfl] at hsp
  have hps := fun p (hp : p ∈ pieces s 43) => cut_size s 43 s.size 0 p hp
  have hpl := cut_len s 43 s.size 0
  change ∀ w : World, Calls _ _ _ _ (fun e w' => ∃ v, e = .returned v ∧ w'.ownsRow w.heap.size _ 1 v (pieces s 43).length (strS (pieces s 43)) ∧ _) at hsp
  change (pieces s 43).length ≤ s.size + 1 at hpl
  have r0 : rdS s 43 0 = readL ((pieces s 43).getD 0 ⟨#[]⟩).data.toList := rfl
  have r1 : rdS s 43 1 = readL ((pieces s 43).getD 1 ⟨#[]⟩).data.toList := rfl
  rw [hv]; clear hv
  generalize rdS s 43 0 = x at *
  generalize rdS s 43 1 = y at *
  generalize okSRa s = o at *
  generalize pieces s 43 = ps at *
  by_cases h : s.size ≤ 4 ∧ ps.length = 2
  · match ps, h with
    | [p, q], h =>
      rw [decide_eq_true h.1, show decide ([p, q].length = 2) = true from rfl, Bool.true_and, Bool.true_and] at hok
      refine (parse_twoRa s p q x y h.1 (hps p (by simp)) (hps q (by simp)) r0.symm r1.symm hsp o hok.symm w).mono ?_
      rintro e w2 ⟨rfl, b2⟩
      exact ⟨⟨x, y, rfl, fun ho => by rw [if_pos ho]⟩, b2⟩
  · have ho : o = false := by
      rw [hok]
      by_cases h5 : s.size ≤ 4
      · rw [decide_eq_false (show ¬ ps.length = 2 from fun e => h ⟨h5, e⟩)]; simp
      · rw [decide_eq_false h5]; simp
    subst ho
    refine (parse_notRa s ps.length _ (by omega) h hsp w).mono ?_
    rintro e w2 ⟨rfl, b2⟩
    exact ⟨⟨0, 0, rfl, fun h => by cases h⟩, b2⟩

set_option maxHeartbeats 1600000 in
theorem specParseRace_any (s : ByteArray) (hz : (s.size : Int) ≤ 1048576) (w : World) :
    Calls Tryd.prog 26 #[.string s] w fun e w' => e = .returned (.tuple #[.agg #[.int .i64 (valPRa s.data.toList).1, .int .i64 (valPRa s.data.toList).2], .bool (okPRa s.data.toList)]) ∧ Below w.heap.size w w' := by
  have hp := fun w => raParse_any s hz w
  have hv : okPRa s.data.toList = false → valPRa s.data.toList = (0, 0) := fun h => by unfold valPRa; rw [h]; rfl
  rw [(ways_ra s).1, (ways_ra s).2] at hp
  generalize valPRa s.data.toList = v at *
  obtain ⟨x, y⟩ := v
  have HP := Lib.hid hp; clear hp
  cases ho : okPRa s.data.toList
  · obtain ⟨rfl, rfl⟩ : x = 0 ∧ y = 0 := by have := hv ho; simpa using this
    rw [ho] at HP
    clear hv ho
    go_enter Tryd.func26, Tryd.ntmps26
    go_wp2_with fail
    have P0 := ObAt.new w 37 #[.int .i64 0, .int .i64 0]
    have B0 := Below.ofNew (w := w) (.cells #[.int .i64 0, .int .i64 0] 37)
    refine (HP.out _).mono ?_; rintro e w1 ⟨⟨u, v, rfl, -⟩, hbel⟩
    have P1 := P0.keep hbel
    have B1 := B0.trans (hbel.mono B0.size)
    clear hbel P0 B0
    have P2 := P1.old (.cells #[.int .i64 u, .int .i64 v] 37)
    have B2 := Lib.hid (B1.alloc B1.size (.cells #[.int .i64 u, .int .i64 v] 37))
    obtain ⟨y0, y1, y2, y3⟩ := P2.two
    have HQ := Lib.hid ((P2.put 0 (.int .i64 0)).put 1 (.int .i64 0)).two; clear P1 P2 B1
    go_wp2_with fail
    obtain ⟨q0, q1, q2, q3⟩ := HQ.out
    refine bodyPost_ret (v := .tuple #[.agg #[.int .i64 0, .int .i64 0], .bool false]) (by simp [results, Tryd.results26, go_sem, q0, q1]) rfl ⟨rfl, ?_⟩
    exact (B2.out.setCell (p := ⟨w.heap.size, 0, none⟩) (Nat.le_refl _) _).setCell (p := ⟨w.heap.size, 1, none⟩) (Nat.le_refl _) _
  · rw [ho] at HP
    clear hv ho
    go_enter Tryd.func26, Tryd.ntmps26
    go_wp2_with fail
    have P0 := ObAt.new w 37 #[.int .i64 0, .int .i64 0]
    have B0 := Below.ofNew (w := w) (.cells #[.int .i64 0, .int .i64 0] 37)
    refine (HP.out _).mono ?_; rintro e w1 ⟨⟨u, v, rfl, huv⟩, hbel⟩
    have huv2 := huv (by trivial)
    injection huv2 with e1 e2
    subst e1 e2
    clear huv
    have P1 := P0.keep hbel
    have B1 := B0.trans (hbel.mono B0.size)
    clear hbel P0 B0
    have P2 := P1.old (.cells #[.int .i64 u, .int .i64 v] 37)
    have P3 := ObAt.new w1 37 #[.int .i64 u, .int .i64 v]
    have B2 := Lib.hid (B1.alloc B1.size (.cells #[.int .i64 u, .int .i64 v] 37))
    obtain ⟨y0, y1, y2, y3⟩ := P2.two
    obtain ⟨z0, z1, z2, z3⟩ := P3.two
    have HQ := Lib.hid ((P2.put 0 (.int .i64 u)).put 1 (.int .i64 v)).two; clear P1 P2 P3 B1
    go_wp2_with fail
    obtain ⟨q0, q1, q2, q3⟩ := HQ.out
    refine bodyPost_ret (v := .tuple #[.agg #[.int .i64 u, .int .i64 v], .bool true]) (by simp [results, Tryd.results26, go_sem, q0, q1]) rfl ⟨rfl, ?_⟩
    exact (B2.out.setCell (p := ⟨w.heap.size, 0, none⟩) (Nat.le_refl _) _).setCell (p := ⟨w.heap.size, 1, none⟩) (Nat.le_refl _) _

end Go.Proofs.YthlkndloggmehaaDoor
