/-
  Races: the longest run: the program.
-/
import Derived.Test.YtbgdngfjeikheaaDoorRaRun
import Derived.Laws.Runes
import Derived.Laws.RangeString
import Derived.Lib.OthersKept
import Derived.LoopTactic
namespace Go.Proofs.YtbgdngfjeikheaaDoor
open Go.RowKit
set_option linter.unusedVariables false
set_option linter.unusedSimpArgs false

theorem runN_pos {q : RunS} {c : UInt8} (h : 0 ≤ q.run) : 1 ≤ runN q c := by unfold runN; split <;> omega
theorem step_up2 {q : RunS} {c : UInt8} (h : q.most < runN q c) : (stepR q c).by_ = c ∧ (stepR q c).most = runN q c ∧ (stepR q c).run = runN q c := by
  unfold stepR; rw [if_pos h]; exact ⟨rfl, rfl, rfl⟩
theorem step_same2 {q : RunS} {c : UInt8} (h : ¬ q.most < runN q c) : (stepR q c).by_ = q.by_ ∧ (stepR q c).most = q.most ∧ (stepR q c).run = runN q c := by
  unfold stepR; rw [if_neg h]; exact ⟨rfl, rfl, rfl⟩
theorem run_by (s : ByteArray) (hab : abL s.data.toList = true) : ∀ k, k ≤ s.size → ((runL (s.data.toList.take k)).most = 0 ∧ k = 0) ∨ (1 ≤ (runL (s.data.toList.take k)).most ∧ ((runL (s.data.toList.take k)).by_ = 97 ∨ (runL (s.data.toList.take k)).by_ = 98))
  | 0, _ => .inl ⟨by simp [runL], rfl⟩
  | k + 1, h => by
    have ih := run_by s hab k (by omega)
    have hb := run_bd s k (by omega)
    have hc := ab_at hab (k := k) (by omega)
    rw [run_take s k (by omega)]
    have hp := runN_pos (c := s[k]) hb.1
    right
    by_cases hu : (runL (s.data.toList.take k)).most < runN (runL (s.data.toList.take k)) s[k]
    · obtain ⟨e1, e2, -⟩ := step_up2 hu
      rw [e1, e2]; exact ⟨hp, hc⟩
    · obtain ⟨e1, e2, -⟩ := step_same2 hu
      rw [e1, e2]
      rcases ih with ⟨i1, -⟩ | i2
      · omega
      · exact i2

set_option maxRecDepth 100000 in
set_option maxHeartbeats 6400000 in
theorem implLongestRun_any (s : ByteArray) (w : World) (hs : (s.size : Int) ≤ 1000000000000) :
    Calls Tryd.prog 149 #[.string s] w fun e w' => e = .returned (.tuple #[.string (runT s), .int .i64 (runV s), .bool (runOk s)]) ∧ Below w.heap.size w w' := by
  cases h1 : ptsB s
  · rw [(run_bad (.inl h1)).1, (run_bad (.inl h1)).2.1, (run_bad (.inl h1)).2.2]
    have H1 := Lib.hid h1; clear h1
    go_enter Tryd.func149, Tryd.ntmps149
    go_wp2_with fail
    refine (arePoints_any s _ hs).mono ?_; rintro e w2 ⟨rfl, b2⟩
    rw [H1.out]
    go_wp2_with fail
    refine bodyPost_ret (v := .tuple #[.string ⟨#[]⟩, .int .i64 0, .bool false]) (by simp [results, Tryd.results149, go_sem]) rfl ⟨rfl, b2⟩
  by_cases h2 : s.size = 0
  · rw [(run_bad (.inr h2)).1, (run_bad (.inr h2)).2.1, (run_bad (.inr h2)).2.2]
    have e1 := (empty_is s).2 h2
    have e2 : (s.toList == []) = true := by rw [e1]; rfl
    have H1 := Lib.hid h1; clear h1 h2
    go_enter Tryd.func149, Tryd.ntmps149
    go_wp2_with fail
    refine (arePoints_any s _ hs).mono ?_; rintro e w2 ⟨rfl, b2⟩
    rw [H1.out]
    go_wp2_with fail
    refine bodyPost_ret (v := .tuple #[.string ⟨#[]⟩, .int .i64 0, .bool false]) (by simp [results, Tryd.results149, go_sem]) rfl ⟨rfl, b2⟩
  · have hpos : 0 < s.size := by omega
    rw [(run_ok h1 hpos).1, (run_ok h1 hpos).2.1, (run_ok h1 hpos).2.2]
    have e1 : ¬ s.toList = [] := fun h => h2 ((empty_is s).1 h)
    have e2 : (s.toList == []) = false := by simpa using e1
    have hab := (ptsB_true.1 h1).2
    have hsz := (ptsB_true.1 h1).1
    have hby := run_by s hab s.size (Nat.le_refl _)
    rw [take_all] at hby
    have hby2 : 1 ≤ (runL s.data.toList).most ∧ ((runL s.data.toList).by_ = 97 ∨ (runL s.data.toList).by_ = 98) := by
      rcases hby with ⟨_, i⟩ | i
      · omega
      · exact i
    have HAB := Lib.hid hab; clear hab hby
    have H1 := Lib.hid h1; clear h1 h2 hpos
    have HBD := Lib.hid (run_bd s)
    generalize hR : runL s.data.toList = R at *
    have HR := Lib.hid hR; clear hR
    have hbs : byS R = ⟨#[R.by_]⟩ := by unfold byS; rw [if_neg (by omega)]
    have hcv : ∀ W : World, (convert 21 9 (.int .i32 (R.by_.toNat : Int))).run Tryd.prog W = .ok (.string ⟨#[R.by_]⟩) W := by
      intro W
      rcases hby2.2 with h | h <;> rw [h] <;> kernel_rfl
    have HCV := Lib.hid (And.intro hbs hcv); clear hbs hcv hby2
    go_enter Tryd.func149, Tryd.ntmps149
    go_wp2_with fail
    refine (arePoints_any s _ hs).mono ?_; rintro e w2 ⟨rfl, b2⟩
    rw [H1.out]
    have HB2 := Lib.hid b2; clear b2
    go_wp2_with fail
    clear e1 e2
    go_loopw [5, 6, 7, 8] (fun p q r t wr => ∃ k : Nat, p = .int .i32 ((runL (s.data.toList.take k)).by_.toNat : Int) ∧ q = .int .i32 ((runL (s.data.toList.take k)).last.toNat : Int) ∧ r = .int .i64 (runL (s.data.toList.take k)).most ∧ t = .int .i64 (runL (s.data.toList.take k)).run ∧ k ≤ s.size ∧ wr = w2.iter s k) (fun _ _ _ _ wr => s.size - wr.iterPos w2.heap.size)
    case atStart => exact ⟨0, by simp [runL], by simp [runL], by simp [runL], by simp [runL], Nat.zero_le _, rfl⟩
    case round =>
      obtain ⟨k, rfl, rfl, rfl, rfl, hk, rfl⟩ := hrel
      by_cases hlt : k < s.size
      · have hbd := HBD.out k hk
        have hst := run_take s k hlt
        have hab := ab_at HAB.out hlt
        have ha : (s[k]'hlt).toNat < 128 := by rcases hab with h | h <;> rw [h] <;> decide
        have hnx := fun ty => run_next_ascii (P := Tryd.prog) w2 s k ty hlt ha
        have hqq := beq_u8 s[k] (runL (s.data.toList.take k)).last
        have hla : (stepR (runL (s.data.toList.take k)) s[k]).last = s[k] := step_last _ _
        have hkz : (k : Int) ≤ 100 := by omega
        generalize hQ : runL (List.take k s.data.toList) = q at *
        clear hQ
        by_cases hc : s[k] = q.last
        · have hrn : runN q s[k] = q.run + 1 := by unfold runN; rw [if_pos hc]
          rw [decide_eq_true hc] at hqq
          have hvc : (q.last.toNat : Int) = (s[k].toNat : Int) := by rw [hc]
          have hqn : ((s[k].toNat : Int) != (q.last.toNat : Int)) = false := by rw [bne, hqq]; rfl
          have hsu := step_up2 (q := q) (c := s[k])
          have hss := step_same2 (q := q) (c := s[k])
          rw [hrn, ← hst] at hsu hss
          rw [← hst] at hla
          clear hrn hst hab ha
          generalize q.most = m at *
          generalize q.run = r at *
          generalize (q.last.toNat : Int) = v at *
          generalize hu : s[k] = c at *
          have HVC := Lib.hid hvc; clear hvc
          generalize q.by_ = y at *
          obtain ⟨r0, r1, m0, m1⟩ := hbd
          by_cases hup : m < r + 1
          · have HU := Lib.hid (And.intro (hsu hup) (And.intro hla hc))
            clear hsu hss hla hc hu
            go_wp2_with fail
            go_roundw
            case rel => exact ⟨k + 1, by rw [HU.out.1.1], by rw [HU.out.2.1, HVC.out], by rw [HU.out.1.2.1], by rw [HU.out.1.2.2], by omega, rfl⟩
            case measure => simp; omega
          · have HU := Lib.hid (And.intro (hss hup) (And.intro hla hc))
            clear hsu hss hla hc hu
            go_wp2_with fail
            go_roundw
            case rel => exact ⟨k + 1, by rw [HU.out.1.1], by rw [HU.out.2.1, HVC.out], by rw [HU.out.1.2.1], by rw [HU.out.1.2.2], by omega, rfl⟩
            case measure => simp; omega
        · have hrn : runN q s[k] = 1 := by unfold runN; rw [if_neg hc]
          rw [decide_eq_false hc] at hqq
          have hqn : ((s[k].toNat : Int) != (q.last.toNat : Int)) = true := by rw [bne, hqq]; rfl
          have hsu := step_up2 (q := q) (c := s[k])
          have hss := step_same2 (q := q) (c := s[k])
          rw [hrn, ← hst] at hsu hss
          rw [← hst] at hla
          clear hrn hst hab ha
          generalize q.most = m at *
          generalize q.run = r at *
          generalize (q.last.toNat : Int) = v at *
          generalize hu : s[k] = c at *
          generalize q.by_ = y at *
          obtain ⟨r0, r1, m0, m1⟩ := hbd
          by_cases hup : m < 1
          · have HU := Lib.hid (And.intro (hsu hup) (And.intro hla hc))
            clear hsu hss hla hc hu
            go_wp2_with fail
            go_roundw
            case rel => exact ⟨k + 1, by rw [HU.out.1.1], by rw [HU.out.2.1], by rw [HU.out.1.2.1], by rw [HU.out.1.2.2], by omega, rfl⟩
            case measure => simp; omega
          · have HU := Lib.hid (And.intro (hss hup) (And.intro hla hc))
            clear hsu hss hla hc hu
            go_wp2_with fail
            go_roundw
            case rel => exact ⟨k + 1, by rw [HU.out.1.1], by rw [HU.out.2.1], by rw [HU.out.1.2.1], by rw [HU.out.1.2.2], by omega, rfl⟩
            case measure => simp; omega
      · obtain rfl : k = s.size := by omega
        have hnx := fun ty => run_next_end (P := Tryd.prog) w2 s s.size ty hlt
        rw [take_all, HR.out]
        have hcv := HCV.out.2
        clear hlt
        go_wp2
        refine bodyPost_ret (v := .tuple #[.string (byS R), .int .i64 R.most, .bool true]) (by simp [results, Tryd.results149, go_sem]; exact HCV.out.1.symm) rfl ⟨rfl, HB2.out.alloc HB2.out.size _⟩

end Go.Proofs.YtbgdngfjeikheaaDoor
