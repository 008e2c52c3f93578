/-
  Races: the longest run: the model.
-/
import Derived.Test.YtbgdngfjeikheaaDoorRaCnt2
namespace Go.Proofs.YtbgdngfjeikheaaDoor
open Go.RowKit
set_option linter.unusedVariables false
set_option linter.unusedSimpArgs false

/-- What is known behind some points: the last letter, who has the longest run, how long it is, and the run under way. -/
structure RunS where
  last : UInt8
  by_ : UInt8
  most : Int
  run : Int
def runN (q : RunS) (c : UInt8) : Int := if c = q.last then q.run + 1 else 1
def stepR (q : RunS) (c : UInt8) : RunS := if q.most < runN q c then ⟨c, c, runN q c, runN q c⟩ else ⟨c, q.by_, q.most, runN q c⟩
def runL (l : List UInt8) : RunS := l.foldl stepR ⟨0, 0, 0, 0⟩
theorem run_snoc (l : List UInt8) (c : UInt8) : runL (l ++ [c]) = stepR (runL l) c := by unfold runL; rw [List.foldl_append]; rfl
theorem run_take (s : ByteArray) (k : Nat) (h : k < s.size) : runL (s.data.toList.take (k + 1)) = stepR (runL (s.data.toList.take k)) s[k] := by rw [take_snoc s k h, run_snoc]
theorem step_last (q : RunS) (c : UInt8) : (stepR q c).last = c := by unfold stepR; split <;> rfl
theorem step_bd {q : RunS} {c : UInt8} {n : Int} (h : 0 ≤ q.run ∧ q.run ≤ n ∧ 0 ≤ q.most ∧ q.most ≤ n) : 0 ≤ (stepR q c).run ∧ (stepR q c).run ≤ n + 1 ∧ 0 ≤ (stepR q c).most ∧ (stepR q c).most ≤ n + 1 := by
  have : 1 ≤ runN q c ∧ runN q c ≤ n + 1 := by unfold runN; split <;> omega
  unfold stepR; split <;> simp only <;> omega
theorem run_bd (s : ByteArray) : ∀ k, k ≤ s.size → 0 ≤ (runL (s.data.toList.take k)).run ∧ (runL (s.data.toList.take k)).run ≤ k ∧ 0 ≤ (runL (s.data.toList.take k)).most ∧ (runL (s.data.toList.take k)).most ≤ k
  | 0, _ => by simp [runL]
  | k + 1, h => by
    have ih := run_bd s k (by omega)
    rw [run_take s k (by omega)]
    have := step_bd (c := s[k]) ih
    omega
theorem run_last (s : ByteArray) (k : Nat) (h : k < s.size) : (runL (s.data.toList.take (k + 1))).last = s[k] := by rw [run_take s k h, step_last]
/-- The side of the longest run, as a text: none ahead of the first point. -/
def byS (q : RunS) : ByteArray := if q.most = 0 then ⟨#[]⟩ else ⟨#[q.by_]⟩
theorem ab_at {s : ByteArray} (h : abL s.data.toList = true) {k : Nat} (hk : k < s.size) : s[k] = 97 ∨ s[k] = 98 := by
  have h2 := drop_cons s k hk
  have h3 : abL (s.data.toList.drop k) = true := by
    unfold abL at *
    rw [List.all_eq_true] at h ⊢
    exact fun x hx => h x (List.mem_of_mem_drop hx)
  rw [h2] at h3
  exact (abL_cons.1 h3).1
def runOk (s : ByteArray) : Bool := ptsB s && decide (0 < s.size)
def runT (s : ByteArray) : ByteArray := if runOk s then byS (runL s.data.toList) else ⟨#[]⟩
def runV (s : ByteArray) : Int := if runOk s then (runL s.data.toList).most else 0
theorem run_bad {s : ByteArray} (h : ptsB s = false ∨ s.size = 0) : runOk s = false ∧ runT s = ⟨#[]⟩ ∧ runV s = 0 := by
  have e : runOk s = false := by unfold runOk; rcases h with h | h <;> rw [h] <;> simp
  exact ⟨e, by unfold runT; rw [e]; rfl, by unfold runV; rw [e]; rfl⟩
theorem run_ok {s : ByteArray} (h : ptsB s = true) (h2 : 0 < s.size) : runOk s = true ∧ runT s = byS (runL s.data.toList) ∧ runV s = (runL s.data.toList).most := by
  have e : runOk s = true := by unfold runOk; rw [h]; simpa using h2
  exact ⟨e, by unfold runT; rw [e]; rfl, by unfold runV; rw [e]; rfl⟩
theorem empty_is (s : ByteArray) : s.toList = [] ↔ s.size = 0 := by
  rw [ByteArray.toList_eq, ← List.length_eq_zero_iff]; simp

theorem rindex (s : ByteArray) (k : Nat) (h : k < s.size) (w : World) : (Instr.index 9 (.string s) (.int .i64 (k : Int))).run Tryd.prog w = .ok (.int .u8 ((s[k]'h).toNat : Int)) w := by
  rw [run_index_string w _ _ _ _ Tryd.underlying9]
  simp [h]
theorem beq_u8 (c d : UInt8) : ((c.toNat : Int) == (d.toNat : Int)) = decide (c = d) := by
  rw [Bool.eq_iff_iff]; simp only [beq_iff_eq, decide_eq_true_eq]
  constructor
  · intro h; exact UInt8.toNat_inj.1 (by omega)
  · intro h; rw [h]
theorem step_up {q : RunS} {c : UInt8} (h : q.most < runN q c) (h0 : 0 ≤ q.most) : byS (stepR q c) = ⟨#[c]⟩ ∧ (stepR q c).most = runN q c ∧ (stepR q c).run = runN q c := by
  unfold stepR; rw [if_pos h]
  refine ⟨?_, rfl, rfl⟩
  unfold byS; rw [if_neg]; simp only; omega
theorem step_same {q : RunS} {c : UInt8} (h : ¬ q.most < runN q c) : byS (stepR q c) = byS q ∧ (stepR q c).most = q.most ∧ (stepR q c).run = runN q c := by
  unfold stepR; rw [if_neg h]
  exact ⟨rfl, rfl, rfl⟩

set_option maxHeartbeats 6400000 in
theorem specLongestRun_any (s : ByteArray) (w : World) (hs : (s.size : Int) ≤ 1000000000000) :
    Calls Tryd.prog 145 #[.string s] w fun e w' => e = .returned (.tuple #[.string (runT s), .int .i64 (runV s), .bool (runOk s)]) ∧ Below w.heap.size w w' := by
  cases h1 : ptsB s
  · rw [(run_bad (.inl h1)).1, (run_bad (.inl h1)).2.1, (run_bad (.inl h1)).2.2]
    have H1 := Lib.hid h1; clear h1
    go_enter Tryd.func145, Tryd.ntmps145
    go_wp2_with fail
    refine (raPoints_any s _ hs).mono ?_; rintro e w2 ⟨rfl, rfl⟩
    rw [H1.out]
    go_wp2_with fail
    refine bodyPost_ret (v := .tuple #[.string ⟨#[]⟩, .int .i64 0, .bool false]) (by simp [results, Tryd.results145, go_sem]) rfl ⟨rfl, Below.refl _ _⟩
  by_cases h2 : s.size = 0
  · rw [(run_bad (.inr h2)).1, (run_bad (.inr h2)).2.1, (run_bad (.inr h2)).2.2]
    have e1 := (empty_is s).2 h2
    have e2 : (s.toList == []) = true := by rw [e1]; rfl
    have H1 := Lib.hid h1; clear h1 h2
    go_enter Tryd.func145, Tryd.ntmps145
    go_wp2_with fail
    refine (raPoints_any s _ hs).mono ?_; rintro e w2 ⟨rfl, rfl⟩
    rw [H1.out]
    go_wp2_with fail
    refine bodyPost_ret (v := .tuple #[.string ⟨#[]⟩, .int .i64 0, .bool false]) (by simp [results, Tryd.results145, go_sem]) rfl ⟨rfl, Below.refl _ _⟩
  · have hpos : 0 < s.size := by omega
    rw [(run_ok h1 hpos).1, (run_ok h1 hpos).2.1, (run_ok h1 hpos).2.2]
    have e1 : ¬ s.toList = [] := fun h => h2 ((empty_is s).1 h)
    have e2 : (s.toList == []) = false := by simpa using e1
    have hab := (ptsB_true.1 h1).2
    have hsz := (ptsB_true.1 h1).1
    have HAB := Lib.hid hab; clear hab
    have H1 := Lib.hid h1; clear h1 h2 hpos
    have HBD := Lib.hid (run_bd s)
    generalize hR : runL s.data.toList = R
    have HR := Lib.hid hR; clear hR
    go_enter Tryd.func145, Tryd.ntmps145
    go_wp2_with fail
    refine (raPoints_any s _ hs).mono ?_; rintro e w2 ⟨rfl, rfl⟩
    rw [H1.out]
    go_wp2_with fail
    clear e1 e2
    go_loopw [5, 6, 7, 8] (fun p q r i wr => ∃ k : Nat, i = .int .i64 k ∧ p = .string (byS (runL (s.data.toList.take k))) ∧ q = .int .i64 (runL (s.data.toList.take k)).most ∧ r = .int .i64 (runL (s.data.toList.take k)).run ∧ k ≤ s.size ∧ Hid (Below w.heap.size w wr)) (fun _ _ _ i _ => s.size - (intOf i).toNat)
    case atStart => exact ⟨0, rfl, by simp [runL, byS], by simp [runL], by simp [runL], Nat.zero_le _, Lib.hid (Below.refl _ _)⟩
    case round =>
      obtain ⟨k, rfl, rfl, rfl, rfl, hk, HB⟩ := hrel
      by_cases hlt : k < s.size
      · have hlti : (k : Int) < (s.size : Int) := by omega
        have hbd := HBD.out k hk
        have hst := run_take s k hlt
        have hsl := slice_one s k hlt
        have hab := ab_at HAB.out hlt
        have hixk := rindex s k hlt
        cases k with
        | zero =>
          have hq : runL (List.take 0 s.data.toList) = ⟨0, 0, 0, 0⟩ := rfl
          rw [hq] at hst ⊢
          have hrn : runN ⟨0, 0, 0, 0⟩ s[0] = 1 := by
            unfold runN; rw [if_neg]
            intro h; rw [h] at hab; exact absurd hab (by decide)
          have hup := step_up (q := ⟨0, 0, 0, 0⟩) (c := s[0]) (by rw [hrn]; decide) (by decide)
          rw [hrn, ← hst] at hup
          have HU := Lib.hid hup
          clear hup hrn hq hst hbd hab hixk
          simp only [Int.natCast_zero, Int.zero_add, show ((0 : Nat) : Int) = 0 from rfl] at hsl
          generalize s[0] = c at *
          have hby : byS ⟨0, 0, 0, 0⟩ = ⟨#[]⟩ := rfl
          rw [hby]; clear hby
          go_wp2_with fail
          go_quiet (fail)
          go_wp2_with fail
          go_roundw
          case rel => exact ⟨1, by go_num, by rw [HU.out.1], by rw [HU.out.2.1], by rw [HU.out.2.2], by omega, Lib.hid (below_drewN HB.out _)⟩
          case measure => simp [intOf]; omega
        | succ j =>
          have hjl : j < s.size := by omega
          have hixj := rindex s j hjl
          have hlast := run_last s j hjl
          have hqq := beq_u8 s[j] s[j + 1]
          rw [Int.natCast_succ] at *
          generalize hQ : runL (List.take (j + 1) s.data.toList) = q at *
          clear hQ
          have hne0 : ((j : Int) + 1 == 0) = false := by simp; omega
          by_cases hc : s[j] = s[j + 1]
          · have hrn : runN q s[j + 1] = q.run + 1 := by unfold runN; rw [hlast, if_pos hc.symm]
            rw [decide_eq_true hc] at hqq
            have hqn : ((s[j].toNat : Int) != (s[j + 1].toNat : Int)) = false := by rw [bne, hqq]; rfl
            have hsu := step_up (q := q) (c := s[j + 1])
            have hss := step_same (q := q) (c := s[j + 1])
            rw [hrn, ← hst] at hsu hss
            clear hrn hst hc hlast hab
            generalize byS q = T at *
            generalize q.most = m at *
            generalize q.run = r at *
            generalize (s[j].toNat : Int) = u at *
            generalize (s[j + 1].toNat : Int) = v at *
            generalize s[j + 1] = c at *
            obtain ⟨r0, r1, m0, m1⟩ := hbd
            by_cases hup : m < r + 1
            · have HU := Lib.hid (hsu hup m0)
              clear hsu hss
              go_wp2_with fail
              go_quiet (fail)
              go_wp2_with fail
              go_roundw
              case rel => exact ⟨j + 1 + 1, by go_num, by rw [HU.out.1], by rw [HU.out.2.1], by rw [HU.out.2.2], by omega, Lib.hid (below_drewN HB.out _)⟩
              case measure => simp [intOf]; omega
            · have HU := Lib.hid (hss hup)
              clear hsu hss hsl
              go_wp2_with fail
              go_quiet (fail)
              go_wp2_with fail
              go_roundw
              case rel => exact ⟨j + 1 + 1, by go_num, by rw [HU.out.1], by rw [HU.out.2.1], by rw [HU.out.2.2], by omega, Lib.hid (below_drewN HB.out _)⟩
              case measure => simp [intOf]; omega
          · have hrn : runN q s[j + 1] = 1 := by unfold runN; rw [hlast, if_neg (fun h => hc h.symm)]
            rw [decide_eq_false hc] at hqq
            have hqn : ((s[j].toNat : Int) != (s[j + 1].toNat : Int)) = true := by rw [bne, hqq]; rfl
            have hsu := step_up (q := q) (c := s[j + 1])
            have hss := step_same (q := q) (c := s[j + 1])
            rw [hrn, ← hst] at hsu hss
            clear hrn hst hc hlast hab
            generalize byS q = T at *
            generalize q.most = m at *
            generalize q.run = r at *
            generalize (s[j].toNat : Int) = u at *
            generalize (s[j + 1].toNat : Int) = v at *
            generalize s[j + 1] = c at *
            obtain ⟨r0, r1, m0, m1⟩ := hbd
            by_cases hup : m < 1
            · have HU := Lib.hid (hsu hup m0)
              clear hsu hss
              go_wp2_with fail
              go_quiet (fail)
              go_wp2_with fail
              go_roundw
              case rel => exact ⟨j + 1 + 1, by go_num, by rw [HU.out.1], by rw [HU.out.2.1], by rw [HU.out.2.2], by omega, Lib.hid (below_drewN HB.out _)⟩
              case measure => simp [intOf]; omega
            · have HU := Lib.hid (hss hup)
              clear hsu hss hsl
              go_wp2_with fail
              go_quiet (fail)
              go_wp2_with fail
              go_roundw
              case rel => exact ⟨j + 1 + 1, by go_num, by rw [HU.out.1], by rw [HU.out.2.1], by rw [HU.out.2.2], by omega, Lib.hid (below_drewN HB.out _)⟩
              case measure => simp [intOf]; omega
      · obtain rfl : k = s.size := by omega
        rw [take_all, HR.out]
        go_wp2
        refine bodyPost_ret (v := .tuple #[.string (byS R), .int .i64 R.most, .bool true]) (by simp [results, Tryd.results145, go_sem]) rfl ⟨rfl, HB.out⟩

end Go.Proofs.YtbgdngfjeikheaaDoor
