/-
  Leagues out of texts: a result is read: the program; two numbers: the model.
-/
import Derived.Test.YtgkkjlpfkoplhaaDoorLqWays
import Derived.Deep.RegionHeld3
namespace Go.Proofs.YtgkkjlpfkoplhaaDoor
open Go.RowKit
set_option linter.unusedVariables false
set_option linter.unusedSimpArgs false

theorem ofL_size {l : List UInt8} {n : Nat} (h : l.length ≤ n) : (⟨l.toArray⟩ : ByteArray).size ≤ n := by show l.toArray.size ≤ n; simpa using h

set_option maxHeartbeats 1600000 in
theorem readResult_any (s : ByteArray) (hs : s.size ≤ 1048576) (w : World) (hd : Door w) :
    Calls Tryd.prog 52 #[.string s] w fun e w' => e = .returned (.agg #[.int .i64 (resP s.data.toList).1, .int .i64 (resP s.data.toList).2.1, .int .i64 (resP s.data.toList).2.2.1, .int .i64 (resP s.data.toList).2.2.2]) ∧ Below w.heap.size w w' := by
  have l1 := cut_len1 s.data.toList [61]
  have l2 := cut_len2 s.data.toList [61]
  have hl : s.data.toList.length = s.size := by simp
  have B0 := Below.ofNew (w := w) (.cells #[.int .i64 0, .int .i64 0, .int .i64 0, .int .i64 0] 50)
  have P0 := ObAt.new w 50 #[.int .i64 0, .int .i64 0, .int .i64 0, .int .i64 0]
  have hd0 := hd.keep B0
  obtain ⟨mm, hm⟩ := hd0.m
  have hc := Tryd.strings_Cut s ⟨#[61]⟩ mm _ (by omega) hm
  rw [show (⟨#[61]⟩ : ByteArray).data.toList = [61] from rfl] at hc
  have e1 : (resP s.data.toList).1 = (pairP 45 (Lib.cut s.data.toList [61]).1).1 := rfl
  have e2 : (resP s.data.toList).2.1 = (pairP 45 (Lib.cut s.data.toList [61]).1).2 := rfl
  have e3 : (resP s.data.toList).2.2.1 = (pairP 58 (Lib.cut s.data.toList [61]).2.1).1 := rfl
  have e4 : (resP s.data.toList).2.2.2 = (pairP 58 (Lib.cut s.data.toList [61]).2.1).2 := rfl
  rw [e1, e2, e3, e4]
  clear e1 e2 e3 e4
  generalize (Lib.cut s.data.toList [61]).1 = X at *
  generalize (Lib.cut s.data.toList [61]).2.1 = Y at *
  generalize (Lib.cut s.data.toList [61]).2.2 = Z at *
  have rx := fun w hd => readPair_any ⟨X.toArray⟩ ⟨#[45]⟩ (ofL_size (by omega)) w hd
  have ry := fun w hd => readPair_any ⟨Y.toArray⟩ ⟨#[58]⟩ (ofL_size (by omega)) w hd
  rw [show (⟨X.toArray⟩ : ByteArray).data.toList = X from by simp, show (⟨#[45]⟩ : ByteArray).data.toList = [45] from rfl] at rx
  rw [show (⟨Y.toArray⟩ : ByteArray).data.toList = Y from by simp, show (⟨#[58]⟩ : ByteArray).data.toList = [58] from rfl] at ry
  change ∀ w, Door w → Calls _ _ _ _ (fun e w' => e = .returned (.tuple #[.int .i64 (pairP 45 X).1, .int .i64 (pairP 45 X).2]) ∧ Below w.heap.size w w') at rx
  change ∀ w, Door w → Calls _ _ _ _ (fun e w' => e = .returned (.tuple #[.int .i64 (pairP 58 Y).1, .int .i64 (pairP 58 Y).2]) ∧ Below w.heap.size w w') at ry
  generalize (pairP 45 X).1 = x1 at *
  generalize (pairP 45 X).2 = x2 at *
  generalize (pairP 58 Y).1 = x3 at *
  generalize (pairP 58 Y).2 = x4 at *
  have HX := Lib.hid rx; clear rx
  have HY := Lib.hid ry; clear ry
  have HC := Lib.hid hc; clear hc
  have HD := Lib.hid (And.intro hd0 (And.intro P0 B0)); clear hd hd0 hm l1 l2 hl P0 B0
  go_enter Tryd.func52, Tryd.ntmps52
  go_wp2_with fail
  refine HC.out.mono ?_; rintro e w1 ⟨rfl, n, rfl⟩
  have bN : Below (w.alloc (.cells #[.int .i64 0, .int .i64 0, .int .i64 0, .int .i64 0] 50)).heap.size (w.alloc (.cells #[.int .i64 0, .int .i64 0, .int .i64 0, .int .i64 0] 50)) ((w.alloc (.cells #[.int .i64 0, .int .i64 0, .int .i64 0, .int .i64 0] 50)).drewN n) := below_drewN (Below.refl _ _) _
  have HD1 := Lib.hid (And.intro (HD.out.1.keep bN) (And.intro (HD.out.2.1.keep bN) (HD.out.2.2.trans (bN.mono HD.out.2.2.size)))); clear bN HD HC
  go_wp2_with fail
  refine (HX.out _ HD1.out.1).mono ?_; rintro e w2 ⟨rfl, b2⟩
  have HD2 := Lib.hid (And.intro (HD1.out.1.keep b2) (And.intro (HD1.out.2.1.keep b2) (HD1.out.2.2.trans (b2.mono HD1.out.2.2.size)))); clear b2 HD1 HX
  go_wp2_with fail
  refine (HY.out _ HD2.out.1).mono ?_; rintro e w3 ⟨rfl, b3⟩
  have HD3 := Lib.hid (And.intro (HD2.out.2.1.keep b3) (HD2.out.2.2.trans (b3.mono HD2.out.2.2.size))); clear b3 HD2 HY
  obtain ⟨c0, c1, c2, c3, f0, f1, f2, f3⟩ := HD3.out.1.four
  have HP := Lib.hid ((((HD3.out.1.put 0 (.int .i64 x1)).put 1 (.int .i64 x2)).put 2 (.int .i64 x3)).put 3 (.int .i64 x4)).four
  have HBB : Hid (∀ u0 u1 u2 u3 : Value, Below w.heap.size w ((((w3.setCell ⟨w.heap.size, 0, none⟩ u0).setCell ⟨w.heap.size, 1, none⟩ u1).setCell ⟨w.heap.size, 2, none⟩ u2).setCell ⟨w.heap.size, 3, none⟩ u3)) := fun u0 u1 u2 u3 =>
    (((HD3.out.2.setCell (p := ⟨w.heap.size, 0, none⟩) (Nat.le_refl _) u0).setCell (p := ⟨w.heap.size, 1, none⟩) (Nat.le_refl _) u1).setCell (p := ⟨w.heap.size, 2, none⟩) (Nat.le_refl _) u2).setCell (p := ⟨w.heap.size, 3, none⟩) (Nat.le_refl _) u3
  clear HD3
  go_wp2_with fail
  obtain ⟨q0, q1, q2, q3, -, -, -, -⟩ := HP.out
  refine bodyPost_ret (v := .agg #[.int .i64 x1, .int .i64 x2, .int .i64 x3, .int .i64 x4]) (by simp [results, Tryd.results52, go_sem, q0, q1, q2, q3]) rfl ⟨rfl, HBB.out _ _ _ _⟩

/-! The model's two numbers. -/
theorem cutS_size (s : ByteArray) (b : UInt8) : ∀ n f, ∀ p ∈ cutS s b n f, p.size ≤ s.size
  | 0, f, p, hp => by
    simp only [cutS, List.mem_singleton] at hp; subst hp; rw [ByteArray.size_extract]; omega
  | n + 1, f, p, hp => by
    unfold cutS at hp
    split at hp
    · rcases List.mem_cons.1 hp with rfl | h
      · rw [ByteArray.size_extract]; omega
      · exact cutS_size s b n _ p h
    · exact cutS_size s b n _ p hp
theorem cutS_len (s : ByteArray) (b : UInt8) : ∀ n f, (cutS s b n f).length ≤ n + 1
  | 0, f => by simp [cutS]
  | n + 1, f => by
    unfold cutS
    split
    · have := cutS_len s b n (s.size - (n + 1) + 1); simp; omega
    · have := cutS_len s b n f; omega
theorem pcsL (s : ByteArray) (b : UInt8) : (cutS s b s.size 0).map (fun p => p.data.toList) = cutL b s.data.toList := by
  have h := cutS_cutL s b s.size 0 (Nat.le_refl _) (by omega) (by simp)
  rw [List.drop_zero] at h; exact h
theorem twoM_not {m : UInt8} {l : List UInt8} (h : (cutL m l).length ≠ 2) : twoM m l = (-1, -1) := by
  unfold twoM
  split
  · rename_i e; rw [e] at h; exact absurd rfl h
  · rfl
theorem two_cells {w : World} {a : Option Addr} {p q : ByteArray} (h : Reads w a (strS [p, q])) : ∃ b off, a = some ⟨b, off, none⟩ ∧ b < w.heap.size ∧ w.cell? ⟨b, off, none⟩ = some (.string p) ∧ w.cell? ⟨b, off + 1, none⟩ = some (.string q) := by
  rcases h with h | ⟨b, off, rfl, hlt, hc⟩
  · simp [strS] at h
  · exact ⟨b, off, rfl, hlt, hc 0 (by simp [strS]), hc 1 (by simp [strS])⟩

end Go.Proofs.YtgkkjlpfkoplhaaDoor
