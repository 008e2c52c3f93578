/-
  The first desk: the program's and the model's; what the law asks of desks.
-/
import Derived.Test.YtgkkjlpfkoplhaaDoorLqImp2
namespace Go.Proofs.YtgkkjlpfkoplhaaDoor
open Go.RowKit
set_option linter.unusedVariables false
set_option linter.unusedSimpArgs false

def rs0 : List Rs := [(0, 1, 2, 1), (1, 2, 0, 0), (2, 0, 1, 0), (0, 2, 3, 1)]
theorem lit_val : okP (⟨#[51, 119, 51, 124, 48, 45, 49, 61, 50, 58, 49, 44, 49, 45, 50, 61, 48, 58, 48, 44, 50, 45, 48, 61, 49, 58, 48, 44, 48, 45, 50, 61, 51, 58, 49]⟩ : ByteArray).data.toList = true ∧ valP (⟨#[51, 119, 51, 124, 48, 45, 49, 61, 50, 58, 49, 44, 49, 45, 50, 61, 48, 58, 48, 44, 50, 45, 48, 61, 49, 58, 48, 44, 48, 45, 50, 61, 51, 58, 49]⟩ : ByteArray).data.toList = (3, 3, rs0) := by
  have h1 : textL 3 3 rs0 = (⟨#[51, 119, 51, 124, 48, 45, 49, 61, 50, 58, 49, 44, 49, 45, 50, 61, 48, 58, 48, 44, 50, 45, 48, 61, 49, 58, 48, 44, 48, 45, 50, 61, 51, 58, 49]⟩ : ByteArray).data.toList := by decide +kernel
  have hg : goodL 3 3 rs0 = true := by decide +kernel
  have hb := (both_lg hg).1
  rw [h1] at hb
  have hk : okP (⟨#[51, 119, 51, 124, 48, 45, 49, 61, 50, 58, 49, 44, 49, 45, 50, 61, 48, 58, 48, 44, 50, 45, 48, 61, 49, 58, 48, 44, 48, 45, 50, 61, 51, 58, 49]⟩ : ByteArray).data.toList = true := by
    unfold okP; rw [hb]; simp only [hg, Bool.true_and]; rw [h1]; simp
  exact ⟨hk, by unfold valP; rw [hk, hb]; rfl⟩
/-- A first desk that is handed back, its results the call's own. -/
def DkR (w : World) (e : Ending) (w' : World) : Prop :=
  ∃ a c, e = .returned (.agg #[.int .i64 170, .string ⟨#[]⟩, .int .i64 2, .slice none 0 0, .int .i64 3, .int .i64 3, .slice a 4 c]) ∧ w'.ownsRow w.heap.size 50 4 (.slice a 4 c) 4 (ress rs0) ∧ Below w.heap.size w w'
theorem dk_put {w wi : World} {g B : Nat} (h1 : ObAt wi g 36 #[.int .i64 0, .string ⟨#[]⟩, .int .i64 0, .slice none 0 0, .int .i64 0, .int .i64 0, .slice none 0 0]) {v : Value} (ho : wi.ownsRow B 50 4 v 4 (ress rs0)) (hb : Below w.heap.size w wi) (hg : w.heap.size ≤ g) (u0 u1 u2 u3 u4 u5 u6 : Value) :
    ((((((((wi.setCell ⟨g, 0, none⟩ u0).setCell ⟨g, 1, none⟩ u1).setCell ⟨g, 2, none⟩ u2).setCell ⟨g, 3, none⟩ u3).setCell ⟨g, 4, none⟩ u4).setCell ⟨g, 5, none⟩ u5).setCell ⟨g, 6, none⟩ u6)).ownsRow B 50 4 v 4 (ress rs0) ∧ Below w.heap.size w ((((((((wi.setCell ⟨g, 0, none⟩ u0).setCell ⟨g, 1, none⟩ u1).setCell ⟨g, 2, none⟩ u2).setCell ⟨g, 3, none⟩ u3).setCell ⟨g, 4, none⟩ u4).setCell ⟨g, 5, none⟩ u5).setCell ⟨g, 6, none⟩ u6)) ∧ ObAt ((((((((wi.setCell ⟨g, 0, none⟩ u0).setCell ⟨g, 1, none⟩ u1).setCell ⟨g, 2, none⟩ u2).setCell ⟨g, 3, none⟩ u3).setCell ⟨g, 4, none⟩ u4).setCell ⟨g, 5, none⟩ u5).setCell ⟨g, 6, none⟩ u6)) g 36 #[u0, u1, u2, u3, u4, u5, u6] := by
  have k0 := hb.setCell (p := ⟨g, 0, none⟩) hg u0
  have k1 := k0.setCell (p := ⟨g, 1, none⟩) hg u1
  have k2 := k1.setCell (p := ⟨g, 2, none⟩) hg u2
  have k3 := k2.setCell (p := ⟨g, 3, none⟩) hg u3
  have k4 := k3.setCell (p := ⟨g, 4, none⟩) hg u4
  have k5 := k4.setCell (p := ⟨g, 5, none⟩) hg u5
  have k6 := k5.setCell (p := ⟨g, 6, none⟩) hg u6
  refine ⟨owns_heap ho (fun b e => ?_), k6, ?_⟩
  · have hne : b ≠ g := by
      intro e2
      subst e2
      exact owns_apart (T := 36) (fr := (0, 0)) h1 (by decide) ho e
    rw [Below.heap_setCell _ _ _ _ hne, Below.heap_setCell _ _ _ _ hne, Below.heap_setCell _ _ _ _ hne, Below.heap_setCell _ _ _ _ hne, Below.heap_setCell _ _ _ _ hne, Below.heap_setCell _ _ _ _ hne, Below.heap_setCell _ _ _ _ hne]
  · have h2 := ((((((h1.put 0 u0).put 1 u1).put 2 u2).put 3 u3).put 4 u4).put 5 u5).put 6 u6
    exact h2

set_option maxHeartbeats 3200000 in
set_option maxRecDepth 100000 in
theorem implFirstDesk_any (w : World) (hd : Door w) : Calls Tryd.prog 15 #[] w fun e w' => DkR w e w' := by
  have hp := fun W h => implParseLeague_any ⟨#[51, 119, 51, 124, 48, 45, 49, 61, 50, 58, 49, 44, 49, 45, 50, 61, 48, 58, 48, 44, 50, 45, 48, 61, 49, 58, 48, 44, 48, 45, 50, 61, 51, 58, 49]⟩ (by decide) W h
  rw [lit_val.1, lit_val.2] at hp
  have HP := Lib.hid hp; clear hp
  have B0 := Below.ofNew (w := w) (.cells #[.int .i64 0, .string ⟨#[]⟩, .int .i64 0, .slice none 0 0, .int .i64 0, .int .i64 0, .slice none 0 0] 36)
  have HD := Lib.hid (hd.keep B0); clear hd
  have HB0 := Lib.hid (And.intro B0 (ObAt.new w 36 #[.int .i64 0, .string ⟨#[]⟩, .int .i64 0, .slice none 0 0, .int .i64 0, .int .i64 0, .slice none 0 0])); clear B0
  go_enter Tryd.func15, Tryd.ntmps15
  go_wp2_with fail
  refine (HP.out _ HD.out).mono ?_; rintro e w1 ⟨a, c, rfl, o1, b1⟩
  rw [show rs0.length = 4 from rfl] at o1 ⊢
  have bn := Below.ofNew (w := w1) (.cells #[.int .i64 3, .int .i64 3, .slice a 4 c] 34)
  have hob := (HB0.out.2.keep b1).keep bn
  have hb1 := HB0.out.1.trans (b1.mono HB0.out.1.size)
  have hbb := hb1.trans (bn.mono hb1.size)
  have hol := ObAt.new w1 34 #[.int .i64 3, .int .i64 3, .slice a 4 c]
  have how := owns_base (owns_below o1 bn) HB0.out.1.size
  have H1 := Lib.hid (And.intro hob (And.intro hbb (And.intro hol how))); clear hob hbb hol how hb1 bn b1 o1 HB0
  go_upto_region 2 with fail
  generalize w1.alloc (.cells #[.int .i64 3, .int .i64 3, .slice a 4 c] 34) = w4 at *
  generalize w1.heap.size = g4 at *
  clear HP HD
  obtain ⟨p0, p1, p2, -, -, -⟩ := H1.out.2.2.1.three
  have q0 := H1.out.1.cell 0
  have q1 := H1.out.1.cell 1
  have q2 := H1.out.1.cell 2
  have q3 := H1.out.1.cell 3
  have q4 := H1.out.1.cell 4
  have q5 := H1.out.1.cell 5
  have q6 := H1.out.1.cell 6
  have f0 := H1.out.1.free 0
  have f1 := H1.out.1.free 1
  have f2 := H1.out.1.free 2
  have f3 := H1.out.1.free 3
  have f4 := H1.out.1.free 4
  have f5 := H1.out.1.free 5
  have f6 := H1.out.1.free 6
  have HR := Lib.hid (dk_put H1.out.1 H1.out.2.2.2 H1.out.2.1 (Nat.le_refl _) (.int .i64 170) (.string ⟨#[]⟩) (.int .i64 2) (.slice none 0 0) (.int .i64 3) (.int .i64 3) (.slice a 4 c))
  go_wp2_with fail
  clear q0 q1 q2 q3 q4 q5 q6 f0 f1 f2 f3 f4 f5 f6
  generalize (((((((w4.setCell ⟨w.heap.size, 0, none⟩ (.int .i64 170)).setCell ⟨w.heap.size, 1, none⟩ (.string ⟨#[]⟩)).setCell ⟨w.heap.size, 2, none⟩ (.int .i64 2)).setCell ⟨w.heap.size, 3, none⟩ (.slice none 0 0)).setCell ⟨w.heap.size, 4, none⟩ (.int .i64 3)).setCell ⟨w.heap.size, 5, none⟩ (.int .i64 3)).setCell ⟨w.heap.size, 6, none⟩ (.slice a 4 c)) = W7 at *
  have r0 : W7.cell? ⟨w.heap.size, 0, none⟩ = some (.int .i64 170) := HR.out.2.2.cell 0
  have r1 : W7.cell? ⟨w.heap.size, 1, none⟩ = some (.string ⟨#[]⟩) := HR.out.2.2.cell 1
  have r2 : W7.cell? ⟨w.heap.size, 2, none⟩ = some (.int .i64 2) := HR.out.2.2.cell 2
  have r3 : W7.cell? ⟨w.heap.size, 3, none⟩ = some (.slice none 0 0) := HR.out.2.2.cell 3
  have r4 : W7.cell? ⟨w.heap.size, 4, none⟩ = some (.int .i64 3) := HR.out.2.2.cell 4
  have r5 : W7.cell? ⟨w.heap.size, 5, none⟩ = some (.int .i64 3) := HR.out.2.2.cell 5
  have r6 : W7.cell? ⟨w.heap.size, 6, none⟩ = some (.slice a 4 c) := HR.out.2.2.cell 6
  refine bodyPost_ret (v := .agg #[.int .i64 170, .string ⟨#[]⟩, .int .i64 2, .slice none 0 0, .int .i64 3, .int .i64 3, .slice a 4 c]) ?_ rfl (show DkR w _ _ from ⟨a, c, rfl, HR.out.1, HR.out.2.1⟩)
  simp [results, Tryd.results15, go_sem, r0, r1, r2, r3, r4, r5, r6]

set_option maxHeartbeats 3200000 in
set_option maxRecDepth 100000 in
theorem specFirstDesk_any (w : World) : Calls Tryd.prog 14 #[] w fun e w' => DkR w e w' := by
  have B0 := Below.ofNew (w := w) (.cells #[.int .i64 0, .string ⟨#[]⟩, .int .i64 0, .slice none 0 0, .int .i64 0, .int .i64 0, .slice none 0 0] 36)
  have P0 := ObAt.new w 36 #[.int .i64 0, .string ⟨#[]⟩, .int .i64 0, .slice none 0 0, .int .i64 0, .int .i64 0, .slice none 0 0]
  have B1 := Below.ofNew (w := w.alloc (.cells #[.int .i64 0, .string ⟨#[]⟩, .int .i64 0, .slice none 0 0, .int .i64 0, .int .i64 0, .slice none 0 0] 36)) (.cells #[.int .i64 0, .int .i64 1, .int .i64 2, .int .i64 1, .int .i64 1, .int .i64 2, .int .i64 0, .int .i64 0, .int .i64 2, .int .i64 0, .int .i64 1, .int .i64 0, .int .i64 0, .int .i64 2, .int .i64 3, .int .i64 1] 50)
  have o1 : ((w.alloc (.cells #[.int .i64 0, .string ⟨#[]⟩, .int .i64 0, .slice none 0 0, .int .i64 0, .int .i64 0, .slice none 0 0] 36)).alloc (.cells #[.int .i64 0, .int .i64 1, .int .i64 2, .int .i64 1, .int .i64 1, .int .i64 2, .int .i64 0, .int .i64 0, .int .i64 2, .int .i64 0, .int .i64 1, .int .i64 0, .int .i64 0, .int .i64 2, .int .i64 3, .int .i64 1] 50)).ownsRow w.heap.size 50 4 (.slice (some ⟨w.heap.size + 1, 0, none⟩) 4 4) 4 (ress rs0) := by
    refine ⟨rfl, .inr ⟨w.heap.size + 1, 4, #[.int .i64 0, .int .i64 1, .int .i64 2, .int .i64 1, .int .i64 1, .int .i64 2, .int .i64 0, .int .i64 0, .int .i64 2, .int .i64 0, .int .i64 1, .int .i64 0, .int .i64 0, .int .i64 2, .int .i64 3, .int .i64 1], rfl, by omega, ?_, by omega, by unfold maxLen; omega, rfl, rfl⟩⟩
    have := heap_alloc_last (w.alloc (.cells #[.int .i64 0, .string ⟨#[]⟩, .int .i64 0, .slice none 0 0, .int .i64 0, .int .i64 0, .slice none 0 0] 36)) (.cells #[.int .i64 0, .int .i64 1, .int .i64 2, .int .i64 1, .int .i64 1, .int .i64 2, .int .i64 0, .int .i64 0, .int .i64 2, .int .i64 0, .int .i64 1, .int .i64 0, .int .i64 0, .int .i64 2, .int .i64 3, .int .i64 1] 50)
    simpa using this
  have H1 := Lib.hid (And.intro (P0.keep B1) (And.intro (B0.trans (B1.mono B0.size)) o1)); clear B0 P0 B1 o1
  go_enter Tryd.func14, Tryd.ntmps14
  go_upto_region 2 with fail
  generalize (w.alloc (.cells #[.int .i64 0, .string ⟨#[]⟩, .int .i64 0, .slice none 0 0, .int .i64 0, .int .i64 0, .slice none 0 0] 36)).alloc (.cells #[.int .i64 0, .int .i64 1, .int .i64 2, .int .i64 1, .int .i64 1, .int .i64 2, .int .i64 0, .int .i64 0, .int .i64 2, .int .i64 0, .int .i64 1, .int .i64 0, .int .i64 0, .int .i64 2, .int .i64 3, .int .i64 1] 50) = w4 at *
  have q0 := H1.out.1.cell 0
  have q1 := H1.out.1.cell 1
  have q2 := H1.out.1.cell 2
  have q3 := H1.out.1.cell 3
  have q4 := H1.out.1.cell 4
  have q5 := H1.out.1.cell 5
  have q6 := H1.out.1.cell 6
  have f0 := H1.out.1.free 0
  have f1 := H1.out.1.free 1
  have f2 := H1.out.1.free 2
  have f3 := H1.out.1.free 3
  have f4 := H1.out.1.free 4
  have f5 := H1.out.1.free 5
  have f6 := H1.out.1.free 6
  have HR := Lib.hid (dk_put H1.out.1 H1.out.2.2 H1.out.2.1 (Nat.le_refl _) (.int .i64 170) (.string ⟨#[]⟩) (.int .i64 2) (.slice none 0 0) (.int .i64 3) (.int .i64 3) (.slice (some ⟨w.heap.size + 1, 0, none⟩) 4 4))
  go_wp2_with fail
  clear q0 q1 q2 q3 q4 q5 q6 f0 f1 f2 f3 f4 f5 f6
  generalize (((((((w4.setCell ⟨w.heap.size, 0, none⟩ (.int .i64 170)).setCell ⟨w.heap.size, 1, none⟩ (.string ⟨#[]⟩)).setCell ⟨w.heap.size, 2, none⟩ (.int .i64 2)).setCell ⟨w.heap.size, 3, none⟩ (.slice none 0 0)).setCell ⟨w.heap.size, 4, none⟩ (.int .i64 3)).setCell ⟨w.heap.size, 5, none⟩ (.int .i64 3)).setCell ⟨w.heap.size, 6, none⟩ (.slice (some ⟨w.heap.size + 1, 0, none⟩) 4 4)) = W7 at *
  have r0 : W7.cell? ⟨w.heap.size, 0, none⟩ = some (.int .i64 170) := HR.out.2.2.cell 0
  have r1 : W7.cell? ⟨w.heap.size, 1, none⟩ = some (.string ⟨#[]⟩) := HR.out.2.2.cell 1
  have r2 : W7.cell? ⟨w.heap.size, 2, none⟩ = some (.int .i64 2) := HR.out.2.2.cell 2
  have r3 : W7.cell? ⟨w.heap.size, 3, none⟩ = some (.slice none 0 0) := HR.out.2.2.cell 3
  have r4 : W7.cell? ⟨w.heap.size, 4, none⟩ = some (.int .i64 3) := HR.out.2.2.cell 4
  have r5 : W7.cell? ⟨w.heap.size, 5, none⟩ = some (.int .i64 3) := HR.out.2.2.cell 5
  have r6 : W7.cell? ⟨w.heap.size, 6, none⟩ = some (.slice (some ⟨w.heap.size + 1, 0, none⟩) 4 4) := HR.out.2.2.cell 6
  refine bodyPost_ret (v := .agg #[.int .i64 170, .string ⟨#[]⟩, .int .i64 2, .slice none 0 0, .int .i64 3, .int .i64 3, .slice (some ⟨w.heap.size + 1, 0, none⟩) 4 4]) ?_ rfl (show DkR w _ _ from ⟨_, _, rfl, HR.out.1, HR.out.2.1⟩)
  simp [results, Tryd.results14, go_sem, r0, r1, r2, r3, r4, r5, r6]

set_option maxHeartbeats 3200000 in
set_option maxRecDepth 100000 in
theorem eqDesk_same (a a' : Option Addr) (c c' : Nat) (w : World) (h : Reads w a (ress rs0)) (h' : Reads w a' (ress rs0)) :
    Calls Tryd.prog 16 #[.agg #[.int .i64 170, .string ⟨#[]⟩, .int .i64 2, .slice none 0 0, .int .i64 3, .int .i64 3, .slice a 4 c], .agg #[.int .i64 170, .string ⟨#[]⟩, .int .i64 2, .slice none 0 0, .int .i64 3, .int .i64 3, .slice a' 4 c']] w fun e w' => e = .returned (.bool true) ∧ Below w.heap.size w w' := by
  have B0 := Below.ofNew (w := w) (.cells #[.int .i64 170, .string ⟨#[]⟩, .int .i64 2, .slice none 0 0, .int .i64 3, .int .i64 3, .slice a 4 c] 36)
  have B1 := Below.ofNew (w := w.alloc (.cells #[.int .i64 170, .string ⟨#[]⟩, .int .i64 2, .slice none 0 0, .int .i64 3, .int .i64 3, .slice a 4 c] 36)) (.cells #[.int .i64 170, .string ⟨#[]⟩, .int .i64 2, .slice none 0 0, .int .i64 3, .int .i64 3, .slice a' 4 c'] 36)
  have hb := B0.trans (B1.mono B0.size)
  have p0 := (ObAt.new w 36 #[.int .i64 170, .string ⟨#[]⟩, .int .i64 2, .slice none 0 0, .int .i64 3, .int .i64 3, .slice a 4 c]).keep B1
  have p1 := ObAt.new (w.alloc (.cells #[.int .i64 170, .string ⟨#[]⟩, .int .i64 2, .slice none 0 0, .int .i64 3, .int .i64 3, .slice a 4 c] 36)) 36 #[.int .i64 170, .string ⟨#[]⟩, .int .i64 2, .slice none 0 0, .int .i64 3, .int .i64 3, .slice a' 4 c']
  rw [show (w.alloc (.cells #[.int .i64 170, .string ⟨#[]⟩, .int .i64 2, .slice none 0 0, .int .i64 3, .int .i64 3, .slice a 4 c] 36)).heap.size = w.heap.size + 1 by simp] at p1
  have H0 := Lib.hid (And.intro hb (And.intro p0 (And.intro (h.old hb) (And.intro (h'.old hb) p1)))); clear B0 B1 hb p0 p1 h h'
  have HE := Lib.hid (fun W => eqIntS_any [] [] none none 0 0 W (by simp) (by simp) (.inl rfl) (.inl rfl))
  rw [show SameB [] [] = true from rfl] at HE
  go_enter Tryd.func16, Tryd.ntmps16
  go_wp2_with fail
  refine (HE.out _).mono ?_; rintro e w1 ⟨rfl, b1⟩
  have H1 := Lib.hid (And.intro (H0.out.1.trans (b1.mono H0.out.1.size)) (And.intro (H0.out.2.1.keep b1) (And.intro (H0.out.2.2.1.old b1) (And.intro (H0.out.2.2.2.1.old b1) (H0.out.2.2.2.2.keep b1))))); clear b1 H0
  have q4 := H1.out.2.1.cell 4
  have q5 := H1.out.2.1.cell 5
  have q6 := H1.out.2.1.cell 6
  have s4 := H1.out.2.2.2.2.cell 4
  have s5 := H1.out.2.2.2.2.cell 5
  have s6 := H1.out.2.2.2.2.cell 6
  go_wp2_with fail
  refine (eq_sameL 3 3 rs0 a a' c c' _ (by decide) H1.out.2.2.1 H1.out.2.2.2.1).mono ?_; rintro e w2 ⟨rfl, b2⟩
  have H2 := Lib.hid (H1.out.1.trans (b2.mono H1.out.1.size)); clear b2
  go_wp2_with fail
  go_ret
  exact ⟨rfl, H2.out⟩

set_option maxHeartbeats 3200000 in
set_option maxRecDepth 100000 in
theorem markDesk_any (a : Option Addr) (c : Nat) (w : World) (h : Writable w a 16) :
    Calls Tryd.prog 17 #[.agg #[.int .i64 170, .string ⟨#[]⟩, .int .i64 2, .slice none 0 0, .int .i64 3, .int .i64 3, .slice a 4 c], .int .i64 1] w fun e w' => e = .returned (.int .i64 17) ∧ w' = writeAt ((w.alloc (.cells #[.int .i64 170, .string ⟨#[]⟩, .int .i64 2, .slice none 0 0, .int .i64 3, .int .i64 3, .slice a 4 c] 36)).alloc (.cells #[.int .i64 3, .int .i64 3, .slice a 4 c] 34)) a (ints (marks 1 16)) := by
  have B0 := Below.ofNew (w := w) (.cells #[.int .i64 170, .string ⟨#[]⟩, .int .i64 2, .slice none 0 0, .int .i64 3, .int .i64 3, .slice a 4 c] 36)
  have HM := Lib.hid (fun W => markIntS_any 0 none 0 1 W (by omega) (by omega) (by omega) (.inl rfl))
  have HL := Lib.hid (markLeague_any 3 3 4 a c 1 _ (by omega) (by omega) (by omega) (h.keep B0)); clear B0 h
  go_enter Tryd.func17, Tryd.ntmps17
  go_wp2_with fail
  refine (HM.out _).mono ?_; rintro e w1 ⟨rfl, hw⟩
  rw [show ints (marks 1 0) = [] from rfl] at hw
  simp only [writeAt] at hw
  subst hw
  go_wp2_with fail
  refine HL.out.mono ?_; rintro e w2 ⟨rfl, hw⟩
  have HW := Lib.hid hw; clear hw
  go_wp2_with fail
  go_ret
  exact ⟨rfl, HW.out⟩

set_option maxHeartbeats 3200000 in
set_option maxRecDepth 100000 in
theorem heldDesk_any (a : Option Addr) (c : Nat) (w : World) (h : Reads w a (ints (marks 1 16))) :
    Calls Tryd.prog 18 #[.agg #[.int .i64 170, .string ⟨#[]⟩, .int .i64 2, .slice none 0 0, .int .i64 3, .int .i64 3, .slice a 4 c], .int .i64 1] w fun e w' => e = .returned (.int .i64 17) ∧ Below w.heap.size w w' := by
  have B0 := Below.ofNew (w := w) (.cells #[.int .i64 170, .string ⟨#[]⟩, .int .i64 2, .slice none 0 0, .int .i64 3, .int .i64 3, .slice a 4 c] 36)
  have HM := Lib.hid (fun W => heldIntS_any 0 none 0 1 W (by omega) (by omega) (by omega) (.inl rfl))
  have HL := Lib.hid (heldLeague_any 3 3 4 a c 1 _ (by omega) (by omega) (by omega) (h.old B0)); clear h
  have HB := Lib.hid B0; clear B0
  go_enter Tryd.func18, Tryd.ntmps18
  go_wp2_with fail
  refine (HM.out _).mono ?_; rintro e w1 ⟨rfl, rfl⟩
  go_wp2_with fail
  refine HL.out.mono ?_; rintro e w2 ⟨rfl, b2⟩
  have H2 := Lib.hid (HB.out.trans (b2.mono HB.out.size)); clear b2
  go_wp2_with fail
  go_ret
  exact ⟨rfl, H2.out⟩

/-- The two results in their boxes. -/
def BxD (a2 : Option Addr) (c2 g4 : Nat) (a4 : Option Addr) (c4 g7 : Nat) (wi : World) : Prop :=
  ObAt wi g4 36 #[.int .i64 170, .string ⟨#[]⟩, .int .i64 2, .slice none 0 0, .int .i64 3, .int .i64 3, .slice a2 4 c2] ∧ ObAt wi g7 36 #[.int .i64 170, .string ⟨#[]⟩, .int .i64 2, .slice none 0 0, .int .i64 3, .int .i64 3, .slice a4 4 c4]
theorem BxD.keep {a2 : Option Addr} {c2 g4 : Nat} {a4 : Option Addr} {c4 g7 : Nat} {wi wj : World} (h : BxD a2 c2 g4 a4 c4 g7 wi) (hb : Below wi.heap.size wi wj) : BxD a2 c2 g4 a4 c4 g7 wj := ⟨h.1.keep hb, h.2.keep hb⟩
theorem BxD.write {a2 : Option Addr} {c2 g4 : Nat} {a4 : Option Addr} {c4 g7 : Nat} {wi : World} (h : BxD a2 c2 g4 a4 c4 g7 wi) {a : Option Addr} (h4 : blockOf a ≠ some g4) (h7 : blockOf a ≠ some g7) (vs : List Value) : BxD a2 c2 g4 a4 c4 g7 (writeAt wi a vs) := ⟨h.1.write h4 vs, h.2.write h7 vs⟩
def SwD (w : World) (a2 : Option Addr) (B : Nat) (v4 : Value) (c2 g4 c4 g7 : Nat) (a4 : Option Addr) (wi : World) : Prop :=
  (Below w.heap.size w wi ∧ Reads wi a2 (ress rs0) ∧ wi.ownsRow B 50 4 v4 4 (ress rs0)) ∧ BxD a2 c2 g4 a4 c4 g7 wi
theorem SwD.keep {w : World} {a2 : Option Addr} {B : Nat} {v4 : Value} {c2 g4 c4 g7 : Nat} {a4 : Option Addr} {wi wj : World} (h : SwD w a2 B v4 c2 g4 c4 g7 a4 wi) (hb : Below wi.heap.size wi wj) : SwD w a2 B v4 c2 g4 c4 g7 a4 wj := ⟨⟨h.1.1.trans (hb.mono h.1.1.size), h.1.2.1.old hb, owns_below h.1.2.2 hb⟩, h.2.keep hb⟩
def SkD (w : World) (a2 : Option Addr) (c2 g4 c4 g7 : Nat) (a4 : Option Addr) (wi : World) : Prop :=
  (Below w.heap.size w wi ∧ Reads wi a2 (ress rs0) ∧ Reads wi a4 (ints (marks 1 16))) ∧ BxD a2 c2 g4 a4 c4 g7 wi
theorem SkD.keep {w : World} {a2 : Option Addr} {c2 g4 c4 g7 : Nat} {a4 : Option Addr} {wi wj : World} (h : SkD w a2 c2 g4 c4 g7 a4 wi) (hb : Below wi.heap.size wi wj) : SkD w a2 c2 g4 c4 g7 a4 wj := ⟨⟨h.1.1.trans (hb.mono h.1.1.size), h.1.2.1.old hb, h.1.2.2.old hb⟩, h.2.keep hb⟩
end Go.Proofs.YtgkkjlpfkoplhaaDoor
