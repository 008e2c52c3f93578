/-
  Chances: MeanDeuce: the model.
-/
import Derived.Test.YthlkndloggmehaaChDeuce
namespace Go.Proofs.Ythlkndloggmehaa
open Go.RowKit
set_option linter.unusedVariables false
set_option linter.unusedSimpArgs false

set_option maxHeartbeats 3200000 in
set_option maxRecDepth 100000 in
theorem specMeanD_any (n d : Int) (w : World) :
    Calls Try.prog 35 #[.agg #[.int .i64 n, .int .i64 d]] w fun e w' => e = .returned (.tuple #[.int .i64 (mdeA n d), .int .i64 (mdeB n d), .bool (openO n d)]) ∧ Below w.heap.size w w' := by
  cases ho : openO n d
  · rw [(open_not ho).2.2.1, (open_not ho).2.2.2]
    have HO := Lib.hid ho; clear ho
    go_enter Try.func35, Try.ntmps35
    go_wp2_with fail
    refine (chOpen_any n d _).mono ?_; rintro e w1 ⟨rfl, b1⟩
    rw [HO.out]
    go_wp2_with fail
    refine bodyPost_ret (v := .tuple #[.int .i64 0, .int .i64 0, .bool false]) (by simp [results, Try.results35, go_sem]) rfl ⟨rfl, ?_⟩
    have sz_b1 := b1.size; (try simp at sz_b1)
    (repeat (first | exact Below.refl _ _ | exact ‹Below _ _ _› | refine Below.drew ?_ | refine Below.alloc ?_ (by first | omega | (simp; done) | (simp; omega)) _ | refine Below.setCell ?_ (by first | omega | (simp; done) | (simp; omega)) _ | refine Below.trans ?_ (Below.mono ‹Below _ _ _› (by first | omega | (simp; done) | (simp; omega)))))
  · obtain ⟨p, q, s, e, hD, -, -, e1, e2⟩ := open_sq ho
    rw [e1, e2]; clear e1 e2
    have HL := Lib.hid (chLow_any e s (by have := hD.s1; omega) (by have := hD.e2; omega) (by have := hD.s2; omega))
    have t1 : IntKind.i64.wrap (n * n) = p := by rw [hD.pn]; exact IntWalk.i64_in _ (by have := hD.p2; omega)
    obtain ⟨m, hm⟩ : ∃ m, m = d - n := ⟨_, rfl⟩
    have t2 : IntKind.i64.wrap (m * m) = q := by rw [hm, hD.qn]; exact IntWalk.i64_in _ (by have := hD.q2; omega)
    have t3 : IntKind.i64.wrap ((p : Int) + q) = s := by rw [hD.sn]; exact IntWalk.i64_in _ (by have := hD.s2; omega)
    have hb := openO_bd.1 ho
    obtain ⟨k, hk⟩ : ∃ k, k = 2 * d := ⟨_, rfl⟩
    have t4 : IntKind.i64.wrap (2 * d) = k := by rw [hk]; exact IntWalk.i64_in _ (by omega)
    have t5 : IntKind.i64.wrap (k * d) = e := by rw [hk, hD.en]; exact IntWalk.i64_in _ (by have := hD.e2; omega)
    clear hk
    have t0 : IntKind.i64.wrap (d - n) = m := by rw [hm]; exact IntWalk.i64_in _ (by omega)
    clear hm
    have HO := Lib.hid ho; clear ho hD hb
    generalize lowA e s = x at *
    generalize lowB e s = y at *
    go_enter Try.func35, Try.ntmps35
    go_wp2_with fail
    refine (chOpen_any n d _).mono ?_; rintro e w1 ⟨rfl, b1⟩
    rw [HO.out]
    obtain ⟨zA, y0, y1, -, -⟩ := (Pair.new w n d 25).keep b1
    have s3 := ((Below.refl w.heap.size w).alloc (Nat.le_refl _) (.cells #[.int .i64 n, .int .i64 d] 25)).trans (b1.mono (by simp))
    have HB := Lib.hid s3; clear b1 s3
    go_wp2_with fail
    go_quiet (fail)
    go_wp2_with fail
    refine (HL.out _).mono ?_; rintro e w2 ⟨rfl, b2⟩
    have HB2 := Lib.hid ((below_drewN HB.out _).trans (b2.mono (by have := HB.out.size; simp; omega)))
    go_wp2_with fail
    refine bodyPost_ret (v := .tuple #[.int .i64 x, .int .i64 y, .bool true]) (by simp [results, Try.results35, go_sem]) rfl ⟨rfl, HB2.out⟩
end Go.Proofs.Ythlkndloggmehaa
