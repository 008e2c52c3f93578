/-
  Frames: FirstWithPoints: the program's.
-/
import Derived.Test.YtaplkciomagmiabDoorFwFst
import Derived.Deep.RegionWith
namespace Go.Proofs.YtaplkciomagmiabDoor
open Go.RowKit
set_option linter.unusedVariables false
set_option linter.unusedSimpArgs false

theorem firstP_len : ∀ (m : Nat) (p : Int), (firstP m p).length ≤ m
  | 0, p => Nat.le_refl _
  | m + 1, p => by
    rw [firstP]
    split
    · simp
    · split
      · simp
      · rename_i c _
        have := firstP_len m (p - scB c)
        rw [List.length_cons]; omega
theorem pickP_some {m : Nat} {p : Int} {c : UInt8} (h : (nextL (m + 1)).find? (okB m p) = some c) : pickP (m + 1) p = some c := h

set_option maxHeartbeats 6400000 in
set_option maxRecDepth 100000 in
theorem implFwp_no (n : Nat) (hn : n ≤ 36) (k : Nat) (hk : k ≤ 147) (h0 : bp n k = 0) (w : World) :
    Calls Tryd.prog 19 #[frV n, .int .i64 k] w fun e w' => e = .returned (.tuple #[.string ⟨#[]⟩, .bool false]) ∧ Below w.heap.size w w' := by
  have H := Lib.hid (frG_of hn)
  have hk0 : 0 < k := by
    by_cases q : k = 0
    · subst q; have := bp_zero n; rw [show ((0 : Nat) : Int) = 0 from rfl] at h0; omega
    · omega
  have hpk : pickP n (k : Int) = none := by
    cases n with
    | zero => rfl
    | succ n => exact bp_none hn (by omega) h0
  have HFb := Lib.hid (firstBall_any n k hn hk)
  rw [hpk] at HFb
  have A0 := FrAt.new w (frR n) (frC n) (frL n)
  have b0 := below_new w (.cells #[.int .i64 (frR n), .bool (frC n), .int .i64 (frL n)] 29)
  have k0 : ¬ (k : Int) < 0 := by omega
  have k1 : ¬ (147 : Int) < (k : Int) := by omega
  have k2 : (0 : Int) < (k : Int) := by omega
  clear hpk h0
  go_enter Tryd.func19, Tryd.ntmps19
  go_wp2_with fail
  refine (isFrame_any _ _ _ _).mono ?_; rintro e w1 ⟨rfl, b1⟩
  rw [H.out]
  have H1 := Lib.hid (And.intro (A0.keep b1) (b0.trans (b1.mono b0.size))); clear A0 b0 b1
  obtain ⟨d0, d1, d2, -, -, -⟩ := H1.out.1.cells
  go_wp2_with fail
  go_loopw [1, 6] (fun a o wr => a = .int .i64 k ∧ o = .string ⟨#[]⟩ ∧ wr = w1) (fun _ _ _ => 0)
  case atStart => exact ⟨rfl, rfl, rfl⟩
  case round =>
    obtain ⟨rfl, rfl, rfl⟩ := hrel
    go_wp2_with fail
    refine (HFb.out _).mono ?_; rintro e w2 ⟨rfl, b2⟩
    have H2 := Lib.hid (H1.out.2.trans (b2.mono H1.out.2.size))
    unfold fbV
    go_wp2_with fail
    go_ret2
    exact ⟨rfl, H2.out⟩

set_option maxHeartbeats 6400000 in
set_option maxRecDepth 100000 in
theorem implFwp_yes (n : Nat) (hn : n ≤ 36) (k : Nat) (hk : k ≤ 147) (h0 : 0 < bp n k) (w : World) :
    Calls Tryd.prog 19 #[frV n, .int .i64 k] w fun e w' => e = .returned (.tuple #[.string ⟨(firstP n k).toArray⟩, .bool true]) ∧ Below w.heap.size w w' := by
  have H := Lib.hid (frG_of hn)
  have hRl := firstP_len n (k : Int)
  obtain ⟨R, hR⟩ : ∃ R, R = firstP n (k : Int) := ⟨_, rfl⟩
  rw [← hR] at hRl ⊢
  have A0 := FrAt.new w (frR n) (frC n) (frL n)
  have b0 := below_new w (.cells #[.int .i64 (frR n), .bool (frC n), .int .i64 (frL n)] 29)
  have k0 : ¬ (k : Int) < 0 := by omega
  have k1 : ¬ (147 : Int) < (k : Int) := by omega
  have HB := Lib.hid (And.intro h0 hR); clear h0 hR
  go_enter Tryd.func19, Tryd.ntmps19
  go_wp2_with fail
  refine (isFrame_any _ _ _ _).mono ?_; rintro e w1 ⟨rfl, b1⟩
  rw [H.out]
  have H1 := Lib.hid (And.intro (A0.keep b1) (b0.trans (b1.mono b0.size))); clear A0 b0 b1
  obtain ⟨d0, d1, d2, -, -, -⟩ := H1.out.1.cells
  go_wp2_with fail
  clear d0 d1 d2
  go_loopw [1, 6] (fun a o wr => ∃ (x m : Nat) (acc : List UInt8), a = .int .i64 x ∧ o = .string ⟨acc.toArray⟩ ∧ x ≤ 147 ∧ m ≤ 36 ∧ acc.length + m ≤ 36 ∧ Hid (0 < bp m (x : Int)) ∧ Hid (acc ++ firstP m (x : Int) = R) ∧ Hid (FrAt wr w.heap.size (frR m) (frC m) (frL m) ∧ Below w.heap.size w wr)) (fun a _ _ => (intOf a).toNat)
  case atStart => exact ⟨k, n, [], rfl, rfl, hk, hn, by simpa using hn, Lib.hid HB.out.1, Lib.hid HB.out.2.symm, H1⟩
  case round =>
    clear H1 HB
    obtain ⟨x, m, acc, rfl, rfl, hx, hm, hal, hpos, hR, hW⟩ := hrel
    by_cases hx0 : 0 < x
    · obtain ⟨m', rfl, c, hf, hc, hr0, hrp⟩ := bp_more hm (by omega) hpos.out
      have hx1 : (0 : Int) < (x : Int) := by omega
      have hR2 : acc ++ c :: firstP m' ((x : Int) - scB c) = R := by rw [← firstP_some hx1 hf]; exact hR.out
      have hcb := scB_next hm c hc
      have hasc : c.toNat < 128 := by unfold scB at hcb; omega
      have hen := encode_one c hasc
      have hbyc : (c.toNat : Int) = scB c + 48 := by unfold scB; omega
      have HFb := Lib.hid (firstBall_any (m' + 1) x hm hx)
      rw [pickP_some hf, show fbV (some c) = .tuple #[.int .i32 (c.toNat : Int), .bool true] from rfl] at HFb
      obtain ⟨s, hs⟩ : ∃ s : Nat, scB c = (s : Int) := ⟨(scB c).toNat, by omega⟩
      obtain ⟨r, hr⟩ : ∃ r : Nat, (x : Int) - (s : Int) = (r : Int) := ⟨((x : Int) - s).toNat, by omega⟩
      rw [hs] at hcb hbyc hr0 hrp hR2
      rw [hr] at hrp hR2
      rw [hbyc] at HFb hen
      have hadd : ∀ W : World, (Op.stringOp .add ⟨acc.toArray⟩ ⟨#[c]⟩).run Tryd.prog W = .ok (.string ⟨(acc ++ [c]).toArray⟩) W := fun W => run_string_add_lists W acc [c] (by omega) (by simp)
      have HBeh := Lib.hid (frameBehind_n m' (by omega))
      have HX := Lib.hid (And.intro hrp hR2)
      clear hpos hR hf hc hr0 hrp hR2 hs hasc hbyc
      have hr00 : (0 : Int) ≤ (s : Int) + 48 := by omega
      have hsc : (s : Int) + 48 - 48 = (s : Int) := by omega
      obtain ⟨d0, d1, d2, d3, d4, d5⟩ := hW.out.1.cells
      go_wp2_with fail
      refine (HFb.out _).mono ?_; rintro e w2 ⟨rfl, b2⟩
      have H2 := Lib.hid (And.intro (hW.out.1.keep b2) (hW.out.2.trans (b2.mono hW.out.2.size))); clear b2 d0 d1 d2 d3 d4 d5 hW
      obtain ⟨d0, d1, d2, d3, d4, d5⟩ := H2.out.1.cells
      go_wp2_with fail
      refine (ballScore_any ((s : Int) + 48) hr00 (by omega) _).mono ?_; rintro e w7 ⟨rfl, rfl⟩
      rw [hsc]
      go_wp2_with fail
      refine (HBeh.out _).mono ?_; rintro e w5 ⟨rfl, b5⟩
      have tA5 := H2.out.1.keep b5
      obtain ⟨e0, e1, e2, e3, e4, e5⟩ := tA5.cells
      have hS := tA5.stored (frR m') (frC m') (frL m')
      have B5 := below_put3 (b := w.heap.size) (p := m') (H2.out.2.trans (b5.mono H2.out.2.size)) (Nat.le_refl _)
      have H5 := Lib.hid (And.intro hS B5); clear B5 hS tA5 b5
      clear d0 d1 d2 d3 d4 d5
      go_wp2_with fail
      go_roundw
      case rel => exact ⟨r, m', acc ++ [c], by first | rfl | go_num, rfl, by omega, by omega, by simp; omega, Lib.hid HX.out.1, Lib.hid (by rw [← HX.out.2]; simp), H5⟩
      case measure => simp [intOf]; omega
    · obtain rfl : x = 0 := by omega
      have hf : acc = R := by rw [← hR.out, firstP_end m (by omega)]; simp
      have HX := Lib.hid (And.intro hf hW.out.2); clear hf hR hpos hW
      go_wp2_with fail
      go_ret2
      exact ⟨by rw [HX.out.1]; rfl, HX.out.2⟩
end Go.Proofs.YtaplkciomagmiabDoor
