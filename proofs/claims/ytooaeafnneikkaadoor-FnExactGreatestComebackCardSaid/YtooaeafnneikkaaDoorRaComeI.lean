/-
  Races: the greatest comeback: the program.
-/
import Derived.Test.YtooaeafnneikkaaDoorRaCome
namespace Go.Proofs.YtooaeafnneikkaaDoor
open Go.RowKit
set_option linter.unusedVariables false
set_option linter.unusedSimpArgs false

theorem Pair.drewN {w : World} {g : Nat} {a b : Int} (h : Pair w g a b) (n : Nat) : Pair (w.drewN n) g a b := h

set_option maxRecDepth 100000 in
set_option maxHeartbeats 6400000 in
theorem implGreatestComeback_any (to ld : Int) (s : ByteArray) (p0 p1 : Addr) (w : World) (hs : (s.size : Int) ≤ 1000000000000) (he : Errs w p0 p1) :
    Calls Tryd.prog 28 #[.agg #[.int .i64 to, .int .i64 ld], .string s] w fun e w' => e = .returned (.tuple #[.int .i64 (comeV to ld s), .bool (comeOk to ld s)]) ∧ Below w.heap.size w w' := by
  have hpb := fun w he => implWinnerOf_any to ld s p0 p1 w hs he
  have HPB := Lib.hid hpb; clear hpb
  have HE := Lib.hid he; clear he
  cases h1 : isP to ld s
  · rw [(come_bad (.inl h1)).1, (come_bad (.inl h1)).2]
    rw [h1, winT_bad h1] at HPB
    clear h1
    go_enter Tryd.func28, Tryd.ntmps28
    go_wp2_with fail
    refine (HPB.out _ (HE.out.keep (by (repeat (first | exact Below.refl _ _ | exact ‹Below _ _ _› | refine Below.drew ?_ | refine Below.alloc ?_ (by first | omega | (simp; done) | (simp; omega)) _ | refine Below.setCell ?_ (by first | omega | (simp; done) | (simp; omega)) _ | refine Below.trans ?_ (Below.mono ‹Below _ _ _› (by first | omega | (simp; done) | (simp; omega)))))))).mono ?_; rintro e w1 ⟨rfl, b1⟩
    go_wp2_with fail
    refine bodyPost_ret (v := .tuple #[.int .i64 0, .bool false]) (by simp [results, Tryd.results28, go_sem]) rfl ⟨rfl, ?_⟩
    have sz_b1 := b1.size; (try simp at sz_b1)
    (repeat (first | exact Below.refl _ _ | exact ‹Below _ _ _› | refine Below.drew ?_ | refine Below.alloc ?_ (by first | omega | (simp; done) | (simp; omega)) _ | refine Below.setCell ?_ (by first | omega | (simp; done) | (simp; omega)) _ | refine Below.trans ?_ (Below.mono ‹Below _ _ _› (by first | omega | (simp; done) | (simp; omega)))))
  by_cases h2 : wonN to ld (cntA s.data.toList) (cntB s.data.toList) = 0
  · rw [(come_bad (.inr h2)).1, (come_bad (.inr h2)).2]
    rw [h1, winT_ok h1, h2] at HPB
    unfold sideT at HPB
    clear h1 h2
    go_enter Tryd.func28, Tryd.ntmps28
    go_wp2_with fail
    refine (HPB.out _ (HE.out.keep (by (repeat (first | exact Below.refl _ _ | exact ‹Below _ _ _› | refine Below.drew ?_ | refine Below.alloc ?_ (by first | omega | (simp; done) | (simp; omega)) _ | refine Below.setCell ?_ (by first | omega | (simp; done) | (simp; omega)) _ | refine Below.trans ?_ (Below.mono ‹Below _ _ _› (by first | omega | (simp; done) | (simp; omega)))))))).mono ?_; rintro e w1 ⟨rfl, b1⟩
    go_wp2_with fail
    refine bodyPost_ret (v := .tuple #[.int .i64 0, .bool false]) (by simp [results, Tryd.results28, go_sem]) rfl ⟨rfl, ?_⟩
    have sz_b1 := b1.size; (try simp at sz_b1)
    (repeat (first | exact Below.refl _ _ | exact ‹Below _ _ _› | refine Below.drew ?_ | refine Below.alloc ?_ (by first | omega | (simp; done) | (simp; omega)) _ | refine Below.setCell ?_ (by first | omega | (simp; done) | (simp; omega)) _ | refine Below.trans ?_ (Below.mono ‹Below _ _ _› (by first | omega | (simp; done) | (simp; omega)))))
  · rw [(come_ok h1 h2).1, (come_ok h1 h2).2]
    obtain ⟨e1, e2, e3⟩ := won_12 h2
    have hab := (ptsB_true.1 (isP_true.1 h1).2.1).2
    have HAB := Lib.hid hab
    obtain ⟨a0, b0, ab, sz, -, -⟩ := isP_bd h1
    rw [h1, winT_ok h1, e1] at HPB
    clear h1 h2 e1 hab a0 b0 ab
    generalize wonC (wonN to ld (cntA s.data.toList) (cntB s.data.toList)) = c at *
    have e4 : ((⟨#[c]⟩ : ByteArray).toList == [45]) = false := by simpa using e3
    have c45 : (c == 45) = false := by rcases e2 with rfl | rfl <;> decide
    have HS := Lib.hid e2; clear e2
    generalize hR : comeL c 0 0 0 s.data.toList = R
    have HR := Lib.hid hR; clear hR
    go_enter Tryd.func28, Tryd.ntmps28
    go_wp2_with fail
    refine (HPB.out _ (HE.out.keep (by (repeat (first | exact Below.refl _ _ | exact ‹Below _ _ _› | refine Below.drew ?_ | refine Below.alloc ?_ (by first | omega | (simp; done) | (simp; omega)) _ | refine Below.setCell ?_ (by first | omega | (simp; done) | (simp; omega)) _ | refine Below.trans ?_ (Below.mono ‹Below _ _ _› (by first | omega | (simp; done) | (simp; omega)))))))).mono ?_; rintro e w1 ⟨rfl, b1⟩
    have hp := Pair.new w1 0 0 57
    have hb1 : Below w.heap.size w w1 := by
      have sz_b1 := b1.size; (try simp at sz_b1)
      (repeat (first | exact Below.refl _ _ | exact ‹Below _ _ _› | refine Below.drew ?_ | refine Below.alloc ?_ (by first | omega | (simp; done) | (simp; omega)) _ | refine Below.setCell ?_ (by first | omega | (simp; done) | (simp; omega)) _ | refine Below.trans ?_ (Below.mono ‹Below _ _ _› (by first | omega | (simp; done) | (simp; omega)))))
    have hb : Below w.heap.size w (w1.alloc (.cells #[.int .i64 0, .int .i64 0] 57)) := hb1.alloc hb1.size _
    have hgw := hb1.size
    have HP := Lib.hid (And.intro hp hb); clear hp hb b1 hb1
    go_wp2_with fail
    generalize hW : w1.alloc (.cells #[.int .i64 0, .int .i64 0] 57) = W2 at *
    generalize hgg : w1.heap.size = g at *
    clear hW hgg e3 e4 c45
    go_loopw [8, 25] (fun q i wr => ∃ (k : Nat) (a b m : Int), i = .int .i64 k ∧ q = .int .i64 m ∧ k ≤ s.size ∧ 0 ≤ a ∧ a ≤ k ∧ 0 ≤ b ∧ b ≤ k ∧ 0 ≤ m ∧ m ≤ 2 * k ∧ Hid (comeL c a b m (s.data.toList.drop k) = R) ∧ Hid (Pair wr g a b ∧ Below w.heap.size w wr)) (fun _ i _ => s.size - (intOf i).toNat)
    case atStart => exact ⟨0, 0, 0, 0, rfl, rfl, Nat.zero_le _, by omega, by omega, by omega, by omega, by omega, by omega, Lib.hid (by rw [List.drop_zero, HR.out]), HP⟩
    case round =>
      clear HP
      obtain ⟨k, a, b, m, rfl, rfl, hk, a1, a2, b1, b2, m1, m2, HF, HQ⟩ := hrel
      by_cases hlt : k < s.size
      · have hlti : (k : Int) < (s.size : Int) := by omega
        have hsl := slice_one s k hlt
        have hx := ab_at HAB.out hlt
        have hd := HF.out
        rw [drop_cons s k hlt, come_cons] at hd
        generalize s[k] = x at *
        have hu : 0 ≤ upA x ∧ upA x ≤ 1 ∧ 0 ≤ upB x ∧ upB x ≤ 1 := by unfold upA upB; split <;> omega
        obtain ⟨u1, u2, u3, u4⟩ := hu
        have hpl := fun w => plus_any a b x w a1 (by omega) b1 (by omega)
        generalize hA : a + upA x = a' at *
        generalize hB : b + upB x = b' at *
        have hld := fun w => leadOf_any a' b' c w (by omega) (by omega) (by omega) (by omega)
        have hob : 0 ≤ ofC a' b' c ∧ ofC a' b' c ≤ k + 1 := by unfold ofC; split <;> omega
        have hbd : 0 ≤ a' ∧ a' ≤ k + 1 ∧ 0 ≤ b' ∧ b' ≤ k + 1 := by omega
        generalize ofC a' b' c = o at *
        have hneg : a' + b' - 2 * o = -(2 * o - a' - b') := by omega
        rw [hneg] at hd
        have hvb : -1000 ≤ 2 * o - a' - b' ∧ 2 * o - a' - b' ≤ 1000 ∧ -(2 * o - a' - b') ≤ 2 * k + 2 := by omega
        generalize hv : 2 * o - a' - b' = v at *
        have wv : IntKind.i64.wrap (-v) = -v := IntWalk.i64_in _ (by omega)
        have hmx : 0 ≤ maxI m (-v) ∧ maxI m (-v) ≤ 2 * k + 2 := by rw [maxI_eq]; omega
        have hme := maxI_eq m (-v)
        have HD := Lib.hid (And.intro hd (And.intro hpl (And.intro hld (And.intro hme hbd))))
        clear hd hpl hld hme hbd HF hx hA hB hob hneg hv u1 u2 u3 u4
        generalize hmm : maxI m (-v) = mx at *
        clear hmm
        have HQ3 : Hid (Pair wr.drew g a b ∧ Below w.heap.size w wr.drew) := ⟨HQ.out.1, Below.drew HQ.out.2⟩
        clear HQ
        go_wp2_with fail
        have wk : IntKind.i64.wrap ((k : Int) + 1) = (k : Int) + 1 := IntWalk.i64_in _ (by omega)
        refine wp_region_held_drew (S := fun w' => True) (by kernel_rfl) trivial (fun hHeld => ?_)
        (refine wpAnyH_take (i := 1) (v := ?_) rfl (by kernel_rfl) (by kernel_rfl) (by kernel_rfl) (fun _ _ _ h => h) (Or.inl ⟨by kernel_rfl, ?_⟩) (by assumption) ?_; rotate_left; focus (intro w hSw; (try dsimp only at hSw); go_simp; try with_reducible rfl); (try simp only [List.getElem_toArray, List.getElem_cons_succ, List.getElem_cons_zero, Act.put, List.setIfInBounds_toArray, List.set_cons_zero, List.set_cons_succ])); (refine wpAnyH_take (i := 2) (v := ?_) rfl (by kernel_rfl) (by kernel_rfl) (by kernel_rfl) (fun _ _ _ h => h) (Or.inl ⟨by kernel_rfl, ?_⟩) (by assumption) ?_; rotate_left; focus (intro w hSw; (try dsimp only at hSw); go_simp; try with_reducible rfl); (try simp only [List.getElem_toArray, List.getElem_cons_succ, List.getElem_cons_zero, Act.put, List.setIfInBounds_toArray, List.set_cons_zero, List.set_cons_succ])); (refine wpAnyH_take (i := 3) (v := ?_) rfl (by kernel_rfl) (by kernel_rfl) (by kernel_rfl) (fun _ _ _ h => h) (Or.inl ⟨by kernel_rfl, ?_⟩) (by assumption) ?_; rotate_left; focus (intro w hSw; (try dsimp only at hSw); go_simp; try with_reducible rfl); (try simp only [List.getElem_toArray, List.getElem_cons_succ, List.getElem_cons_zero, Act.put, List.setIfInBounds_toArray, List.set_cons_zero, List.set_cons_succ])); (refine wpAnyH_take (i := 4) (v := ?_) rfl (by kernel_rfl) (by kernel_rfl) (by kernel_rfl) (fun _ _ _ h => h) (Or.inl ⟨by kernel_rfl, ?_⟩) (by assumption) ?_; rotate_left; focus (intro w hSw; (try dsimp only at hSw); go_simp; try with_reducible rfl); (try simp only [List.getElem_toArray, List.getElem_cons_succ, List.getElem_cons_zero, Act.put, List.setIfInBounds_toArray, List.set_cons_zero, List.set_cons_succ])); (refine wpAnyH_take (i := 5) (v := ?_) rfl (by kernel_rfl) (by kernel_rfl) (by kernel_rfl) (fun _ _ _ h => h) (Or.inl ⟨by kernel_rfl, ?_⟩) (by assumption) ?_; rotate_left; focus (intro w hSw; (try dsimp only at hSw); go_simp; try with_reducible rfl); (try simp only [List.getElem_toArray, List.getElem_cons_succ, List.getElem_cons_zero, Act.put, List.setIfInBounds_toArray, List.set_cons_zero, List.set_cons_succ]))
        refine wpAnyH_ready (rs := [0]) (by kernel_rfl) (by simp) ?_; refine AllReadyH.cons rfl (fun K hK => ?_) AllReadyH.nil
        have c0 := HQ3.out.1.2.1; have c1 := HQ3.out.1.2.2.1
        go_simp
        clear c0 c1
        first
          | refine hK.out _ _ trivial (fun hHeld => ?_)
          | refine hK _ _ trivial (fun hHeld => ?_)
        clear hK K
        (try simp only [List.getElem_toArray, List.getElem_cons_succ, List.getElem_cons_zero, Act.put, List.setIfInBounds_toArray, List.set_cons_zero, List.set_cons_succ])
        refine wpAnyH_ready (rs := [6]) (by kernel_rfl) (by simp) ?_; refine AllReadyH.cons rfl (fun K hK => ?_) AllReadyH.nil
        go_simp
        go_at_call 52
        refine (HD.out.2.1 _).mono ?_; rintro e w5 ⟨rfl, b5⟩
        have HQ5 := Lib.hid (And.intro (HQ3.out.1.keep b5) (HQ3.out.2.trans (b5.mono HQ3.out.2.size)))
        clear b5 HQ3
        go_wp2_with fail
        first
          | refine hK.out _ _ trivial (fun hHeld => ?_)
          | refine hK _ _ trivial (fun hHeld => ?_)
        clear hK K
        (try simp only [List.getElem_toArray, List.getElem_cons_succ, List.getElem_cons_zero, Act.put, List.setIfInBounds_toArray, List.set_cons_zero, List.set_cons_succ])
        refine wpAnyH_ready (rs := [7]) (by kernel_rfl) (by simp) ?_; refine AllReadyH.cons rfl (fun K hK => ?_) AllReadyH.nil
        have c0 := HQ5.out.1.2.1; have c1 := HQ5.out.1.2.2.1; have f0 := HQ5.out.1.2.2.2.1; have f1 := HQ5.out.1.2.2.2.2
        go_simp
        clear c0 c1 f0 f1
        first
          | refine hK.out _ _ trivial (fun hHeld => ?_)
          | refine hK _ _ trivial (fun hHeld => ?_)
        clear hK K
        refine wpAnyH_done (by kernel_rfl) ?_ _
        have HQ6 := Lib.hid (And.intro (HQ5.out.1.put a' b') ((HQ5.out.2.setCell (p := ⟨g, 0, none⟩) hgw (.int .i64 a')).setCell (p := ⟨g, 1, none⟩) hgw (.int .i64 b')))
        clear HQ5
        generalize (w5.setCell ⟨g, 0, none⟩ (.int .i64 a')).setCell ⟨g, 1, none⟩ (.int .i64 b') = w6 at *
        have c0 := HQ6.out.1.2.1; have c1 := HQ6.out.1.2.2.1
        go_wp2_with fail
        refine (HD.out.2.2.1 _).mono ?_; rintro e w7 ⟨rfl, b7⟩
        have HQ7 := Lib.hid (And.intro (HQ6.out.1.keep b7) (HQ6.out.2.trans (b7.mono HQ6.out.2.size)))
        clear b7 HQ6 c0 c1
        go_wp2_with fail
        go_roundw
        case rel => exact ⟨k + 1, a', b', mx, by go_num, by rw [HD.out.2.2.2.1], by omega, HD.out.2.2.2.2.1, HD.out.2.2.2.2.2.1, HD.out.2.2.2.2.2.2.1, HD.out.2.2.2.2.2.2.2, by omega, by omega, Lib.hid HD.out.1, HQ7⟩
        case measure => simp [intOf]; omega
      · obtain rfl : k = s.size := by omega
        have hv : R = m := by rw [← HF.out, drop_all]; rfl
        have HV := Lib.hid hv; clear hv a1 a2 b1 b2 m1 m2 HF
        go_wp2
        refine bodyPost_ret (v := .tuple #[.int .i64 m, .bool true]) (by simp [results, Tryd.results28, go_sem]) rfl ⟨by rw [HV.out], HQ.out.2⟩

end Go.Proofs.YtooaeafnneikkaaDoor
