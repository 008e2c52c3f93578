/-
  Races: points that were won on one's own serve: the program.
-/
import Derived.Test.YtbgdngfjeikheaaDoorRaPos
namespace Go.Proofs.YtbgdngfjeikheaaDoor
open Go.RowKit
set_option linter.unusedVariables false
set_option linter.unusedSimpArgs false

theorem Pair.drewN {w : World} {g : Nat} {a b : Int} (h : Pair w g a b) (n : Nat) : Pair (w.drewN n) g a b := h

set_option maxRecDepth 100000 in
set_option maxHeartbeats 6400000 in
theorem implPointsOnServe_any (s : ByteArray) (t : Int) (w : World) (hs : (s.size : Int) ≤ 1000000000000) :
    Calls Tryd.prog 150 #[.string s, .int .i64 t] w fun e w' => e = .returned (.tuple #[.int .i64 (posP s t).1, .int .i64 (posP s t).2, .bool (srvOk s t)]) ∧ Below w.heap.size w w' := by
  have hsv := fun w => implServersOf_any s t w hs
  have HSV := Lib.hid hsv; clear hsv
  cases ho : srvOk s t
  · rw [posP_bad ho]
    rw [srv_bad ho, ho] at HSV
    clear ho
    go_enter Tryd.func150, Tryd.ntmps150
    go_wp2_with fail
    refine (HSV.out _).mono ?_; rintro e w1 ⟨rfl, b1⟩
    have hp := Pair.new w1 0 0 172
    have hb : Below w.heap.size w (w1.alloc (.cells #[.int .i64 0, .int .i64 0] 172)) := b1.alloc b1.size _
    have HP := Lib.hid (And.intro hp hb); clear hp hb b1
    go_wp2_with fail
    generalize hW : w1.alloc (.cells #[.int .i64 0, .int .i64 0] 172) = W2 at *
    generalize hgg : w1.heap.size = g at *
    clear hW hgg
    go_loopw [19] (fun i wr => i = .int .i64 0 ∧ Hid (Pair wr g 0 0 ∧ Below w.heap.size w wr)) (fun i _ => 0)
    case atStart => exact ⟨rfl, HP⟩
    case round =>
      obtain ⟨rfl, HQ⟩ := hrel
      obtain ⟨z, c0, c1, -, -⟩ := HQ.out.1
      go_wp2_with fail
      go_quiet (fail)
      go_wp2_with fail
      refine bodyPost_ret (v := .tuple #[.int .i64 0, .int .i64 0, .bool false]) (by simp [results, Tryd.results150, go_sem]) rfl ⟨rfl, below_drewN HQ.out.2 _⟩
  · have hb := (srvOk_true.1 ho).2
    obtain ⟨n, rfl⟩ : ∃ n : Nat, t = n := ⟨t.toNat, by omega⟩
    have hsz := size_bd s (srvOk_true.1 ho).1
    have hsz2 : (s.size : Int) ≤ 100 := by omega
    rw [posP_ok ho]
    rw [srv_ok ho, ho] at HSV
    clear ho hb
    have hts := srvT_size s n
    have htg := srvT_get s n
    generalize srvT s n = T at *
    have HT := Lib.hid (And.intro hts htg)
    rw [← hts] at hsz2
    clear hts htg hsz
    generalize hR : posF n 0 0 0 s.data.toList = R
    have HRR := Lib.hid hR; clear hR
    go_enter Tryd.func150, Tryd.ntmps150
    go_wp2_with fail
    refine (HSV.out _).mono ?_; rintro e w1 ⟨rfl, b1⟩
    have hp := Pair.new w1 0 0 172
    have hb : Below w.heap.size w (w1.alloc (.cells #[.int .i64 0, .int .i64 0] 172)) := b1.alloc b1.size _
    have hgw := b1.size
    have HP := Lib.hid (And.intro hp hb); clear hp hb b1
    go_wp2_with fail
    generalize hW : w1.alloc (.cells #[.int .i64 0, .int .i64 0] 172) = W2 at *
    generalize hgg : w1.heap.size = g at *
    clear hW hgg
    go_loopw [19] (fun i wr => ∃ (k : Nat) (a b : Int), i = .int .i64 k ∧ k ≤ T.size ∧ 0 ≤ a ∧ a ≤ k ∧ 0 ≤ b ∧ b ≤ k ∧ Hid (posF n k a b (s.data.toList.drop k) = R) ∧ Hid (Pair wr g a b ∧ Below w.heap.size w wr)) (fun i _ => T.size - (intOf i).toNat)
    case atStart => exact ⟨0, 0, 0, rfl, Nat.zero_le _, by omega, by omega, by omega, by omega, Lib.hid (by rw [List.drop_zero, HRR.out]), HP⟩
    case round =>
      clear HP
      obtain ⟨k, a, b, rfl, hk, a1, a2, b1, b2, HF, HQ⟩ := hrel
      by_cases hltT : k < T.size
      · have hlti : (k : Int) < (T.size : Int) := by omega
        have hlt : k < s.size := by rw [← HT.out.1]; exact hltT
        have hix1 := rindex s k hlt
        have hix2 := rindex T k hltT
        have hsl := slice_one T k hltT
        rw [HT.out.2 k hltT] at hix2 hsl
        have hd := HF.out
        rw [drop_cons s k hlt] at hd
        have hqq := beq_u8 (srvC n k) (s[k])
        by_cases hc : s[k] = srvC n k
        · rw [pos_eq hc] at hd
          rw [decide_eq_true hc.symm] at hqq
          have hu : 0 ≤ upA s[k] ∧ upA s[k] ≤ 1 ∧ 0 ≤ upB s[k] ∧ upB s[k] ≤ 1 := by unfold upA upB; split <;> omega
          obtain ⟨u1, u2, u3, u4⟩ := hu
          have hpl := fun w => plus_any a b (srvC n k) w a1 (by omega) b1 (by omega)
          rw [← hc] at hpl hsl hix2 hqq
          have HPL := Lib.hid hpl
          have HD := Lib.hid hd
          clear hd hc HF hpl
          generalize s[k] = c at *
          generalize (c.toNat : Int) = v at *
          go_wp2_with fail
          go_quiet (fail)
          go_wp2_with fail
          generalize hW3 : wr.drewN _ = w3 at *
          have HQ3 : Hid (Pair w3.drew g a b ∧ Below w.heap.size w w3.drew) := by rw [← hW3]; exact ⟨HQ.out.1, Below.drew (below_drewN HQ.out.2 _)⟩
          clear hW3 HQ
          have wk : IntKind.i64.wrap ((k : Int) + 1) = (k : Int) + 1 := IntWalk.i64_in _ (by omega)
          refine wp_region_held_drew (S := fun w' => True) (by kernel_rfl) trivial (fun hHeld => ?_)
          (refine wpAnyH_take (i := 1) (v := ?_) rfl (by kernel_rfl) (by kernel_rfl) (by kernel_rfl) (fun _ _ _ h => h) (Or.inl ⟨by kernel_rfl, ?_⟩) (by assumption) ?_; rotate_left; focus (intro w hSw; (try dsimp only at hSw); go_simp; try with_reducible rfl); (try simp only [List.getElem_toArray, List.getElem_cons_succ, List.getElem_cons_zero, Act.put, List.setIfInBounds_toArray, List.set_cons_zero, List.set_cons_succ])); (refine wpAnyH_take (i := 2) (v := ?_) rfl (by kernel_rfl) (by kernel_rfl) (by kernel_rfl) (fun _ _ _ h => h) (Or.inl ⟨by kernel_rfl, ?_⟩) (by assumption) ?_; rotate_left; focus (intro w hSw; (try dsimp only at hSw); go_simp; try with_reducible rfl); (try simp only [List.getElem_toArray, List.getElem_cons_succ, List.getElem_cons_zero, Act.put, List.setIfInBounds_toArray, List.set_cons_zero, List.set_cons_succ])); (refine wpAnyH_take (i := 3) (v := ?_) rfl (by kernel_rfl) (by kernel_rfl) (by kernel_rfl) (fun _ _ _ h => h) (Or.inl ⟨by kernel_rfl, ?_⟩) (by assumption) ?_; rotate_left; focus (intro w hSw; (try dsimp only at hSw); go_simp; try with_reducible rfl); (try simp only [List.getElem_toArray, List.getElem_cons_succ, List.getElem_cons_zero, Act.put, List.setIfInBounds_toArray, List.set_cons_zero, List.set_cons_succ])); (refine wpAnyH_take (i := 4) (v := ?_) rfl (by kernel_rfl) (by kernel_rfl) (by kernel_rfl) (fun _ _ _ h => h) (Or.inl ⟨by kernel_rfl, ?_⟩) (by assumption) ?_; rotate_left; focus (intro w hSw; (try dsimp only at hSw); go_simp; try with_reducible rfl); (try simp only [List.getElem_toArray, List.getElem_cons_succ, List.getElem_cons_zero, Act.put, List.setIfInBounds_toArray, List.set_cons_zero, List.set_cons_succ])); (refine wpAnyH_take (i := 5) (v := ?_) rfl (by kernel_rfl) (by kernel_rfl) (by kernel_rfl) (fun _ _ _ h => h) (Or.inl ⟨by kernel_rfl, ?_⟩) (by assumption) ?_; rotate_left; focus (intro w hSw; (try dsimp only at hSw); go_simp; try with_reducible rfl); (try simp only [List.getElem_toArray, List.getElem_cons_succ, List.getElem_cons_zero, Act.put, List.setIfInBounds_toArray, List.set_cons_zero, List.set_cons_succ]))
          refine wpAnyH_ready (rs := [0]) (by kernel_rfl) (by simp) ?_; refine AllReadyH.cons rfl (fun K hK => ?_) AllReadyH.nil
          have c0 := HQ3.out.1.2.1; have c1 := HQ3.out.1.2.2.1
          go_simp
          clear c0 c1
          first
            | refine hK.out _ _ trivial (fun hHeld => ?_)
            | refine hK _ _ trivial (fun hHeld => ?_)
          clear hK K
          (try simp only [List.getElem_toArray, List.getElem_cons_succ, List.getElem_cons_zero, Act.put, List.setIfInBounds_toArray, List.set_cons_zero, List.set_cons_succ])
          refine wpAnyH_ready (rs := [6]) (by kernel_rfl) (by simp) ?_; refine AllReadyH.cons rfl (fun K hK => ?_) AllReadyH.nil
          go_simp
          go_at_call 181
          refine (HPL.out _).mono ?_; rintro e w5 ⟨rfl, b5⟩
          have HQ5 := Lib.hid (And.intro (HQ3.out.1.keep b5) (HQ3.out.2.trans (b5.mono HQ3.out.2.size)))
          clear b5 HQ3
          go_wp2_with fail
          first
            | refine hK.out _ _ trivial (fun hHeld => ?_)
            | refine hK _ _ trivial (fun hHeld => ?_)
          clear hK K
          (try simp only [List.getElem_toArray, List.getElem_cons_succ, List.getElem_cons_zero, Act.put, List.setIfInBounds_toArray, List.set_cons_zero, List.set_cons_succ])
          refine wpAnyH_ready (rs := [7]) (by kernel_rfl) (by simp) ?_; refine AllReadyH.cons rfl (fun K hK => ?_) AllReadyH.nil
          have c0 := HQ5.out.1.2.1; have c1 := HQ5.out.1.2.2.1; have f0 := HQ5.out.1.2.2.2.1; have f1 := HQ5.out.1.2.2.2.2
          go_simp
          clear c0 c1 f0 f1
          first
            | refine hK.out _ _ trivial (fun hHeld => ?_)
            | refine hK _ _ trivial (fun hHeld => ?_)
          clear hK K
          refine wpAnyH_done (by kernel_rfl) ?_ _
          have HQ6 := Lib.hid (And.intro (HQ5.out.1.put (a + upA c) (b + upB c)) ((HQ5.out.2.setCell (p := ⟨g, 0, none⟩) hgw (.int .i64 (a + upA c))).setCell (p := ⟨g, 1, none⟩) hgw (.int .i64 (b + upB c))))
          clear HQ5
          go_wp2_with fail
          go_roundw
          case rel => exact ⟨k + 1, _, _, by go_num, by omega, by omega, by omega, by omega, by omega, HD, HQ6⟩
          case measure => simp [intOf]; omega
        · rw [pos_ne hc] at hd
          rw [decide_eq_false (fun h => hc h.symm)] at hqq
          have HD := Lib.hid hd
          clear hd hc HF hsl
          generalize ((srvC n k).toNat : Int) = v at *
          generalize (s[k].toNat : Int) = u at *
          go_wp2_with fail
          go_quiet (fail)
          go_wp2_with fail
          go_roundw
          case rel => exact ⟨k + 1, _, _, by go_num, by omega, by omega, by omega, by omega, by omega, HD, Lib.hid ⟨HQ.out.1, below_drewN HQ.out.2 _⟩⟩
          case measure => simp [intOf]; omega
      · obtain rfl : k = T.size := by omega
        have hv : R = (a, b) := by
          have := HF.out
          rw [HT.out.1, drop_all] at this
          rw [← this]; rfl
        have HV := Lib.hid hv; clear hv
        obtain ⟨z, c0, c1, -, -⟩ := HQ.out.1
        go_wp2_with fail
        go_quiet (fail)
        go_wp2_with fail
        refine bodyPost_ret (v := .tuple #[.int .i64 a, .int .i64 b, .bool true]) (by simp [results, Tryd.results150, go_sem]) rfl ⟨by rw [HV.out], below_drewN HQ.out.2 _⟩

end Go.Proofs.YtbgdngfjeikheaaDoor
