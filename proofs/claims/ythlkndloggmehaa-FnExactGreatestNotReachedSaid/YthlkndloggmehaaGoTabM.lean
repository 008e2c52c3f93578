/-
  Goals: the model's table of the fewest goals.
-/
import Derived.Test.YthlkndloggmehaaGoRow
namespace Go.Proofs.Ythlkndloggmehaa
open Go.RowKit
set_option linter.unusedVariables false
set_option linter.unusedSimpArgs false

theorem snoc_get (l : List Int) (x : Int) (r : List Int) : (l ++ x :: r).getD l.length 0 = x := by simp
theorem pre_get (l : List Int) (r : List Int) {j : Nat} (h : j < l.length) : (l ++ r).getD j 0 = l.getD j 0 := by
  rw [List.getD_eq_getElem?_getD, List.getD_eq_getElem?_getD, List.getElem?_append_left h]
theorem set_at (l : List Int) (x y : Int) (r : List Int) : (l ++ x :: r).set l.length y = l ++ y :: r := by simp

def FewAt (ks : List Int) (w : World) (m k : Nat) (wr : World) : Prop := RowAt wr w.heap.size 3 (tabM ks k ++ List.replicate (m - k) 0) ∧ Below w.heap.size w wr
def FewIn (ks : List Int) (w : World) (m k : Nat) (o : Int) (wr : World) : Prop := RowAt wr w.heap.size 3 (tabM ks k ++ o :: List.replicate (m - k - 1) 0) ∧ Below w.heap.size w wr

theorem FewIn.put {ks : List Int} {w : World} {m k : Nat} {o : Int} {wr : World} (h : FewIn ks w m k o wr) (x : Int) : FewIn ks w m k x (wr.setCell ⟨w.heap.size, k + 1, none⟩ (.int .i64 x)) := by
  have hl := tabM_len ks k
  refine ⟨?_, h.2.setCell (Nat.le_refl _) _⟩
  have := h.1.put (j := k + 1) (by simp [hl]) x
  rw [← hl, set_at] at this
  rw [← hl]; exact this
theorem FewAt.begin {ks : List Int} {w : World} {m k : Nat} {wr : World} (h : FewAt ks w m k wr) (hk : k < m) : FewIn ks w m k 0 wr := by
  refine ⟨?_, h.2⟩
  have := h.1
  rwa [show m - k = (m - k - 1) + 1 by omega, List.replicate_succ] at this
theorem FewIn.end {ks : List Int} {w : World} {m k : Nat} {o : Int} {wr : World} (h : FewIn ks w m k o wr) (he : o = nextM ks (tabM ks k) ((k + 1 : Nat) : Int)) : FewAt ks w m (k + 1) wr := by
  refine ⟨?_, h.2⟩
  have := h.1
  rw [show tabM ks (k + 1) = tabM ks k ++ [o] by rw [he]; rfl, List.append_assoc, List.singleton_append, show m - (k + 1) = m - k - 1 by omega]
  exact this
theorem FewIn.here {ks : List Int} {w : World} {m k : Nat} {o : Int} {wr : World} (h : FewIn ks w m k o wr) : wr.cell? ⟨w.heap.size, k + 1, none⟩ = some (.int .i64 o) := by
  have hl := tabM_len ks k
  have := h.1.cell (j := k + 1) (by simp [hl])
  rw [← hl] at this ⊢
  rw [snoc_get] at this
  exact this
theorem FewIn.before {ks : List Int} {w : World} {m k : Nat} {o : Int} {wr : World} (h : FewIn ks w m k o wr) {n : Nat} (hn : n ≤ k) : wr.cell? ⟨w.heap.size, n, none⟩ = some (.int .i64 ((tabM ks k).getD n 0)) := by
  have hl := tabM_len ks k
  have := h.1.cell (j := n) (by simp [hl]; omega)
  rwa [pre_get _ _ (by omega)] at this

theorem FewIn.draw {ks : List Int} {w : World} {m k : Nat} {o : Int} {wr : World} (h : FewIn ks w m k o wr) (n : Nat) : FewIn ks w m k o (wr.drewN n) := ⟨h.1, below_drewN h.2 n⟩
set_option maxHeartbeats 6400000 in
set_option maxRecDepth 100000 in
theorem goFew_any (ks : List Int) (hk : ∀ x ∈ ks, 1 ≤ x ∧ x ≤ 20) (m : Nat) (hm : (m : Int) ≤ 900) (a : Option Addr) (c : Nat) (w : World) (hl : (ks.length : Int) ≤ 1000000000000) (h : Reads w a (ints ks)) :
    Calls Try.prog 104 #[.slice a ks.length c, .int .i64 m] w fun e w' => e = .returned (.slice (some ⟨w.heap.size, 0, none⟩) (m + 1) (m + 1)) ∧ RowAt w' w.heap.size 3 (tabM ks m) ∧ Below w.heap.size w w' := by
  have HR := Lib.hid h; clear h
  obtain ⟨i0, hi, hz0, hz1, hz2⟩ := info_parts infoInt
  have HK := Lib.hid hk; clear hk
  go_enter Try.func104, Try.ntmps104
  go_wp2_with (at_make; refine wpList_make_full _ rfl _ _ _ rfl w.heap.size _ i0 _ 1 Try.underlying45 hi hz0 hz1 .i64 .i64 _ _ (m + 1) rfl rfl rfl rfl ?_ ?_ (Nat.le_refl _) ?_)
  · rw [hz2]; omega
  · unfold maxLen; omega
  intro w1 hown hgrow
  have hr := (RowAt.made (e := 3) hown).1
  have hbel : Below w.heap.size w w1 := (Below.refl _ _).grown hgrow (Nat.le_refl _) (fun k hk => by cases hk)
  have h0 : FewAt ks w m 0 w1 := ⟨by rw [show tabM ks 0 ++ List.replicate (m - 0) 0 = List.replicate (m + 1) 0 by rw [List.replicate_succ]; rfl]; exact hr, hbel⟩
  have H0 := Lib.hid h0; clear h0 hr hbel hown hgrow hi hz0 hz1 hz2
  go_wp2_with fail
  go_loopw [6] (fun s wr => ∃ k : Nat, s = .int .i64 ((k : Int) + 1) ∧ k ≤ m ∧ Hid (FewAt ks w m k wr)) (fun s _ => m + 1 - (intOf s).toNat)
  case atStart => exact ⟨0, rfl, Nat.zero_le _, H0⟩
  case round =>
    clear H0
    obtain ⟨k, rfl, hkm, hT⟩ := hrel
    by_cases hlt : k < m
    · have b1 : (k : Int) + 1 ≤ (m : Int) := by omega
      have b2 : (k : Int) + 1 < (m : Int) + 1 := by omega
      have hin := hT.out.begin hlt
      have c0 := hin.here
      have f0 := hin.1.free (k + 1)
      have hin1 := hin.put (-1)
      have HIN1 := Lib.hid hin1; clear hin hin1
      go_wp2_with fail
      go_loopw [22] (fun i wr => ∃ (j : Nat) (o : Int), i = .int .i64 j ∧ j ≤ ks.length ∧ -1 ≤ o ∧ o ≤ 1000 ∧ Hid (FewIn ks w m k o wr) ∧ Hid ((ks.drop j).foldl (stepM (tabM ks k) ((k + 1 : Nat) : Int)) o = nextM ks (tabM ks k) ((k + 1 : Nat) : Int))) (fun i _ => ks.length - (intOf i).toNat)
      case atStart => exact ⟨0, -1, rfl, Nat.zero_le _, by omega, by omega, HIN1, Lib.hid rfl⟩
      case round =>
        clear HIN1 c0 f0
        obtain ⟨j, o, rfl, hj, o0, o1, hI, HF⟩ := hrel
        by_cases hlt2 : j < ks.length
        · obtain ⟨b, off, rfl, _, hc⟩ := cells_of_reads (HR.out.old hI.out.2) (by omega)
          have c0 := hc j hlt2
          obtain ⟨x1, x2⟩ := HK.out (ks.getD j 0) (by simp [hlt2])
          have hfd := foldl_drop (stepM (tabM ks k) ((k + 1 : Nat) : Int)) hlt2 o
          rw [HF.out] at hfd
          have HFD := Lib.hid hfd; clear hfd hc HF
          have b3 : (j : Int) < (ks.length : Int) := by omega
          generalize ks.getD j 0 = x at *
          by_cases q : x ≤ (k : Int) + 1
          · obtain ⟨n, hn⟩ : ∃ n : Nat, (k : Int) + 1 - x = (n : Int) := ⟨((k : Int) + 1 - x).toNat, by omega⟩
            have hnk : n ≤ k := by omega
            have c1 := hI.out.before hnk
            have c2 := hI.out.here
            have b4 : (n : Int) < (m : Int) + 1 := by omega
            have ht : -1 ≤ (tabM ks k).getD n 0 ∧ (tabM ks k).getD n 0 ≤ 900 := by
              obtain ⟨hb, he⟩ := tab_pm ks (fun x hx => (HK.out x hx).1) k (by omega) n hnk
              rw [he]; unfold asM; split <;> omega
            have hst : stepM (tabM ks k) ((k + 1 : Nat) : Int) o x = if 0 ≤ (tabM ks k).getD n 0 ∧ (o < 0 ∨ (tabM ks k).getD n 0 + 1 < o) then (tabM ks k).getD n 0 + 1 else o := by
              unfold stepM
              rw [show (((k + 1 : Nat) : Int) - x).toNat = n by omega]
              simp only [show x ≤ ((k + 1 : Nat) : Int) by omega, true_and]
            have HST := Lib.hid hst; clear hst
            generalize (tabM ks k).getD n 0 = t at *
            have wn : IntKind.i64.wrap (n : Int) = (n : Int) := IntWalk.i64_in _ (by omega)
            have wt : IntKind.i64.wrap (t + 1) = t + 1 := IntWalk.i64_in _ (by omega)
            have d1 : decide (x ≤ (k : Int) + 1) = true := decide_eq_true q
            by_cases q1 : 0 ≤ t
            · have d2 : decide (0 ≤ t) = true := decide_eq_true q1
              by_cases q2 : o < 0
              · have d3 : decide (o < 0) = true := decide_eq_true q2
                have hs : stepM (tabM ks k) ((k + 1 : Nat) : Int) o x = t + 1 := by rw [HST.out, if_pos ⟨q1, .inl q2⟩]
                have HS := Lib.hid hs; clear hs
                have HP := Lib.hid (hI.out.put (t + 1))
                have fr := hI.out.1.free (k + 1)
                go_wp2_with fail
                go_quiet (fail)
                go_wp2_with fail
                go_roundw
                case rel => exact ⟨j + 1, t + 1, by go_num, by omega, by omega, by omega, Lib.hid (FewIn.draw HP.out _), Lib.hid (by rw [HFD.out, HS.out])⟩
                case measure => simp [intOf]; omega
              · have q2' : ¬ o < 0 := q2
                have d3 : decide (o < 0) = false := decide_eq_false q2
                by_cases q3 : t + 1 < o
                · have d4 : decide (t + 1 < o) = true := decide_eq_true q3
                  have hs : stepM (tabM ks k) ((k + 1 : Nat) : Int) o x = t + 1 := by rw [HST.out, if_pos ⟨q1, .inr q3⟩]
                  have HS := Lib.hid hs; clear hs
                  have HP := Lib.hid (hI.out.put (t + 1))
                  have fr := hI.out.1.free (k + 1)
                  go_wp2_with fail
                  go_quiet (fail)
                  go_wp2_with fail
                  go_roundw
                  case rel => exact ⟨j + 1, t + 1, by go_num, by omega, by omega, by omega, Lib.hid (FewIn.draw HP.out _), Lib.hid (by rw [HFD.out, HS.out])⟩
                  case measure => simp [intOf]; omega
                · have hs : stepM (tabM ks k) ((k + 1 : Nat) : Int) o x = o := by rw [HST.out, if_neg (by omega)]
                  have HS := Lib.hid hs; clear hs
                  have q3' : ¬ t + 1 < o := q3
                  have d4 : decide (t + 1 < o) = false := decide_eq_false q3
                  clear q2 q3
                  go_wp2_with fail
                  go_quiet (fail)
                  go_wp2_with fail
                  go_roundw
                  case rel => exact ⟨j + 1, o, by go_num, by omega, by omega, by omega, Lib.hid ⟨hI.out.1, below_drewN hI.out.2 _⟩, Lib.hid (by rw [HFD.out, HS.out])⟩
                  case measure => simp [intOf]; omega
            · have hs : stepM (tabM ks k) ((k + 1 : Nat) : Int) o x = o := by rw [HST.out, if_neg (by omega)]
              have HS := Lib.hid hs; clear hs
              have q1' : ¬ 0 ≤ t := q1
              have d2 : decide (0 ≤ t) = false := decide_eq_false q1
              clear q1
              go_wp2_with fail
              go_quiet (fail)
              go_wp2_with fail
              go_roundw
              case rel => exact ⟨j + 1, o, by go_num, by omega, by omega, by omega, Lib.hid ⟨hI.out.1, below_drewN hI.out.2 _⟩, Lib.hid (by rw [HFD.out, HS.out])⟩
              case measure => simp [intOf]; omega
          · have hs : stepM (tabM ks k) ((k + 1 : Nat) : Int) o x = o := by unfold stepM; rw [if_neg (by omega)]
            have HS := Lib.hid hs; clear hs
            have q' : ¬ x ≤ (k : Int) + 1 := q
            have d1 : decide (x ≤ (k : Int) + 1) = false := decide_eq_false q
            clear q
            go_wp2_with fail
            go_quiet (fail)
            go_wp2_with fail
            go_roundw
            case rel => exact ⟨j + 1, o, by go_num, by omega, by omega, by omega, Lib.hid ⟨hI.out.1, below_drewN hI.out.2 _⟩, Lib.hid (by rw [HFD.out, HS.out])⟩
            case measure => simp [intOf]; omega
        · obtain rfl : j = ks.length := by omega
          have hfin : o = nextM ks (tabM ks k) ((k + 1 : Nat) : Int) := by rw [← HF.out, List.drop_length]; rfl
          have HE := Lib.hid (hI.out.end hfin); clear hfin HF hI
          go_wp2_with fail
          go_roundw
          case rel => exact ⟨k + 1, by go_num, by omega, HE⟩
          case measure => simp [intOf]; omega
    · obtain rfl : k = m := by omega
      have b1 : ¬ (k : Int) + 1 ≤ (k : Int) := by omega
      have hr := hT.out.1
      rw [Nat.sub_self, List.replicate_zero, List.append_nil] at hr
      have HE := Lib.hid (And.intro hr hT.out.2); clear hr hT
      go_wp2_with fail
      go_ret
      exact ⟨rfl, HE.out⟩
end Go.Proofs.Ythlkndloggmehaa
