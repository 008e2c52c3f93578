/-
  Leagues: the games that are left: the model's.
-/
import Derived.Test.YtpfphjfpaoiicaaLgLeft
namespace Go.Proofs.Ytpfphjfpaoiicaa
open Go.RowKit
set_option linter.unusedVariables false
set_option linter.unusedSimpArgs false

set_option maxHeartbeats 6400000 in
set_option maxRecDepth 100000 in
theorem lgLeft_any (T : Nat) (hT8 : T ≤ 8) (wn : Int) (l : List Rs) (ad : Option Addr) (c : Nat) (w : World) (hl : (l.length : Int) ≤ 1000000000000) (hr : Reads w ad (ress l)) :
    Calls Try.prog 88 #[.agg #[.int .i64 T, .int .i64 wn, .slice ad l.length c]] w fun e w' => ∃ v, e = .returned v ∧ PairD w.heap.size (leftL T l) v w' ∧ Below w.heap.size w w' := by
  have HR := Lib.hid hr; clear hr
  obtain ⟨i0, hi, hz0, hz1, hz2⟩ := info_parts infoSlice
  have HI := Lib.hid (And.intro hi (And.intro hz0 (And.intro hz1 hz2))); clear hi hz0 hz1 hz2
  have H1 : Hid (LfAt w T wn (.slice ad l.length c) (leftTo T l 0 0) (.slice none 0 0) (w.alloc (.cells #[.int .i64 T, .int .i64 wn, .slice ad l.length c] 29))) := ⟨PairD.nil _ _, BoxS.new _ _ _ _⟩
  go_enter Try.func88, Try.ntmps88
  go_wp2_with fail
  go_loopw [3, 4] (fun vv i wr => ∃ k : Nat, i = .int .i64 k ∧ k ≤ T ∧ Hid (LfAt w T wn (.slice ad l.length c) (leftTo T l k 0) vv wr)) (fun _ i _ => T - (intOf i).toNat)
  case atStart => exact ⟨0, rfl, Nat.zero_le _, H1.out⟩
  case round =>
    clear H1
    obtain ⟨k, rfl, hk, hH⟩ := hrel
    obtain ⟨p0, p1, p2, -⟩ := hH.out.2.full
    by_cases hlt : k < T
    · have b1 : (k : Int) < (T : Int) := by omega
      go_wp2_with fail
      clear p0 p1 p2
      go_loopw [3, 5] (fun vv i wr => ∃ j : Nat, i = .int .i64 j ∧ j ≤ T ∧ Hid (LfAt w T wn (.slice ad l.length c) (leftTo T l k j) vv wr)) (fun _ i _ => T - (intOf i).toNat)
      case atStart => exact ⟨0, rfl, Nat.zero_le _, hH.out⟩
      case round =>
        clear hH
        obtain ⟨j, rfl, hj, hH⟩ := hrel
        obtain ⟨p0, p1, p2, -⟩ := hH.out.2.full
        by_cases hlj : j < T
        · have b2 : (j : Int) < (T : Int) := by omega
          have H2 := Lib.hid hH.out; clear hH
          go_wp2_with fail
          clear p0 p1 p2
          go_loopw [6, 27] (fun pv i wr => ∃ (q : Nat) (pb : Bool), i = .int .i64 q ∧ q ≤ l.length ∧ pv = .bool pb ∧ Hid (pb = (((k : Int) == (j : Int)) || hasG (l.take q) k j) ∧ LfAt w T wn (.slice ad l.length c) (leftTo T l k j) u3 wr)) (fun _ i _ => l.length - (intOf i).toNat)
          case atStart => exact ⟨0, ((k : Int) == (j : Int)), rfl, Nat.zero_le _, rfl, by simp [hasG], H2.out⟩
          case round =>
            clear H2
            obtain ⟨q, pb, rfl, hq, rfl, hQ⟩ := hrel
            by_cases hlq : q < l.length
            · have b3 : (q : Int) < (l.length : Int) := by omega
              obtain ⟨bb, off, ha, _, hc⟩ := rcells_of_reads (HR.out.old hQ.out.2.2.2) (by omega)
              subst ha
              obtain ⟨c0, c1, c2, c3⟩ := hc q hlq
              clear hc
              have hs := hasG_snoc l q hlq k j
              have hpb := hQ.out.1
              generalize l.getD q zR = r at *
              obtain ⟨x, y, z, u⟩ := r
              simp only at c0 c1 c2 c3
              have H3 := Lib.hid (hQ.out.2.keep (Below.ofNew (w := wr) (.cells #[.int .i64 x, .int .i64 y, .int .i64 z, .int .i64 u] 64)))
              have hp : pairR (x, y, z, u) k j = (decide (x = (k : Int)) && decide (y = (j : Int))) := rfl
              rw [hp] at hs
              clear hQ hp
              cases pb with
              | true =>
                have HN : Hid (true = (((k : Int) == (j : Int)) || hasG (l.take (q + 1)) k j)) := Lib.hid (by rw [hs, ← Bool.or_assoc, ← hpb]; rfl)
                clear hs hpb
                go_wp2_with fail
                go_roundw
                case rel => exact ⟨q + 1, true, by go_num, by omega, rfl, Lib.hid ⟨HN.out, H3.out⟩⟩
                case measure => simp [intOf]; omega
              | false =>
                by_cases e1 : x = (k : Int)
                · have q1 : (x == (k : Int)) = true := by simp [e1]
                  by_cases e2 : y = (j : Int)
                  · have q2 : (y == (j : Int)) = true := by simp [e2]
                    have HN : Hid (true = (((k : Int) == (j : Int)) || hasG (l.take (q + 1)) k j)) := Lib.hid (by rw [hs, ← Bool.or_assoc, ← hpb, decide_eq_true e1, decide_eq_true e2]; rfl)
                    clear hs hpb e1 e2
                    go_wp2_with fail
                    go_roundw
                    case rel => exact ⟨q + 1, true, by go_num, by omega, rfl, Lib.hid ⟨HN.out, H3.out⟩⟩
                    case measure => simp [intOf]; omega
                  · have q2 : (y == (j : Int)) = false := by rw [beq_eq_false_iff_ne]; exact e2
                    have HN : Hid (false = (((k : Int) == (j : Int)) || hasG (l.take (q + 1)) k j)) := Lib.hid (by rw [hs, ← Bool.or_assoc, ← hpb, decide_eq_false e2]; simp)
                    clear hs hpb e1 e2
                    go_wp2_with fail
                    go_roundw
                    case rel => exact ⟨q + 1, false, by go_num, by omega, rfl, Lib.hid ⟨HN.out, H3.out⟩⟩
                    case measure => simp [intOf]; omega
                · have q1 : (x == (k : Int)) = false := by rw [beq_eq_false_iff_ne]; exact e1
                  have HN : Hid (false = (((k : Int) == (j : Int)) || hasG (l.take (q + 1)) k j)) := Lib.hid (by rw [hs, ← Bool.or_assoc, ← hpb, decide_eq_false e1]; simp)
                  clear hs hpb e1
                  go_wp2_with fail
                  go_roundw
                  case rel => exact ⟨q + 1, false, by go_num, by omega, rfl, Lib.hid ⟨HN.out, H3.out⟩⟩
                  case measure => simp [intOf]; omega
            · obtain rfl : q = l.length := by omega
              have hpb := hQ.out.1
              rw [List.take_length] at hpb
              have hlb := leftB_eq l k j
              have hnb : leftB l k j = !pb := by
                rw [hlb, hpb, Bool.not_or]
                congr 1
                by_cases e : (k : Int) = (j : Int)
                · simp [e]
                · rw [decide_eq_true (show (k : Int) ≠ (j : Int) from e), beq_eq_false_iff_ne.2 e]; rfl
              clear hpb hlb
              have HP := Lib.hid hQ.out.2; clear hQ
              cases pb with
              | true =>
                have hL := leftTo_out T l k j hnb
                have H4 : Hid (LfAt w T wn (.slice ad l.length c) (leftTo T l k (j + 1)) u3 wr) := by rw [hL]; exact HP.out
                clear hnb hL HP
                go_wp2_with fail
                go_roundw
                case rel => exact ⟨j + 1, by go_num, by omega, H4⟩
                case measure => simp [intOf]; omega
              | false =>
                have hL := leftTo_in T l k j hnb
                have hlen := leftTo_len T hT8 l k j hk hj
                have HL := Lib.hid hL; clear hL hnb
                generalize leftTo T l k j = L at *
                obtain ⟨vs, hvs⟩ := HP.out.1
                have HVS := Lib.hid hvs; clear hvs
                have HN := Lib.hid (fun o v => new_head wr o v 33)
                have HLN := Lib.hid hlen; clear hlen
                go_wp2_with (at_builtin; refine wpList_append_own_at _ rfl _ _ 39 rfl w.heap.size 33 i0 (.slice none 0 0) 1 24 Try.underlying39 HI.out.1 HI.out.2.1 HI.out.2.2.1 HI.out.2.2.2 rfl (by decide) _ _ _ rfl ((HVS.out.1.alloc _).alloc _) ⟨wr.heap.size + 1, 0, none⟩ 1 1 [.slice (some ⟨wr.heap.size, 0, none⟩) 2 2] rfl rfl (HN.out _ _) ?_ ?_ ?_ ?_ ?_)
                · first | rfl | (intro u hu; simp at hu; subst hu; rfl)
                · have := HLN.out; unfold maxLen; omega
                · have := HLN.out; omega
                · have := HP.out.2.2.size; first | omega | (simp; omega)
                intro v' w7 hown7 hgrow _ _
                have H7 := Lib.hid (HP.out.more k j HVS.out hown7 hgrow)
                clear hown7 hgrow HVS HN HP HLN
                go_wp2_with fail
                go_roundw
                case rel => exact ⟨j + 1, by go_num, by omega, by rw [HL.out]; exact H7⟩
                case measure => simp [intOf]; omega
        · obtain rfl : j = T := by omega
          have H2 : Hid (LfAt w j wn (.slice ad l.length c) (leftTo j l (k + 1) 0) u3 wr) := by rw [← leftTo_row]; exact hH.out
          clear hH
          go_wp2_with fail
          go_roundw
          case rel => exact ⟨k + 1, by go_num, by omega, H2⟩
          case measure => simp [intOf]; omega
    · obtain rfl : k = T := by omega
      have hh := hH.out
      rw [leftTo_all] at hh
      have HH := Lib.hid hh; clear hh hH
      go_wp2_with fail
      refine bodyPost_ret (v := u3) (by simp [results, Try.results88, go_sem]) rfl ⟨_, rfl, HH.out.1, HH.out.2.2⟩
end Go.Proofs.Ytpfphjfpaoiicaa
