/-
  Leagues: the goals of each team: both sides.
-/
import Derived.Test.YthbkclgdoopbpaaLgLr
import Derived.Deep.CutRange
namespace Go.Proofs.Ythbkclgdoopbpaa
open Go.RowKit
set_option linter.unusedVariables false
set_option linter.unusedSimpArgs false

def goalsTo (l : List Rs) (k : Nat) : List (Int × Int) := (List.range k).map fun (i : Nat) => (forL (gamesL l i), agL (gamesL l i))
theorem goalsTo_len (l : List Rs) (k : Nat) : (goalsTo l k).length = k := by simp [goalsTo]
theorem goalsTo_snoc (l : List Rs) (k : Nat) : goalsTo l (k + 1) = goalsTo l k ++ [(forL (gamesL l k), agL (gamesL l k))] := by simp [goalsTo, List.range_succ]
def goalsV (t wn : Int) (l : List Rs) : List (Int × Int) := if goodL t wn l then goalsTo l t.toNat else []
theorem goalsV_len (t wn : Int) (l : List Rs) : (goalsV t wn l).length ≤ 72 := by
  unfold goalsV
  by_cases h : goodL t wn l = true
  · rw [if_pos h, goalsTo_len]; have := goodL_bd h; omega
  · rw [if_neg h]; simp
theorem gTake_bd {t wn : Int} {l : List Rs} (h : goodL t wn l = true) (team : Int) (q : Nat) : (0 ≤ forL (gamesL (l.take q) team) ∧ forL (gamesL (l.take q) team) ≤ 1120) ∧ (0 ≤ agL (gamesL (l.take q) team) ∧ agL (gamesL (l.take q) team) ≤ 1120) := by
  have hs : (gamesL (l.take q) team).Sublist (gamesL l team) := (List.take_sublist q l).filterMap _
  have hm := SmallG.of h team
  have hl : (gamesL (l.take q) team).length ≤ 56 := Nat.le_trans hs.length_le hm.1
  have h1 := sum_bd (fun g : Gm => g.2.1) 20 (by omega) (gamesL (l.take q) team) (fun g hg => (hm.2 g (hs.mem hg)).1)
  have h2 := sum_bd (fun g : Gm => g.2.2) 20 (by omega) (gamesL (l.take q) team) (fun g hg => (hm.2 g (hs.mem hg)).2)
  unfold forL agL
  omega

set_option maxHeartbeats 6400000 in
set_option maxRecDepth 100000 in
theorem lgGoals_any (T : Nat) (wn : Int) (l : List Rs) (hgd : goodL T wn l = true) (ad : Option Addr) (c : Nat) (w : World) (hr : Reads w ad (ress l)) :
    Calls Try.prog 71 #[.agg #[.int .i64 T, .int .i64 wn, .slice ad l.length c]] w fun e w' => ∃ v, e = .returned v ∧ PairD w.heap.size (goalsTo l T) v w' ∧ Below w.heap.size w w' := by
  have HR := Lib.hid hr; clear hr
  obtain ⟨t2, t8, -, -, h56⟩ := goodL_bd hgd
  have HGD := Lib.hid (goodL_get hgd)
  have HBD := Lib.hid (gTake_bd hgd); clear hgd
  obtain ⟨i0, hi, hz0, hz1, hz2⟩ := info_parts infoSlice
  have HI := Lib.hid (And.intro hi (And.intro hz0 (And.intro hz1 hz2))); clear hi hz0 hz1 hz2
  have hT8 : T ≤ 8 := by omega
  have H1 : Hid (LfAt w T wn (.slice ad l.length c) (goalsTo l 0) (.slice none 0 0) (w.alloc (.cells #[.int .i64 T, .int .i64 wn, .slice ad l.length c] 40))) := ⟨PairD.nil _ _, BoxS.new _ _ _ _⟩
  go_enter Try.func71, Try.ntmps71
  go_wp2_with fail
  go_loopw [3, 4] (fun vv i wr => ∃ k : Nat, i = .int .i64 k ∧ k ≤ T ∧ Hid (LfAt w T wn (.slice ad l.length c) (goalsTo l k) vv wr)) (fun _ i _ => T - (intOf i).toNat)
  case atStart => exact ⟨0, rfl, Nat.zero_le _, H1.out⟩
  case round =>
    clear H1
    obtain ⟨k, rfl, hk, hH⟩ := hrel
    obtain ⟨p0, p1, p2, -⟩ := hH.out.2.full
    by_cases hlt : k < T
    · have b1 : (k : Int) < (T : Int) := by omega
      have H2 := Lib.hid hH.out; clear hH
      go_wp2_with fail
      clear p0 p1 p2
      go_loopw [5, 6, 18] (fun o a i wr => ∃ (q : Nat) (F A : Int), i = .int .i64 q ∧ q ≤ l.length ∧ o = .int .i64 F ∧ a = .int .i64 A ∧ Hid (F = forL (gamesL (l.take q) k) ∧ A = agL (gamesL (l.take q) k) ∧ LfAt w T wn (.slice ad l.length c) (goalsTo l k) u3 wr)) (fun _ _ i _ => l.length - (intOf i).toNat)
      case atStart => exact ⟨0, 0, 0, rfl, Nat.zero_le _, rfl, rfl, rfl, rfl, H2.out⟩
      case round =>
        clear H2
        obtain ⟨q, F, A, rfl, hq, rfl, rfl, hQ⟩ := hrel
        obtain ⟨hbF, hbA⟩ := HBD.out k q
        rw [← hQ.out.1] at hbF
        rw [← hQ.out.2.1] at hbA
        by_cases hlq : q < l.length
        · have b3 : (q : Int) < (l.length : Int) := by omega
          obtain ⟨bb, off, ha, _, hc⟩ := rcells_of_reads (HR.out.old hQ.out.2.2.2.2) (by omega)
          subst ha
          obtain ⟨c0, c1, c2, c3⟩ := hc q hlq
          clear hc
          have hsn := gamesL_snoc l k q hlq
          obtain ⟨-, -, -, g1, g2⟩ := goodR_bd (HGD.out q hlq)
          generalize l.getD q zR = r at *
          obtain ⟨x, y, z, u⟩ := r
          simp only at c0 c1 c2 c3 g1 g2
          have H3 := Lib.hid (hQ.out.2.2.keep (Below.ofNew (w := wr) (.cells #[.int .i64 x, .int .i64 y, .int .i64 z, .int .i64 u] 101)))
          have hFA := And.intro hQ.out.1 hQ.out.2.1
          clear hQ
          by_cases e1 : (k : Int) = x
          · have q1 : ((k : Int) == x) = true := by rw [beq_iff_eq]; exact e1
            have ho : ownG k (x, y, z, u) = some (y, z, u) := by unfold ownG; simp only; rw [if_pos e1]
            rw [ho] at hsn
            have hN : F + z = forL (gamesL (l.take (q + 1)) k) ∧ A + u = agL (gamesL (l.take (q + 1)) k) := by rw [hsn]; simp only [Option.toList]; rw [forL_snoc, agL_snoc, hFA.1, hFA.2]; exact ⟨rfl, rfl⟩
            have HN := Lib.hid hN; clear hN hsn ho e1 hFA
            go_wp2_with fail
            go_roundw
            case rel => exact ⟨q + 1, F + z, A + u, by go_num, by omega, by go_num, by go_num, Lib.hid ⟨HN.out.1, HN.out.2, H3.out⟩⟩
            case measure => simp [intOf]; omega
          · have q1 : ((k : Int) == x) = false := by rw [beq_eq_false_iff_ne]; exact e1
            by_cases e2 : (k : Int) = y
            · have q2 : ((k : Int) == y) = true := by rw [beq_iff_eq]; exact e2
              have ho : ownG k (x, y, z, u) = some (x, u, z) := by unfold ownG; simp only; rw [if_neg e1, if_pos e2]
              rw [ho] at hsn
              have hN : F + u = forL (gamesL (l.take (q + 1)) k) ∧ A + z = agL (gamesL (l.take (q + 1)) k) := by rw [hsn]; simp only [Option.toList]; rw [forL_snoc, agL_snoc, hFA.1, hFA.2]; exact ⟨rfl, rfl⟩
              have HN := Lib.hid hN; clear hN hsn ho e1 e2 hFA
              go_wp2_with fail
              go_roundw
              case rel => exact ⟨q + 1, F + u, A + z, by go_num, by omega, by go_num, by go_num, Lib.hid ⟨HN.out.1, HN.out.2, H3.out⟩⟩
              case measure => simp [intOf]; omega
            · have q2 : ((k : Int) == y) = false := by rw [beq_eq_false_iff_ne]; exact e2
              have ho : ownG k (x, y, z, u) = none := by unfold ownG; simp only; rw [if_neg e1, if_neg e2]
              rw [ho] at hsn
              have hN : F = forL (gamesL (l.take (q + 1)) k) ∧ A = agL (gamesL (l.take (q + 1)) k) := by rw [hsn]; simp only [Option.toList, List.append_nil]; exact hFA
              have HN := Lib.hid hN; clear hN hsn ho e1 e2 hFA
              go_wp2_with fail
              go_roundw
              case rel => exact ⟨q + 1, F, A, by go_num, by omega, rfl, rfl, Lib.hid ⟨HN.out.1, HN.out.2, H3.out⟩⟩
              case measure => simp [intOf]; omega
        · obtain rfl : q = l.length := by omega
          have hFA := And.intro hQ.out.1 hQ.out.2.1
          rw [List.take_length] at hFA
          have hL := goalsTo_snoc l k
          rw [← hFA.1, ← hFA.2] at hL
          have hlen : (goalsTo l k).length ≤ 72 := by rw [goalsTo_len]; omega
          have HL := Lib.hid hL; clear hL hFA
          have HP := Lib.hid hQ.out.2.2; clear hQ
          generalize goalsTo l k = L at *
          obtain ⟨vs, hvs⟩ := HP.out.1
          have HVS := Lib.hid hvs; clear hvs
          have HN := Lib.hid (fun o v => new_head wr o v 25)
          have HLN := Lib.hid hlen; clear hlen
          go_wp2_with (at_builtin; refine wpList_append_own_at _ rfl _ _ 88 rfl w.heap.size 25 i0 (.slice none 0 0) 1 24 Try.underlying88 HI.out.1 HI.out.2.1 HI.out.2.2.1 HI.out.2.2.2 rfl (by decide) _ _ _ rfl ((HVS.out.1.alloc _).alloc _) ⟨wr.heap.size + 1, 0, none⟩ 1 1 [.slice (some ⟨wr.heap.size, 0, none⟩) 2 2] rfl rfl (HN.out _ _) ?_ ?_ ?_ ?_ ?_)
          · first | rfl | (intro u hu; simp at hu; subst hu; rfl)
          · have := HLN.out; unfold maxLen; omega
          · have := HLN.out; omega
          · have := HP.out.2.2.size; first | omega | (simp; omega)
          intro v' w7 hown7 hgrow _ _
          have H7 := Lib.hid (HP.out.more F A HVS.out hown7 hgrow)
          clear hown7 hgrow HVS HN HP HLN
          go_wp2_with fail
          go_roundw
          case rel => exact ⟨k + 1, by go_num, by omega, by rw [HL.out]; exact H7⟩
          case measure => simp [intOf]; omega
    · obtain rfl : k = T := by omega
      have HH := Lib.hid hH.out; clear hH
      go_wp2_with fail
      refine bodyPost_ret (v := u3) (by simp [results, Try.results71, go_sem]) rfl ⟨_, rfl, HH.out.1, HH.out.2.2⟩

end Go.Proofs.Ythbkclgdoopbpaa
