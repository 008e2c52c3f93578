/-
  Leagues: the most points that a team can have: both sides.
-/
import Derived.Test.YtpfphjfpaoiicaaLgGoals
namespace Go.Proofs.Ytpfphjfpaoiicaa
open Go.RowKit
set_option linter.unusedVariables false
set_option linter.unusedSimpArgs false

def mostV (t wn : Int) (l : List Rs) (team : Int) : Int := if teamL t wn l team then ptsT wn l team + (cntT t.toNat l team : Int) * wn else 0

set_option maxHeartbeats 1600000 in
set_option maxRecDepth 100000 in
theorem implMost_any (t wn : Int) (l : List Rs) (ad : Option Addr) (c : Nat) (team : Int) (w : World) (hl : (l.length : Int) ≤ 1000000000000) (hlc : l.length ≤ c) (hr : Reads w ad (ress l)) :
    Calls Try.prog 45 #[.agg #[.int .i64 t, .int .i64 wn, .slice ad l.length c], .int .i64 team] w fun e w' => e = .returned (.tuple #[.int .i64 (mostV t wn l team), .bool (teamL t wn l team)]) ∧ Below w.heap.size w w' := by
  have H0 := Lib.hid (BoxS.new w t wn (.slice ad l.length c))
  have HG := Lib.hid (isTeamOf_any t wn l ad c team _ hl hlc (hr.old H0.out.2))
  have HR := Lib.hid hr; clear hr
  cases hg : teamL t wn l team
  · have hv : mostV t wn l team = 0 := by unfold mostV; rw [hg]; rfl
    rw [hg] at HG; rw [hv]; clear hg hv
    go_enter Try.func45, Try.ntmps45
    go_wp2_with fail
    refine HG.out.mono ?_; rintro e w1 ⟨rfl, b1⟩
    have HB1 := Lib.hid (H0.out.keep b1); clear b1
    go_wp2_with fail
    refine bodyPost_ret (v := .tuple #[.int .i64 0, .bool false]) (by simp [results, Try.results45, go_sem]) rfl ⟨rfl, HB1.out.2⟩
  · obtain ⟨hgd, m0, m1⟩ := teamL_good hg
    obtain ⟨t2, t8, hw2, hw3, h56⟩ := goodL_bd hgd
    obtain ⟨T, rfl⟩ : ∃ T : Nat, t = T := ⟨t.toNat, by omega⟩
    have hcnt := cnt_all hgd team m0 m1
    have hpb := ptsT_bd (wn := wn) ⟨hw2, hw3⟩ l team
    have HGM := Lib.hid (fun W (hb : Below w.heap.size w W) => gamesOfTeam_any T wn l ad c team W (by omega) (HR.out.old hb))
    have HST := Lib.hid (fun W (hb : Below w.heap.size w W) => standingOf_any T wn l hgd ad c team W (HR.out.old hb))
    have hpt : ptsL wn (gamesL l team) = ptsT wn l team := rfl
    rw [hpt] at HST; clear hpt
    have hgl := gamesL_len l team
    have hv : mostV T wn l team = ptsT wn l team + (2 * ((T : Int) - 1) - ((gamesL l team).length : Int)) * wn := by
      unfold mostV
      rw [if_pos hg, Int.toNat_natCast, show (2 * ((T : Int) - 1) - ((gamesL l team).length : Int)) = (cntT T l team : Int) from by omega]
    have hnb : 0 ≤ 2 * ((T : Int) - 1) - ((gamesL l team).length : Int) ∧ 2 * ((T : Int) - 1) - ((gamesL l team).length : Int) ≤ 14 := by omega
    rw [hg] at HG; rw [hv]; clear hg hgd hv hcnt
    generalize hPq : ptsT wn l team = P at *
    have HPQ := Lib.hid hPq; clear hPq
    generalize forL (gamesL l team) = F at *
    generalize agL (gamesL l team) = A at *
    go_enter Try.func45, Try.ntmps45
    go_wp2_with fail
    refine HG.out.mono ?_; rintro e w1 ⟨rfl, b1⟩
    have HB1 := Lib.hid (H0.out.keep b1); clear b1 H0 HG
    obtain ⟨p0, p1, p2, -⟩ := HB1.out.full
    go_wp2_with fail
    clear p0 p1 p2
    have HB1d := Lib.hid HB1.out.drew
    have wr1 : IntKind.i64.wrap ((T : Int) - 1) = (T : Int) - 1 := IntWalk.i64_in _ (by omega)
    have wr2 : IntKind.i64.wrap (2 * ((T : Int) - 1)) = 2 * ((T : Int) - 1) := IntWalk.i64_in _ (by omega)
    refine wp_region_held_drew (S := fun w' => w'.cell? ⟨w.heap.size, 0, none⟩ = some (.int .i64 T) ∧ w'.cell? ⟨w.heap.size, 1, none⟩ = some (.int .i64 wn) ∧ w'.cell? ⟨w.heap.size, 2, none⟩ = some (.slice ad l.length c) ∧ BoxS w T wn (.slice ad l.length c) w') (by kernel_rfl) HB1d.out.full (fun hHeld => ?_)
    (refine wpAnyH_take (i := 0) (v := ?_) rfl (by kernel_rfl) (by kernel_rfl) (by kernel_rfl) (fun _ _ _ h => h) (Or.inl ⟨by kernel_rfl, ?_⟩) (by assumption) ?_; rotate_left; focus (intro w hSw; (try dsimp only at hSw); go_simp; try with_reducible rfl); (try simp only [List.getElem_toArray, List.getElem_cons_succ, List.getElem_cons_zero, Act.put, List.setIfInBounds_toArray, List.set_cons_zero, List.set_cons_succ])); (refine wpAnyH_take (i := 1) (v := ?_) rfl (by kernel_rfl) (by kernel_rfl) (by kernel_rfl) (fun _ _ _ h => h) (Or.inl ⟨by kernel_rfl, ?_⟩) (by assumption) ?_; rotate_left; focus (intro w hSw; (try dsimp only at hSw); go_simp; try with_reducible rfl); (try simp only [List.getElem_toArray, List.getElem_cons_succ, List.getElem_cons_zero, Act.put, List.setIfInBounds_toArray, List.set_cons_zero, List.set_cons_succ])); (refine wpAnyH_take (i := 2) (v := ?_) rfl (by kernel_rfl) (by kernel_rfl) (by kernel_rfl) (fun _ _ _ h => h) (Or.inl ⟨by kernel_rfl, ?_⟩) (by assumption) ?_; rotate_left; focus (intro w hSw; (try dsimp only at hSw); go_simp; try with_reducible rfl); (try simp only [List.getElem_toArray, List.getElem_cons_succ, List.getElem_cons_zero, Act.put, List.setIfInBounds_toArray, List.set_cons_zero, List.set_cons_succ])); (refine wpAnyH_take (i := 3) (v := ?_) rfl (by kernel_rfl) (by kernel_rfl) (by kernel_rfl) (fun _ _ _ h => h) (Or.inl ⟨by kernel_rfl, ?_⟩) (by assumption) ?_; rotate_left; focus (intro w hSw; (try dsimp only at hSw); go_simp; try with_reducible rfl); (try simp only [List.getElem_toArray, List.getElem_cons_succ, List.getElem_cons_zero, Act.put, List.setIfInBounds_toArray, List.set_cons_zero, List.set_cons_succ])); (refine wpAnyH_take (i := 4) (v := ?_) rfl (by kernel_rfl) (by kernel_rfl) (by kernel_rfl) (fun _ _ _ h => h) (Or.inl ⟨by kernel_rfl, ?_⟩) (by assumption) ?_; rotate_left; focus (intro w hSw; (try dsimp only at hSw); go_simp; try with_reducible rfl); (try simp only [List.getElem_toArray, List.getElem_cons_succ, List.getElem_cons_zero, Act.put, List.setIfInBounds_toArray, List.set_cons_zero, List.set_cons_succ])); (refine wpAnyH_take (i := 5) (v := ?_) rfl (by kernel_rfl) (by kernel_rfl) (by kernel_rfl) (fun _ _ _ h => h) (Or.inl ⟨by kernel_rfl, ?_⟩) (by assumption) ?_; rotate_left; focus (intro w hSw; (try dsimp only at hSw); go_simp; try with_reducible rfl); (try simp only [List.getElem_toArray, List.getElem_cons_succ, List.getElem_cons_zero, Act.put, List.setIfInBounds_toArray, List.set_cons_zero, List.set_cons_succ]))
    refine wpAnyH_ready (rs := [6]) (by kernel_rfl) (by simp) ?_; refine AllReadyH.cons rfl (fun K hK => ?_) AllReadyH.nil
    go_simp
    go_at_call 82
    refine (HGM.out _ HB1d.out.2).mono ?_; rintro e w5 ⟨v, rfl, hown, b5⟩
    obtain ⟨a2, c2, rfl, -, -, -, -⟩ := Reads.own hown
    have HB5 := Lib.hid (HB1d.out.keep b5); clear b5 HB1 HB1d hHeld hown HGM
    generalize hn : (gamesL l team).length = n at *
    have HN := Lib.hid hn; clear hn
    go_wp2_with fail
    first
      | refine hK.out _ _ HB5.out.full (fun hHeld => ?_)
      | refine hK _ _ HB5.out.full (fun hHeld => ?_)
    clear hK K
    (try simp only [List.getElem_toArray, List.getElem_cons_succ, List.getElem_cons_zero, Act.put, List.setIfInBounds_toArray, List.set_cons_zero, List.set_cons_succ])
    have wr3 : IntKind.i64.wrap (2 * ((T : Int) - 1) - (n : Int)) = 2 * ((T : Int) - 1) - (n : Int) := IntWalk.i64_in _ (by omega)
    (refine wpAnyH_take (i := 7) (v := ?_) rfl (by kernel_rfl) (by kernel_rfl) (by kernel_rfl) (fun _ _ _ h => h) (Or.inl ⟨by kernel_rfl, ?_⟩) (by assumption) ?_; rotate_left; focus (intro w hSw; (try dsimp only at hSw); go_simp; try with_reducible rfl); (try simp only [List.getElem_toArray, List.getElem_cons_succ, List.getElem_cons_zero, Act.put, List.setIfInBounds_toArray, List.set_cons_zero, List.set_cons_succ])); (refine wpAnyH_take (i := 8) (v := ?_) rfl (by kernel_rfl) (by kernel_rfl) (by kernel_rfl) (fun _ _ _ h => h) (Or.inl ⟨by kernel_rfl, ?_⟩) (by assumption) ?_; rotate_left; focus (intro w hSw; (try dsimp only at hSw); go_simp; try with_reducible rfl); (try simp only [List.getElem_toArray, List.getElem_cons_succ, List.getElem_cons_zero, Act.put, List.setIfInBounds_toArray, List.set_cons_zero, List.set_cons_succ])); (refine wpAnyH_take (i := 9) (v := ?_) rfl (by kernel_rfl) (by kernel_rfl) (by kernel_rfl) (fun _ _ _ h => h) (Or.inl ⟨by kernel_rfl, ?_⟩) (by assumption) ?_; rotate_left; focus (intro w hSw; (try dsimp only at hSw); go_simp; try with_reducible rfl); (try simp only [List.getElem_toArray, List.getElem_cons_succ, List.getElem_cons_zero, Act.put, List.setIfInBounds_toArray, List.set_cons_zero, List.set_cons_succ]))
    refine wpAnyH_done (by kernel_rfl) ?_ _
    clear hHeld
    obtain ⟨m, hm⟩ : ∃ m : Int, m = 2 * ((T : Int) - 1) - (n : Int) := ⟨_, rfl⟩
    rw [← hm] at hnb
    have HM := Lib.hid hm
    rw [← hm] at wr3 ⊢
    clear wr1 wr2 wr3 hm
    obtain ⟨p0, p1, p2, -⟩ := HB5.out.full
    go_wp2_with fail
    clear p0 p1 p2
    have HB5d := Lib.hid HB5.out.drew
    have hmw : m * wn = 2 * m ∨ m * wn = 3 * m := by
      rcases (show wn = 2 ∨ wn = 3 by omega) with h | h
      · left; rw [h]; omega
      · right; rw [h]; omega
    have wr4 : IntKind.i64.wrap (m * wn) = m * wn := IntWalk.i64_in _ (by omega)
    have wr5 : IntKind.i64.wrap (P + m * wn) = P + m * wn := IntWalk.i64_in _ (by omega)
    have hfd := field_pts (.int .i64 team) (.int .i64 P) (.int .i64 F) (.int .i64 A)
    refine wp_region_held_drew (S := fun w' => w'.cell? ⟨w.heap.size, 0, none⟩ = some (.int .i64 T) ∧ w'.cell? ⟨w.heap.size, 1, none⟩ = some (.int .i64 wn) ∧ w'.cell? ⟨w.heap.size, 2, none⟩ = some (.slice ad l.length c) ∧ BoxS w T wn (.slice ad l.length c) w') (by kernel_rfl) HB5d.out.full (fun hHeld => ?_)
    (refine wpAnyH_take (i := 0) (v := ?_) rfl (by kernel_rfl) (by kernel_rfl) (by kernel_rfl) (fun _ _ _ h => h) (Or.inl ⟨by kernel_rfl, ?_⟩) (by assumption) ?_; rotate_left; focus (intro w hSw; (try dsimp only at hSw); go_simp; try with_reducible rfl); (try simp only [List.getElem_toArray, List.getElem_cons_succ, List.getElem_cons_zero, Act.put, List.setIfInBounds_toArray, List.set_cons_zero, List.set_cons_succ])); (refine wpAnyH_take (i := 1) (v := ?_) rfl (by kernel_rfl) (by kernel_rfl) (by kernel_rfl) (fun _ _ _ h => h) (Or.inl ⟨by kernel_rfl, ?_⟩) (by assumption) ?_; rotate_left; focus (intro w hSw; (try dsimp only at hSw); go_simp; try with_reducible rfl); (try simp only [List.getElem_toArray, List.getElem_cons_succ, List.getElem_cons_zero, Act.put, List.setIfInBounds_toArray, List.set_cons_zero, List.set_cons_succ])); (refine wpAnyH_take (i := 4) (v := ?_) rfl (by kernel_rfl) (by kernel_rfl) (by kernel_rfl) (fun _ _ _ h => h) (Or.inl ⟨by kernel_rfl, ?_⟩) (by assumption) ?_; rotate_left; focus (intro w hSw; (try dsimp only at hSw); go_simp; try with_reducible rfl); (try simp only [List.getElem_toArray, List.getElem_cons_succ, List.getElem_cons_zero, Act.put, List.setIfInBounds_toArray, List.set_cons_zero, List.set_cons_succ])); (refine wpAnyH_take (i := 5) (v := ?_) rfl (by kernel_rfl) (by kernel_rfl) (by kernel_rfl) (fun _ _ _ h => h) (Or.inl ⟨by kernel_rfl, ?_⟩) (by assumption) ?_; rotate_left; focus (intro w hSw; (try dsimp only at hSw); go_simp; try with_reducible rfl); (try simp only [List.getElem_toArray, List.getElem_cons_succ, List.getElem_cons_zero, Act.put, List.setIfInBounds_toArray, List.set_cons_zero, List.set_cons_succ])); (refine wpAnyH_take (i := 6) (v := ?_) rfl (by kernel_rfl) (by kernel_rfl) (by kernel_rfl) (fun _ _ _ h => h) (Or.inl ⟨by kernel_rfl, ?_⟩) (by assumption) ?_; rotate_left; focus (intro w hSw; (try dsimp only at hSw); go_simp; try with_reducible rfl); (try simp only [List.getElem_toArray, List.getElem_cons_succ, List.getElem_cons_zero, Act.put, List.setIfInBounds_toArray, List.set_cons_zero, List.set_cons_succ])); (refine wpAnyH_take (i := 7) (v := ?_) rfl (by kernel_rfl) (by kernel_rfl) (by kernel_rfl) (fun _ _ _ h => h) (Or.inl ⟨by kernel_rfl, ?_⟩) (by assumption) ?_; rotate_left; focus (intro w hSw; (try dsimp only at hSw); go_simp; try with_reducible rfl); (try simp only [List.getElem_toArray, List.getElem_cons_succ, List.getElem_cons_zero, Act.put, List.setIfInBounds_toArray, List.set_cons_zero, List.set_cons_succ]))
    refine wpAnyH_ready (rs := [2]) (by kernel_rfl) (by simp) ?_; refine AllReadyH.cons rfl (fun K hK => ?_) AllReadyH.nil
    go_simp
    go_at_call 76
    refine (HST.out _ HB5d.out.2).mono ?_; rintro e w6 ⟨rfl, b6⟩
    have HB6 := Lib.hid (HB5d.out.keep b6); clear b6 HB5 HB5d hHeld HST
    go_wp2_with fail
    first
      | refine hK.out _ _ HB6.out.full (fun hHeld => ?_)
      | refine hK _ _ HB6.out.full (fun hHeld => ?_)
    clear hK K
    (try simp only [List.getElem_toArray, List.getElem_cons_succ, List.getElem_cons_zero, Act.put, List.setIfInBounds_toArray, List.set_cons_zero, List.set_cons_succ])
    (refine wpAnyH_take (i := 3) (v := ?_) rfl (by kernel_rfl) (by kernel_rfl) (by kernel_rfl) (fun _ _ _ h => h) (Or.inl ⟨by kernel_rfl, ?_⟩) (by assumption) ?_; rotate_left; focus (intro w hSw; (try dsimp only at hSw); go_simp; try with_reducible rfl); (try simp only [List.getElem_toArray, List.getElem_cons_succ, List.getElem_cons_zero, Act.put, List.setIfInBounds_toArray, List.set_cons_zero, List.set_cons_succ])); (refine wpAnyH_take (i := 8) (v := ?_) rfl (by kernel_rfl) (by kernel_rfl) (by kernel_rfl) (fun _ _ _ h => h) (Or.inl ⟨by kernel_rfl, ?_⟩) (by assumption) ?_; rotate_left; focus (intro w hSw; (try dsimp only at hSw); go_simp; try with_reducible rfl); (try simp only [List.getElem_toArray, List.getElem_cons_succ, List.getElem_cons_zero, Act.put, List.setIfInBounds_toArray, List.set_cons_zero, List.set_cons_succ])); (refine wpAnyH_take (i := 9) (v := ?_) rfl (by kernel_rfl) (by kernel_rfl) (by kernel_rfl) (fun _ _ _ h => h) (Or.inl ⟨by kernel_rfl, ?_⟩) (by assumption) ?_; rotate_left; focus (intro w hSw; (try dsimp only at hSw); go_simp; try with_reducible rfl); (try simp only [List.getElem_toArray, List.getElem_cons_succ, List.getElem_cons_zero, Act.put, List.setIfInBounds_toArray, List.set_cons_zero, List.set_cons_succ])); (refine wpAnyH_take (i := 10) (v := ?_) rfl (by kernel_rfl) (by kernel_rfl) (by kernel_rfl) (fun _ _ _ h => h) (Or.inl ⟨by kernel_rfl, ?_⟩) (by assumption) ?_; rotate_left; focus (intro w hSw; (try dsimp only at hSw); go_simp; try with_reducible rfl); (try simp only [List.getElem_toArray, List.getElem_cons_succ, List.getElem_cons_zero, Act.put, List.setIfInBounds_toArray, List.set_cons_zero, List.set_cons_succ]))
    refine wpAnyH_done (by kernel_rfl) ?_ _
    clear hHeld
    go_wp2_with fail
    refine bodyPost_ret (v := .tuple #[.int .i64 (P + m * wn), .bool true]) (by simp [results, Try.results45, go_sem]) rfl ⟨by rw [HM.out, HN.out], HB6.out.2⟩

set_option maxHeartbeats 1600000 in
theorem l1Has_any (L : List Int) (a : Option Addr) (c : Nat) (x : Int) (w : World) (hl : (L.length : Int) ≤ 1000000000000) (hr : Reads w a (ints L)) :
    Calls Try.prog 89 #[.slice a L.length c, .int .i64 x] w fun e w' => e = .returned (.bool (L.any fun y => decide (y = x))) ∧ Below w.heap.size w w' := by
  have HR := Lib.hid hr; clear hr
  go_enter Try.func89, Try.ntmps89
  go_wp2_with fail
  go_loopw [9] (fun i wr => ∃ k : Nat, i = .int .i64 k ∧ k ≤ L.length ∧ Hid ((L.take k).any (fun y => decide (y = x)) = false ∧ Below w.heap.size w wr)) (fun i _ => L.length - (intOf i).toNat)
  case atStart => exact ⟨0, rfl, Nat.zero_le _, rfl, Below.refl _ _⟩
  case round =>
    obtain ⟨k, rfl, hk, hH⟩ := hrel
    by_cases hlt : k < L.length
    · have b1 : (k : Int) < (L.length : Int) := by omega
      obtain ⟨b, off, ha, _, hc⟩ := cells_of_reads (HR.out.old hH.out.2) (by omega)
      subst ha
      have c0 := hc k hlt
      clear hc
      have hs : (L.take (k + 1)).any (fun y => decide (y = x)) = decide (L.getD k 0 = x) := by
        rw [take_snoc 0 L k hlt, List.any_append, hH.out.1, Bool.false_or]; simp
      have hit : L.getD k 0 = x → L.any (fun y => decide (y = x)) = true := fun e => by
        rw [List.any_eq_true]
        exact ⟨L[k], List.getElem_mem hlt, by simpa [hlt] using e⟩
      have HT := Lib.hid (And.intro hs (And.intro hit hH.out.2)); clear hs hit hH
      generalize L.getD k 0 = y at *
      by_cases e : y = x
      · have q1 : (y == x) = true := by simp [e]
        have HF := Lib.hid (HT.out.2.1 e); clear e
        go_wp2_with fail
        go_ret
        exact ⟨ret_bool HF.out.symm, HT.out.2.2⟩
      · have q1 : (y == x) = false := by rw [beq_eq_false_iff_ne]; exact e
        have HF := Lib.hid (HT.out.1.trans (decide_eq_false e)); clear e
        go_wp2_with fail
        go_roundw
        case rel => exact ⟨k + 1, by go_num, by omega, Lib.hid ⟨HF.out, HT.out.2.2⟩⟩
        case measure => simp [intOf]; omega
    · obtain rfl : k = L.length := by omega
      have hn := hH.out
      rw [List.take_length] at hn
      have HN := Lib.hid hn; clear hn
      go_wp2
      go_ret
      exact ⟨ret_bool HN.out.1.symm, HN.out.2⟩

/-- The j-th row, as it is read. -/
theorem PairD.row2 {B : Nat} {l : List (Int × Int)} {v : Value} {wr : World} (h : PairD B l v wr) {j : Nat} (hj : j < l.length) :
    ∃ go cap g c, v = .slice (some ⟨go, 0, none⟩) l.length cap ∧ wr.cell? ⟨go, j, none⟩ = some (.slice (some ⟨g, 0, none⟩) 2 c) ∧ Reads wr (some ⟨g, 0, none⟩) (ints [(l.getD j (0, 0)).1, (l.getD j (0, 0)).2]) := by
  obtain ⟨go, cap, g, c, hv, h0, h1, h2⟩ := h.row hj
  refine ⟨go, cap, g, c, hv, h0, .inr ⟨g, 0, rfl, World.block_lt_of_cell? wr _ h1, fun i hi => ?_⟩⟩
  simp [ints] at hi
  rcases (show i = 0 ∨ i = 1 by omega) with rfl | rfl
  · rw [h1]; rfl
  · rw [h2]; rfl
theorem PairD.slice {B : Nat} {l : List (Int × Int)} {v : Value} {wr : World} (h : PairD B l v wr) : ∃ a cap, v = .slice a l.length cap := by
  obtain ⟨vs, h1, -⟩ := h
  obtain ⟨a, c, e, -⟩ := own_cap h1
  exact ⟨a, c, e⟩
theorem cnt_snoc (L : List (Int × Int)) (k : Nat) (hk : k < L.length) (team : Int) : (L.take (k + 1)).countP (hasT team) = (L.take k).countP (hasT team) + if hasT team (L.getD k (0, 0)) then 1 else 0 := by
  rw [take_snoc (0, 0) L k hk, List.countP_append, List.countP_cons, List.countP_nil, Nat.zero_add]

set_option maxHeartbeats 3200000 in
set_option maxRecDepth 100000 in
theorem specMost_any (t wn : Int) (l : List Rs) (ad : Option Addr) (c : Nat) (team : Int) (w : World) (hl : (l.length : Int) ≤ 1000000000000) (hlc : l.length ≤ c) (hr : Reads w ad (ress l)) :
    Calls Try.prog 44 #[.agg #[.int .i64 t, .int .i64 wn, .slice ad l.length c], .int .i64 team] w fun e w' => e = .returned (.tuple #[.int .i64 (mostV t wn l team), .bool (teamL t wn l team)]) ∧ Below w.heap.size w w' := by
  have H0 := Lib.hid (BoxS.new w t wn (.slice ad l.length c))
  have HG := Lib.hid (lgTeam_any t wn l ad c team _ hl hlc (hr.old H0.out.2))
  have HR := Lib.hid hr; clear hr
  cases hg : teamL t wn l team
  · have hv : mostV t wn l team = 0 := by unfold mostV; rw [hg]; rfl
    rw [hg] at HG; rw [hv]; clear hg hv
    go_enter Try.func44, Try.ntmps44
    go_wp2_with fail
    refine HG.out.mono ?_; rintro e w1 ⟨rfl, b1⟩
    have HB1 := Lib.hid (H0.out.keep b1); clear b1
    go_wp2_with fail
    refine bodyPost_ret (v := .tuple #[.int .i64 0, .bool false]) (by simp [results, Try.results44, go_sem]) rfl ⟨rfl, HB1.out.2⟩
  · obtain ⟨hgd, m0, m1⟩ := teamL_good hg
    obtain ⟨t2, t8, hw2, hw3, h56⟩ := goodL_bd hgd
    obtain ⟨T, rfl⟩ : ∃ T : Nat, t = T := ⟨t.toNat, by omega⟩
    obtain ⟨M, rfl⟩ : ∃ M : Nat, team = M := ⟨team.toNat, by omega⟩
    have hpb := ptsT_bd (wn := wn) ⟨hw2, hw3⟩ l (M : Int)
    have HP := Lib.hid (fun W (hb : Below w.heap.size w W) => lgPoints_any T wn l hgd ad c W (HR.out.old hb))
    have HL := Lib.hid (fun W (hb : Below w.heap.size w W) => lgLeft_any T (by omega) wn l ad c W hl (HR.out.old hb))
    have hll : (leftL T l).length ≤ 72 := by rw [← leftTo_all]; exact leftTo_len T (by omega) l T 0 (Nat.le_refl _) (by omega)
    have hv : mostV T wn l M = ptsT wn l M + ((leftL T l).countP (hasT M) : Int) * wn := by unfold mostV; rw [if_pos hg, Int.toNat_natCast]; rfl
    rw [hg] at HG; rw [hv]; clear hg hgd hv
    go_enter Try.func44, Try.ntmps44
    go_wp2_with fail
    refine HG.out.mono ?_; rintro e w1 ⟨rfl, b1⟩
    have HB1 := Lib.hid (H0.out.keep b1); clear b1 H0 HG
    obtain ⟨p0, p1, p2, -⟩ := HB1.out.full
    go_wp2_with fail
    refine (HP.out _ HB1.out.2).mono ?_; rintro e w2 ⟨g, rfl, hge, hrow, b2⟩
    have c0 := hrow.cell (j := M) (by rw [ptsRow, rowF_len]; omega)
    rw [ptsRow, rowF_get (by omega)] at c0
    have HB2 := Lib.hid (HB1.out.keep b2); clear b2 HB1 p0 p1 p2 hrow
    obtain ⟨p0, p1, p2, -⟩ := HB2.out.full
    have d1 : (M : Int) < (T : Int) := by omega
    generalize hPq : ptsT wn l (M : Int) = P at *
    have HPQ := Lib.hid hPq; clear hPq
    go_wp2_with fail
    refine (HL.out _ HB2.out.2).mono ?_; rintro e w3 ⟨v, rfl, hpd, b3⟩
    obtain ⟨a3, c3, rfl⟩ := hpd.slice
    have HB3 := Lib.hid (HB2.out.keep b3)
    have HPD := Lib.hid hpd; clear hpd b3 HB2 p0 p1 p2 c0 HL HP
    generalize hL : leftL T l = L at *
    have HLL := Lib.hid hL; clear hL
    go_wp2_with fail
    go_loopw [6, 21] (fun n i wr => ∃ (k : Nat) (q : Nat), i = .int .i64 k ∧ k ≤ L.length ∧ n = .int .i64 (P + (q : Int) * wn) ∧ q ≤ k ∧ Hid (q = (L.take k).countP (hasT M) ∧ Below w3.heap.size w3 wr)) (fun _ i _ => L.length - (intOf i).toNat)
    case atStart => exact ⟨0, 0, rfl, Nat.zero_le _, by simp, Nat.le_refl _, rfl, Below.refl _ _⟩
    case round =>
      obtain ⟨k, q, rfl, hk, rfl, hqk, hH⟩ := hrel
      by_cases hlt : k < L.length
      · have b1 : (k : Int) < (L.length : Int) := by omega
        obtain ⟨go, cap, gr, cr, hv, hc, hrd⟩ := (HPD.out.keep hH.out.2).row2 hlt
        injection hv with hv1 hv2 hv3
        subst hv1
        clear hv2 hv3
        have hs := cnt_snoc L k hlt M
        rw [← hH.out.1] at hs
        have hcall := l1Has_any [(L.getD k (0, 0)).1, (L.getD k (0, 0)).2] _ cr M wr (by simp) hrd
        have hh : ([(L.getD k (0, 0)).1, (L.getD k (0, 0)).2].any fun y => decide (y = (M : Int))) = hasT M (L.getD k (0, 0)) := by simp [hasT]
        rw [hh] at hcall
        simp only [List.length_cons, List.length_nil, Nat.zero_add, Nat.reduceAdd] at hcall
        have HC := Lib.hid hcall
        have HS := Lib.hid hs
        have HB4 := Lib.hid (HB3.out.keep hH.out.2)
        have HX := Lib.hid hH.out.2
        clear hcall hs hh hrd hH
        have hqw : (q : Int) * wn = 2 * q ∨ (q : Int) * wn = 3 * q := by
          rcases (show wn = 2 ∨ wn = 3 by omega) with h | h
          · left; rw [h]; omega
          · right; rw [h]; omega
        obtain ⟨z, hz⟩ : ∃ z : Int, z = (q : Int) * wn := ⟨_, rfl⟩
        rw [← hz] at hqw ⊢
        have HZ := Lib.hid hz; clear hz
        cases ht : hasT M (L.getD k (0, 0))
        · rw [ht] at HC HS
          clear ht
          go_wp2_with fail
          refine HC.out.mono ?_; rintro e w5 ⟨rfl, b5⟩
          have HY := Lib.hid (HX.out.trans (b5.mono HX.out.size)); clear b5
          go_wp2_with fail
          go_roundw
          case rel => exact ⟨k + 1, q, by go_num, by omega, by rw [HZ.out], by omega, Lib.hid ⟨by rw [HS.out]; simp, HY.out⟩⟩
          case measure => simp [intOf]; omega
        · rw [ht] at HC HS
          clear ht
          go_wp2_with fail
          refine HC.out.mono ?_; rintro e w5 ⟨rfl, b5⟩
          have HY := Lib.hid (And.intro (HX.out.trans (b5.mono HX.out.size)) (HB4.out.keep b5)); clear b5
          obtain ⟨p0, p1, p2, -⟩ := HY.out.2.full
          have hz2 : P + z + wn = P + ((q + 1 : Nat) : Int) * wn := by rw [HZ.out]; push_cast; rw [Int.add_mul, Int.one_mul]; omega
          have HZ2 := Lib.hid hz2; clear hz2
          go_wp2_with fail
          go_roundw
          case rel => exact ⟨k + 1, q + 1, by go_num, by omega, by first | (rw [← HZ2.out]; done) | (rw [← HZ2.out]; go_num), by omega, Lib.hid ⟨by rw [HS.out]; simp, HY.out.1⟩⟩
          case measure => simp [intOf]; omega
      · obtain rfl : k = L.length := by omega
        have hh := hH.out
        rw [List.take_length] at hh
        have HH := Lib.hid (And.intro hh.1 (HB3.out.2.trans (hh.2.mono HB3.out.2.size))); clear hh hH
        go_wp2_with fail
        refine bodyPost_ret (v := .tuple #[.int .i64 (P + (q : Int) * wn), .bool true]) (by simp [results, Try.results44, go_sem]) rfl ⟨by rw [HH.out.1, HPQ.out, HLL.out], HH.out.2⟩
end Go.Proofs.Ytpfphjfpaoiicaa
