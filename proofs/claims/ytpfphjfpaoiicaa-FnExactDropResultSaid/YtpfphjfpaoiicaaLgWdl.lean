/-
  Leagues: how many games are won, drawn and lost, and the longest time without a loss (the model's).
-/
import Derived.Test.YtpfphjfpaoiicaaLgGame
namespace Go.Proofs.Ytpfphjfpaoiicaa
open Go.RowKit
set_option linter.unusedVariables false
set_option linter.unusedSimpArgs false

def moreV : Option Gm → Int
  | some g => g.2.1 - g.2.2
  | none => 0
set_option maxHeartbeats 800000 in
theorem lgMore_any (x y z u team : Int) (hz : 0 ≤ z ∧ z ≤ 20) (hu : 0 ≤ u ∧ u ≤ 20) (w : World) :
    Calls Try.prog 80 #[.agg #[.int .i64 x, .int .i64 y, .int .i64 z, .int .i64 u], .int .i64 team] w fun e w' => e = .returned (.tuple #[.int .i64 (moreV (ownG team (x, y, z, u))), .bool (ownG team (x, y, z, u)).isSome]) ∧ Below w.heap.size w w' := by
  have HB := Lib.hid (Below.ofNew (w := w) (.cells #[.int .i64 x, .int .i64 y, .int .i64 z, .int .i64 u] 64))
  by_cases e1 : team = x
  · have he : ownG team (x, y, z, u) = some (y, z, u) := by simp [ownG, e1]
    have q1 : (team == x) = true := by simp [e1]
    rw [he]; clear he e1
    go_enter Try.func80, Try.ntmps80
    go_wp2
    refine bodyPost_ret (v := .tuple #[.int .i64 (z - u), .bool true]) (by simp [results, Try.results80, go_sem]) rfl ⟨rfl, HB.out⟩
  · by_cases e2 : team = y
    · have he : ownG team (x, y, z, u) = some (x, u, z) := by unfold ownG; simp only; rw [if_neg e1, if_pos e2]
      have q1 : (team == x) = false := by simp [e1]
      have q2 : (team == y) = true := by simp [e2]
      rw [he]; clear he e1 e2
      go_enter Try.func80, Try.ntmps80
      go_wp2
      refine bodyPost_ret (v := .tuple #[.int .i64 (u - z), .bool true]) (by simp [results, Try.results80, go_sem]) rfl ⟨rfl, HB.out⟩
    · have he : ownG team (x, y, z, u) = none := by unfold ownG; simp only; rw [if_neg e1, if_neg e2]
      have q1 : (team == x) = false := by simp [e1]
      have q2 : (team == y) = false := by simp [e2]
      rw [he]; clear he e1 e2
      go_enter Try.func80, Try.ntmps80
      go_wp2
      refine bodyPost_ret (v := .tuple #[.int .i64 0, .bool false]) (by simp [results, Try.results80, go_sem]) rfl ⟨rfl, HB.out⟩

def WdlG (gs : List Gm) (a b c : Int) : Prop := a = wonL gs ∧ b = drawL gs ∧ c = lostL gs
theorem WdlG.won {gs : List Gm} {a b c : Int} (h : WdlG gs a b c) (g : Gm) (e : g.2.2 < g.2.1) : WdlG (gs ++ [g]) (a + 1) b c := by
  obtain ⟨rfl, rfl, rfl⟩ := h
  unfold WdlG
  rw [wonL_snoc, drawL_snoc, lostL_snoc, if_pos e, if_neg (by omega), if_neg (by omega)]; omega
theorem WdlG.lost {gs : List Gm} {a b c : Int} (h : WdlG gs a b c) (g : Gm) (e : g.2.1 < g.2.2) : WdlG (gs ++ [g]) a b (c + 1) := by
  obtain ⟨rfl, rfl, rfl⟩ := h
  unfold WdlG
  rw [wonL_snoc, drawL_snoc, lostL_snoc, if_neg (by omega), if_neg (by omega), if_pos e]; omega
theorem WdlG.draw {gs : List Gm} {a b c : Int} (h : WdlG gs a b c) (g : Gm) (e : g.2.1 = g.2.2) : WdlG (gs ++ [g]) a (b + 1) c := by
  obtain ⟨rfl, rfl, rfl⟩ := h
  unfold WdlG
  rw [wonL_snoc, drawL_snoc, lostL_snoc, if_neg (by omega), if_pos e, if_neg (by omega)]; omega
theorem WdlG.bd {gs : List Gm} {a b c : Int} (h : WdlG gs a b c) : (0 ≤ a ∧ a ≤ gs.length) ∧ (0 ≤ b ∧ b ≤ gs.length) ∧ (0 ≤ c ∧ c ≤ gs.length) := by
  obtain ⟨rfl, rfl, rfl⟩ := h
  exact ⟨wonL_bd gs, drawL_bd gs, lostL_bd gs⟩

set_option maxHeartbeats 3200000 in
set_option maxRecDepth 100000 in
theorem specWDL_any (t wn : Int) (l : List Rs) (ad : Option Addr) (c : Nat) (team : Int) (w : World) (hl : (l.length : Int) ≤ 1000000000000) (hlc : l.length ≤ c) (hr : Reads w ad (ress l)) :
    Calls Try.prog 36 #[.agg #[.int .i64 t, .int .i64 wn, .slice ad l.length c], .int .i64 team] w fun e w' => e = .returned (.tuple #[.int .i64 (if teamL t wn l team then wonL (gamesL l team) else 0), .int .i64 (if teamL t wn l team then drawL (gamesL l team) else 0), .int .i64 (if teamL t wn l team then lostL (gamesL l team) else 0), .bool (teamL t wn l team)]) ∧ Below w.heap.size w w' := by
  have HB0 := Lib.hid (Below.ofNew (w := w) (.cells #[.int .i64 t, .int .i64 wn, .slice ad l.length c] 29))
  have HA := Lib.hid (ObAt.new w 29 #[.int .i64 t, .int .i64 wn, .slice ad l.length c])
  have HG := Lib.hid (lgTeam_any t wn l ad c team _ hl hlc (hr.old HB0.out))
  have HR := Lib.hid hr; clear hr
  cases hg : teamL t wn l team
  · rw [hg] at HG; clear hg
    simp only [Bool.false_eq_true, if_false]
    go_enter Try.func36, Try.ntmps36
    go_wp2_with fail
    refine HG.out.mono ?_; rintro e w1 ⟨rfl, b1⟩
    have HB1 := Lib.hid (HB0.out.trans (b1.mono HB0.out.size)); clear b1
    go_wp2_with fail
    refine bodyPost_ret (v := .tuple #[.int .i64 0, .int .i64 0, .int .i64 0, .bool false]) (by simp [results, Try.results36, go_sem]) rfl ⟨rfl, HB1.out⟩
  · obtain ⟨hgd, -, -⟩ := teamL_good hg
    obtain ⟨-, -, -, -, h56⟩ := goodL_bd hgd
    have HGD := Lib.hid (goodL_get hgd)
    rw [hg] at HG; clear hg hgd
    simp only [if_true]
    go_enter Try.func36, Try.ntmps36
    go_wp2_with fail
    refine HG.out.mono ?_; rintro e w1 ⟨rfl, b1⟩
    have hB1 := HB0.out.trans (b1.mono HB0.out.size)
    have HB1 := Lib.hid (And.intro (HA.out.keep b1) hB1); clear b1 hB1 HG HA HB0
    obtain ⟨p0, p1, p2, -, -, -⟩ := HB1.out.1.three
    go_wp2_with fail
    go_loopw [8, 9, 10, 22] (fun a b c i wr => ∃ (k : Nat) (x y z : Int), i = .int .i64 k ∧ k ≤ l.length ∧ a = .int .i64 x ∧ b = .int .i64 y ∧ c = .int .i64 z ∧ Hid (WdlG (gamesL (l.take k) team) x y z ∧ Below w.heap.size w wr)) (fun _ _ _ i _ => l.length - (intOf i).toNat)
    case atStart => exact ⟨0, 0, 0, 0, rfl, Nat.zero_le _, rfl, rfl, rfl, ⟨rfl, rfl, rfl⟩, HB1.out.2⟩
    case round =>
      clear p0 p1 p2 HB1
      obtain ⟨k, x, y, z, rfl, hk, rfl, rfl, rfl, hH⟩ := hrel
      by_cases hlt : k < l.length
      · have b1 : (k : Int) < (l.length : Int) := by omega
        obtain ⟨b, off, ha, _, hc⟩ := rcells_of_reads (HR.out.old hH.out.2) (by omega)
        subst ha
        obtain ⟨c0, c1, c2, c3⟩ := hc k hlt
        clear hc
        have hsn := gamesL_snoc l team k hlt
        have hgl := gamesL_take_len l team k
        obtain ⟨-, -, -, g1, g2⟩ := goodR_bd (HGD.out k hlt)
        have HSN := Lib.hid hsn; clear hsn
        generalize l.getD k zR = r at *
        obtain ⟨r1, r2, r3, r4⟩ := r
        simp only at c0 c1 c2 c3 g1 g2
        obtain ⟨bx, by', bz⟩ := hH.out.1.bd
        have hB := hH.out.2.alloc hH.out.2.size (.cells #[.int .i64 r1, .int .i64 r2, .int .i64 r3, .int .i64 r4] 64)
        have HC := Lib.hid (And.intro hB (lgMore_any r1 r2 r3 r4 team g1 g2 (wr.alloc (.cells #[.int .i64 r1, .int .i64 r2, .int .i64 r3, .int .i64 r4] 64)))); clear hB
        have HW := Lib.hid hH.out.1; clear hH
        have hmb : -20 ≤ moreV (ownG team (r1, r2, r3, r4)) ∧ moreV (ownG team (r1, r2, r3, r4)) ≤ 20 := by
          unfold ownG; simp only; split
          · simp only [moreV]; omega
          · split
            · simp only [moreV]; omega
            · simp only [moreV]; omega
        cases ho : ownG team (r1, r2, r3, r4) with
        | none =>
          rw [ho] at HC HSN
          simp only [moreV, Option.isSome, Option.toList, List.append_nil] at HC HSN
          clear hmb ho
          go_wp2_with fail
          refine HC.out.2.mono ?_; rintro e w3 ⟨rfl, b3⟩
          have HB3 := Lib.hid (HC.out.1.trans (b3.mono HC.out.1.size)); clear b3 HC
          go_wp2_with fail
          go_roundw
          case rel => exact ⟨k + 1, x, y, z, by go_num, by omega, rfl, rfl, rfl, by rw [HSN.out]; exact HW.out, HB3.out⟩
          case measure => simp [intOf]; omega
        | some g =>
          rw [ho] at HC HSN hmb
          simp only [moreV, Option.isSome, Option.toList] at HC HSN hmb
          clear ho
          have HWN := Lib.hid (And.intro (HW.out.won g) (And.intro (HW.out.lost g) (HW.out.draw g)))
          rw [← HSN.out] at HWN
          clear HW HSN
          obtain ⟨m, hm⟩ : ∃ m, m = g.2.1 - g.2.2 := ⟨_, rfl⟩
          rw [← hm] at HC hmb
          by_cases e1 : 0 < m
          · have HS2 := Lib.hid (HWN.out.1 (by omega)); clear HWN hm
            go_wp2_with fail
            refine HC.out.2.mono ?_; rintro e w3 ⟨rfl, b3⟩
            have HB3 := Lib.hid (HC.out.1.trans (b3.mono HC.out.1.size)); clear b3 HC
            go_wp2_with fail
            go_roundw
            case rel => exact ⟨k + 1, x + 1, y, z, by go_num, by omega, by go_num, by go_num, by go_num, HS2.out, HB3.out⟩
            case measure => simp [intOf]; omega
          · by_cases e2 : m = 0
            · have HS2 := Lib.hid (HWN.out.2.2 (by omega)); clear HWN hm
              have q2 : (m == 0) = true := by simp [e2]
              clear e2
              go_wp2_with fail
              refine HC.out.2.mono ?_; rintro e w3 ⟨rfl, b3⟩
              have HB3 := Lib.hid (HC.out.1.trans (b3.mono HC.out.1.size)); clear b3 HC
              go_wp2_with fail
              go_roundw
              case rel => exact ⟨k + 1, x, y + 1, z, by go_num, by omega, by go_num, by go_num, by go_num, HS2.out, HB3.out⟩
              case measure => simp [intOf]; omega
            · have HS2 := Lib.hid (HWN.out.2.1 (by omega)); clear HWN hm
              have q2 : (m == 0) = false := by simp [e2]
              clear e2
              go_wp2_with fail
              refine HC.out.2.mono ?_; rintro e w3 ⟨rfl, b3⟩
              have HB3 := Lib.hid (HC.out.1.trans (b3.mono HC.out.1.size)); clear b3 HC
              go_wp2_with fail
              go_roundw
              case rel => exact ⟨k + 1, x, y, z + 1, by go_num, by omega, by go_num, by go_num, by go_num, HS2.out, HB3.out⟩
              case measure => simp [intOf]; omega
      · obtain rfl : k = l.length := by omega
        obtain ⟨⟨hx, hy, hz⟩, hb⟩ := hH.out
        rw [List.take_length] at hx hy hz
        have HX := Lib.hid (And.intro hx (And.intro hy (And.intro hz hb))); clear hx hy hz hb hH
        go_wp2_with fail
        refine bodyPost_ret (v := .tuple #[.int .i64 x, .int .i64 y, .int .i64 z, .bool true]) (by simp [results, Try.results36, go_sem]) rfl ⟨?_, HX.out.2.2.2⟩
        rw [HX.out.1, HX.out.2.1, HX.out.2.2.1]
end Go.Proofs.Ytpfphjfpaoiicaa
