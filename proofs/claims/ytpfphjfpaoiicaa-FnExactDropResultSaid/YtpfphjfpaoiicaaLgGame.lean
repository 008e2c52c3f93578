/-
  Leagues: a team's game: won, lost, its points; how many games are won, drawn and lost (the program's).
-/
import Derived.Test.YtpfphjfpaoiicaaLgTeam
namespace Go.Proofs.Ytpfphjfpaoiicaa
open Go.RowKit
set_option linter.unusedVariables false
set_option linter.unusedSimpArgs false

set_option maxHeartbeats 400000 in
theorem isWon_any (o g a : Int) (w : World) :
    Calls Try.prog 83 #[.agg #[.int .i64 o, .int .i64 g, .int .i64 a]] w fun e w' => e = .returned (.bool (decide (a < g))) ∧ Below w.heap.size w w' := by
  have HB := Lib.hid (Below.ofNew (w := w) (.cells #[.int .i64 o, .int .i64 g, .int .i64 a] 85))
  go_enter Try.func83, Try.ntmps83
  go_wp2
  go_ret
  exact ⟨rfl, HB.out⟩
set_option maxHeartbeats 400000 in
theorem isLost_any (o g a : Int) (w : World) :
    Calls Try.prog 84 #[.agg #[.int .i64 o, .int .i64 g, .int .i64 a]] w fun e w' => e = .returned (.bool (decide (g < a))) ∧ Below w.heap.size w w' := by
  have HB := Lib.hid (Below.ofNew (w := w) (.cells #[.int .i64 o, .int .i64 g, .int .i64 a] 85))
  go_enter Try.func84, Try.ntmps84
  go_wp2
  go_ret
  exact ⟨rfl, HB.out⟩
set_option maxHeartbeats 800000 in
theorem points_any (o g a wn : Int) (w : World) :
    Calls Try.prog 110 #[.agg #[.int .i64 o, .int .i64 g, .int .i64 a], .int .i64 wn] w fun e w' => e = .returned (.int .i64 (ptsG wn (o, g, a))) ∧ Below w.heap.size w w' := by
  have HB := Lib.hid (Below.ofNew (w := w) (.cells #[.int .i64 o, .int .i64 g, .int .i64 a] 85))
  have HA := Lib.hid (ObAt.new w 85 #[.int .i64 o, .int .i64 g, .int .i64 a])
  have hp : ptsG wn (o, g, a) = if a < g then wn else if g < a then 0 else 1 := rfl
  rw [hp]; clear hp
  by_cases e1 : a < g
  · rw [if_pos e1]
    have q1 := decide_eq_true e1; clear e1
    go_enter Try.func110, Try.ntmps110
    go_wp2_with fail
    refine (isWon_any _ _ _ _).mono ?_; rintro e w1 ⟨rfl, b1⟩
    rw [q1]
    have HB1 := Lib.hid (HB.out.trans (b1.mono HB.out.size)); clear b1 q1
    go_wp2_with fail
    go_ret
    exact ⟨rfl, HB1.out⟩
  · rw [if_neg e1]
    have q1 := decide_eq_false e1; clear e1
    by_cases e2 : g < a
    all_goals
      first
        | rw [if_pos e2]; have q2 := decide_eq_true e2
        | rw [if_neg e2]; have q2 := decide_eq_false e2
      clear e2
      go_enter Try.func110, Try.ntmps110
      go_wp2_with fail
      refine (isWon_any _ _ _ _).mono ?_; rintro e w1 ⟨rfl, b1⟩
      rw [q1]
      have HB1 := Lib.hid (And.intro (HA.out.keep b1) (HB.out.trans (b1.mono HB.out.size))); clear b1 q1
      obtain ⟨p0, p1, p2, -, -, -⟩ := HB1.out.1.three
      go_wp2_with fail
      refine (isLost_any _ _ _ _).mono ?_; rintro e w2 ⟨rfl, b2⟩
      rw [q2]
      have HB2 := Lib.hid (HB1.out.2.trans (b2.mono HB1.out.2.size)); clear b2 q2
      go_wp2_with fail
      go_ret
      exact ⟨rfl, HB2.out⟩

theorem gtake_snoc (gs : List Gm) (k : Nat) (h : k < gs.length) : gs.take (k + 1) = gs.take k ++ [gs.getD k zG] := take_snoc zG gs k h

/-- What the counts are behind so many games. -/
def WdlAt (gs : List Gm) (k : Nat) (a b c : Int) : Prop := a = wonL (gs.take k) ∧ b = drawL (gs.take k) ∧ c = lostL (gs.take k)
theorem WdlAt.bd {gs : List Gm} {k : Nat} {a b c : Int} (h : WdlAt gs k a b c) : (0 ≤ a ∧ a ≤ k) ∧ (0 ≤ b ∧ b ≤ k) ∧ (0 ≤ c ∧ c ≤ k) := by
  obtain ⟨rfl, rfl, rfl⟩ := h
  have h1 := wonL_bd (gs.take k)
  have h2 := drawL_bd (gs.take k)
  have h3 := lostL_bd (gs.take k)
  rw [List.length_take] at h1 h2 h3
  omega
theorem WdlAt.won {gs : List Gm} {k : Nat} {a b c : Int} (h : WdlAt gs k a b c) (hk : k < gs.length) (e : (gs.getD k zG).2.2 < (gs.getD k zG).2.1) : WdlAt gs (k + 1) (a + 1) b c := by
  obtain ⟨rfl, rfl, rfl⟩ := h
  unfold WdlAt
  rw [gtake_snoc gs k hk, wonL_snoc, drawL_snoc, lostL_snoc, if_pos e, if_neg (by omega), if_neg (by omega)]
  omega
theorem WdlAt.lost {gs : List Gm} {k : Nat} {a b c : Int} (h : WdlAt gs k a b c) (hk : k < gs.length) (e : (gs.getD k zG).2.1 < (gs.getD k zG).2.2) : WdlAt gs (k + 1) a b (c + 1) := by
  obtain ⟨rfl, rfl, rfl⟩ := h
  unfold WdlAt
  rw [gtake_snoc gs k hk, wonL_snoc, drawL_snoc, lostL_snoc, if_neg (by omega), if_neg (by omega), if_pos e]
  omega
theorem WdlAt.draw {gs : List Gm} {k : Nat} {a b c : Int} (h : WdlAt gs k a b c) (hk : k < gs.length) (e : (gs.getD k zG).2.1 = (gs.getD k zG).2.2) : WdlAt gs (k + 1) a (b + 1) c := by
  obtain ⟨rfl, rfl, rfl⟩ := h
  unfold WdlAt
  rw [gtake_snoc gs k hk, wonL_snoc, drawL_snoc, lostL_snoc, if_neg (by omega), if_pos e, if_neg (by omega)]
  omega

set_option maxHeartbeats 3200000 in
set_option maxRecDepth 100000 in
theorem implWDL_any (t wn : Int) (l : List Rs) (ad : Option Addr) (c : Nat) (team : Int) (w : World) (hl : (l.length : Int) ≤ 1000000000000) (hlc : l.length ≤ c) (hr : Reads w ad (ress l)) :
    Calls Try.prog 37 #[.agg #[.int .i64 t, .int .i64 wn, .slice ad l.length c], .int .i64 team] w fun e w' => e = .returned (.tuple #[.int .i64 (if teamL t wn l team then wonL (gamesL l team) else 0), .int .i64 (if teamL t wn l team then drawL (gamesL l team) else 0), .int .i64 (if teamL t wn l team then lostL (gamesL l team) else 0), .bool (teamL t wn l team)]) ∧ Below w.heap.size w w' := by
  have HB0 := Lib.hid (Below.ofNew (w := w) (.cells #[.int .i64 t, .int .i64 wn, .slice ad l.length c] 29))
  have HA := Lib.hid (ObAt.new w 29 #[.int .i64 t, .int .i64 wn, .slice ad l.length c])
  have HG := Lib.hid (isTeamOf_any t wn l ad c team _ hl hlc (hr.old HB0.out))
  have HR := Lib.hid hr; clear hr
  cases hg : teamL t wn l team
  · rw [hg] at HG; clear hg
    simp only [Bool.false_eq_true, if_false]
    go_enter Try.func37, Try.ntmps37
    go_wp2_with fail
    refine HG.out.mono ?_; rintro e w1 ⟨rfl, b1⟩
    have HB1 := Lib.hid (HB0.out.trans (b1.mono HB0.out.size)); clear b1
    go_wp2_with fail
    refine bodyPost_ret (v := .tuple #[.int .i64 0, .int .i64 0, .int .i64 0, .bool false]) (by simp [results, Try.results37, go_sem]) rfl ⟨rfl, HB1.out⟩
  · obtain ⟨hgd, -, -⟩ := teamL_good hg
    obtain ⟨-, -, -, -, h56⟩ := goodL_bd hgd
    rw [hg] at HG; clear hg hgd
    simp only [if_true]
    go_enter Try.func37, Try.ntmps37
    go_wp2_with fail
    refine HG.out.mono ?_; rintro e w1 ⟨rfl, b1⟩
    have hB1 := HB0.out.trans (b1.mono HB0.out.size)
    have HB1 := Lib.hid (And.intro (HA.out.keep b1) hB1); clear b1 hB1
    have HGM := Lib.hid (gamesOfTeam_any t wn l ad c team w1 (by omega) (HR.out.old HB1.out.2))
    obtain ⟨p0, p1, p2, -, -, -⟩ := HB1.out.1.three
    go_wp2_with fail
    refine HGM.out.mono ?_; rintro e w2 ⟨v, rfl, hown, b2⟩
    obtain ⟨a2, c2, rfl, hrd, -, -, -⟩ := Reads.own hown
    have HB2 := Lib.hid (HB1.out.2.trans (b2.mono HB1.out.2.size))
    have HRD := Lib.hid hrd
    have hgl := gamesL_len l team
    clear hown b2 hrd p0 p1 p2 HGM HB1 HG HA HB0 HR
    generalize hgs : gamesL l team = gs at *
    have HGS := Lib.hid hgs; clear hgs
    go_wp2_with fail
    go_loopw [8, 9, 10, 21] (fun a b c i wr => ∃ (k : Nat) (x y z : Int), i = .int .i64 k ∧ k ≤ gs.length ∧ a = .int .i64 x ∧ b = .int .i64 y ∧ c = .int .i64 z ∧ Hid (WdlAt gs k x y z ∧ Below w2.heap.size w2 wr)) (fun _ _ _ i _ => gs.length - (intOf i).toNat)
    case atStart => exact ⟨0, 0, 0, 0, rfl, Nat.zero_le _, rfl, rfl, rfl, ⟨rfl, rfl, rfl⟩, Below.refl _ _⟩
    case round =>
      obtain ⟨k, x, y, z, rfl, hk, rfl, rfl, rfl, hH⟩ := hrel
      by_cases hlt : k < gs.length
      · have b1 : (k : Int) < (gs.length : Int) := by omega
        obtain ⟨b, off, ha, _, hc⟩ := gcells_of_reads (HRD.out.old hH.out.2) (by omega)
        subst ha
        obtain ⟨c0, c1, c2'⟩ := hc k hlt
        clear hc
        obtain ⟨bx, by', bz⟩ := hH.out.1.bd
        have hw := hH.out.1.won hlt
        have hlo := hH.out.1.lost hlt
        have hd := hH.out.1.draw hlt
        have HS := Lib.hid (And.intro hw (And.intro hlo hd)); clear hw hlo hd
        generalize gs.getD k zG = g at *
        obtain ⟨o, p, q⟩ := g
        simp only at c0 c1 c2' HS
        have HO : Hid (ObAt (wr.alloc (.cells #[.int .i64 o, .int .i64 p, .int .i64 q] 85)) wr.heap.size 85 #[.int .i64 o, .int .i64 p, .int .i64 q] ∧ Below w2.heap.size w2 (wr.alloc (.cells #[.int .i64 o, .int .i64 p, .int .i64 q] 85))) := ⟨ObAt.new _ _ _, hH.out.2.alloc hH.out.2.size _⟩
        by_cases e1 : q < p
        · have HS2 := Lib.hid (HS.out.1 e1)
          have q1 := decide_eq_true e1; clear e1 HS hH
          go_wp2_with fail
          refine (isWon_any _ _ _ _).mono ?_; rintro e w3 ⟨rfl, b3⟩
          rw [q1]
          have HB3 := Lib.hid (HO.out.2.trans (b3.mono HO.out.2.size)); clear b3 q1 HO
          go_wp2_with fail
          go_roundw
          case rel => exact ⟨k + 1, x + 1, y, z, by go_num, by omega, by go_num, by go_num, by go_num, HS2.out, HB3.out⟩
          case measure => simp [intOf]; omega
        · have q1 := decide_eq_false e1
          by_cases e2 : p < q
          · have HS2 := Lib.hid (HS.out.2.1 e2)
            have q2 := decide_eq_true e2; clear e1 e2 HS hH
            go_wp2_with fail
            refine (isWon_any _ _ _ _).mono ?_; rintro e w3 ⟨rfl, b3⟩
            rw [q1]
            have HB3 := Lib.hid (And.intro (HO.out.1.keep b3) (HO.out.2.trans (b3.mono HO.out.2.size))); clear b3 q1 HO
            obtain ⟨p0, p1, p2, -, -, -⟩ := HB3.out.1.three
            go_wp2_with fail
            refine (isLost_any _ _ _ _).mono ?_; rintro e w4 ⟨rfl, b4⟩
            rw [q2]
            have HB4 := Lib.hid (HB3.out.2.trans (b4.mono HB3.out.2.size)); clear b4 q2
            go_wp2_with fail
            go_roundw
            case rel => exact ⟨k + 1, x, y, z + 1, by go_num, by omega, by go_num, by go_num, by go_num, HS2.out, HB4.out⟩
            case measure => simp [intOf]; omega
          · have HS2 := Lib.hid (HS.out.2.2 (by omega))
            have q2 := decide_eq_false e2; clear e1 e2 HS hH
            go_wp2_with fail
            refine (isWon_any _ _ _ _).mono ?_; rintro e w3 ⟨rfl, b3⟩
            rw [q1]
            have HB3 := Lib.hid (And.intro (HO.out.1.keep b3) (HO.out.2.trans (b3.mono HO.out.2.size))); clear b3 q1 HO
            obtain ⟨p0, p1, p2, -, -, -⟩ := HB3.out.1.three
            go_wp2_with fail
            refine (isLost_any _ _ _ _).mono ?_; rintro e w4 ⟨rfl, b4⟩
            rw [q2]
            have HB4 := Lib.hid (HB3.out.2.trans (b4.mono HB3.out.2.size)); clear b4 q2
            go_wp2_with fail
            go_roundw
            case rel => exact ⟨k + 1, x, y + 1, z, by go_num, by omega, by go_num, by go_num, by go_num, HS2.out, HB4.out⟩
            case measure => simp [intOf]; omega
      · obtain rfl : k = gs.length := by omega
        obtain ⟨⟨hx, hy, hz⟩, hb⟩ := hH.out
        rw [List.take_length] at hx hy hz
        have HX := Lib.hid (And.intro hx (And.intro hy (And.intro hz (HB2.out.trans (hb.mono HB2.out.size))))); clear hx hy hz hb hH
        go_wp2_with fail
        refine bodyPost_ret (v := .tuple #[.int .i64 x, .int .i64 y, .int .i64 z, .bool true]) (by simp [results, Try.results37, go_sem]) rfl ⟨?_, HX.out.2.2.2⟩
        rw [HX.out.1, HX.out.2.1, HX.out.2.2.1, HGS.out]
end Go.Proofs.Ytpfphjfpaoiicaa
