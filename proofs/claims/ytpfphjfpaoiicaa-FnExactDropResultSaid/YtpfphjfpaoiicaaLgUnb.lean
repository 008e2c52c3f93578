/-
  Leagues: the longest time without a loss: both sides.
-/
import Derived.Test.YtpfphjfpaoiicaaLgWdl
namespace Go.Proofs.Ytpfphjfpaoiicaa
open Go.RowKit
set_option linter.unusedVariables false
set_option linter.unusedSimpArgs false

/-- The longest run and the run under way, behind these games. -/
def UnbG (gs : List Gm) (a b : Int) : Prop := a = (unbL gs).1 ∧ b = (unbL gs).2
theorem UnbG.lost {gs : List Gm} {a b : Int} (h : UnbG gs a b) (g : Gm) (e : g.2.1 < g.2.2) : UnbG (gs ++ [g]) a 0 := by
  obtain ⟨rfl, rfl⟩ := h
  have := unbL_bd gs
  unfold UnbG
  rw [unbL_snoc]; unfold unbS; simp only [if_pos e]
  refine ⟨?_, trivial⟩
  omega
theorem UnbG.on {gs : List Gm} {a b : Int} (h : UnbG gs a b) (g : Gm) (e : ¬ g.2.1 < g.2.2) : UnbG (gs ++ [g]) (max a (b + 1)) (b + 1) := by
  obtain ⟨rfl, rfl⟩ := h
  unfold UnbG
  rw [unbL_snoc]; unfold unbS; simp only [if_neg e]
  exact ⟨trivial, trivial⟩
theorem UnbG.bd {gs : List Gm} {a b : Int} (h : UnbG gs a b) : (0 ≤ a ∧ a ≤ gs.length) ∧ (0 ≤ b ∧ b ≤ gs.length) := by
  obtain ⟨rfl, rfl⟩ := h
  have := unbL_bd gs
  omega
set_option maxHeartbeats 400000 in
theorem l1Most_any (a b : Int) (w : World) : Calls Try.prog 95 #[.int .i64 a, .int .i64 b] w fun e w' => e = .returned (.int .i64 (max a b)) ∧ w' = w := by
  by_cases h : b < a
  all_goals
    go_enter Try.func95, Try.ntmps95
    go_wp2
    go_ret
    exact ⟨ret_int (by omega), rfl⟩

set_option maxHeartbeats 3200000 in
set_option maxRecDepth 100000 in
theorem implUnb_any (t wn : Int) (l : List Rs) (ad : Option Addr) (c : Nat) (team : Int) (w : World) (hl : (l.length : Int) ≤ 1000000000000) (hlc : l.length ≤ c) (hr : Reads w ad (ress l)) :
    Calls Try.prog 53 #[.agg #[.int .i64 t, .int .i64 wn, .slice ad l.length c], .int .i64 team] w fun e w' => e = .returned (.tuple #[.int .i64 (if teamL t wn l team then (unbL (gamesL l team)).1 else 0), .bool (teamL t wn l team)]) ∧ Below w.heap.size w w' := by
  have HB0 := Lib.hid (Below.ofNew (w := w) (.cells #[.int .i64 t, .int .i64 wn, .slice ad l.length c] 29))
  have HA := Lib.hid (ObAt.new w 29 #[.int .i64 t, .int .i64 wn, .slice ad l.length c])
  have HG := Lib.hid (isTeamOf_any t wn l ad c team _ hl hlc (hr.old HB0.out))
  have HR := Lib.hid hr; clear hr
  cases hg : teamL t wn l team
  · rw [hg] at HG; clear hg
    simp only [Bool.false_eq_true, if_false]
    go_enter Try.func53, Try.ntmps53
    go_wp2_with fail
    refine HG.out.mono ?_; rintro e w1 ⟨rfl, b1⟩
    have HB1 := Lib.hid (HB0.out.trans (b1.mono HB0.out.size)); clear b1
    go_wp2_with fail
    refine bodyPost_ret (v := .tuple #[.int .i64 0, .bool false]) (by simp [results, Try.results53, go_sem]) rfl ⟨rfl, HB1.out⟩
  · obtain ⟨hgd, -, -⟩ := teamL_good hg
    obtain ⟨-, -, -, -, h56⟩ := goodL_bd hgd
    rw [hg] at HG; clear hg hgd
    simp only [if_true]
    go_enter Try.func53, Try.ntmps53
    go_wp2_with fail
    refine HG.out.mono ?_; rintro e w1 ⟨rfl, b1⟩
    have hB1 := HB0.out.trans (b1.mono HB0.out.size)
    have HB1 := Lib.hid (And.intro (HA.out.keep b1) hB1); clear b1 hB1
    have HGM := Lib.hid (gamesOfTeam_any t wn l ad c team w1 (by omega) (HR.out.old HB1.out.2))
    obtain ⟨p0, p1, p2, -, -, -⟩ := HB1.out.1.three
    go_wp2_with fail
    refine HGM.out.mono ?_; rintro e w2 ⟨v, rfl, hown, b2⟩
    obtain ⟨a2, c2, rfl, hrd, -, -, -⟩ := Reads.own hown
    have HB2 := Lib.hid (HB1.out.2.trans (b2.mono HB1.out.2.size))
    have HRD := Lib.hid hrd
    have hgl := gamesL_len l team
    clear hown b2 hrd p0 p1 p2 HGM HB1 HG HA HB0 HR
    generalize hgs : gamesL l team = gs at *
    have HGS := Lib.hid hgs; clear hgs
    go_wp2_with fail
    go_loopw [6, 7, 18] (fun a b i wr => ∃ (k : Nat) (x y : Int), i = .int .i64 k ∧ k ≤ gs.length ∧ a = .int .i64 x ∧ b = .int .i64 y ∧ Hid (UnbG (gs.take k) x y ∧ Below w2.heap.size w2 wr)) (fun _ _ i _ => gs.length - (intOf i).toNat)
    case atStart => exact ⟨0, 0, 0, rfl, Nat.zero_le _, rfl, rfl, ⟨rfl, rfl⟩, Below.refl _ _⟩
    case round =>
      obtain ⟨k, x, y, rfl, hk, rfl, rfl, hH⟩ := hrel
      by_cases hlt : k < gs.length
      · have b1 : (k : Int) < (gs.length : Int) := by omega
        obtain ⟨b, off, ha, _, hc⟩ := gcells_of_reads (HRD.out.old hH.out.2) (by omega)
        subst ha
        obtain ⟨c0, c1, c2'⟩ := hc k hlt
        clear hc
        obtain ⟨bx, by'⟩ := hH.out.1.bd
        rw [List.length_take] at bx by'
        have hlo := hH.out.1.lost (gs.getD k zG)
        have hd := hH.out.1.on (gs.getD k zG)
        rw [← gtake_snoc gs k hlt] at hlo hd
        have HS := Lib.hid (And.intro hlo hd); clear hlo hd
        generalize gs.getD k zG = g at *
        obtain ⟨o, p, q⟩ := g
        simp only at c0 c1 c2' HS
        have HO : Hid (Below w2.heap.size w2 (wr.alloc (.cells #[.int .i64 o, .int .i64 p, .int .i64 q] 85))) := hH.out.2.alloc hH.out.2.size _
        clear hH
        by_cases e1 : p < q
        · have HS2 := Lib.hid (HS.out.1 e1)
          have q1 := decide_eq_true e1; clear e1 HS
          have m0 : max x 0 = x := by omega
          by_cases m1 : 0 < x
          · go_wp2_with fail
            refine (isLost_any _ _ _ _).mono ?_; rintro e w3 ⟨rfl, b3⟩
            rw [q1]
            have HB3 := Lib.hid (HO.out.trans (b3.mono HO.out.size)); clear b3 q1 HO
            go_wp2_with fail
            go_roundw
            case rel => exact ⟨k + 1, x, 0, by go_num, by omega, by first | rfl | (congr 1; omega), rfl, HS2.out, HB3.out⟩
            case measure => simp [intOf]; omega
          · obtain rfl : x = 0 := by omega
            go_wp2_with fail
            refine (isLost_any _ _ _ _).mono ?_; rintro e w3 ⟨rfl, b3⟩
            rw [q1]
            have HB3 := Lib.hid (HO.out.trans (b3.mono HO.out.size)); clear b3 q1 HO
            go_wp2_with fail
            go_roundw
            case rel => exact ⟨k + 1, 0, 0, by go_num, by omega, rfl, rfl, HS2.out, HB3.out⟩
            case measure => simp [intOf]; omega
        · have HS2 := Lib.hid (HS.out.2 e1)
          have q1 := decide_eq_false e1; clear e1 HS
          by_cases m1 : y + 1 < x
          all_goals
            go_wp2_with fail
            refine (isLost_any _ _ _ _).mono ?_; rintro e w3 ⟨rfl, b3⟩
            rw [q1]
            have HB3 := Lib.hid (HO.out.trans (b3.mono HO.out.size)); clear b3 q1 HO
            go_wp2_with fail
            go_roundw
            case rel => exact ⟨k + 1, max x (y + 1), y + 1, by go_num, by omega, by first | rfl | (congr 1; omega), by go_num, HS2.out, HB3.out⟩
            case measure => simp [intOf]; omega
      · obtain rfl : k = gs.length := by omega
        obtain ⟨⟨hx, hy⟩, hb⟩ := hH.out
        rw [List.take_length] at hx hy
        have HX := Lib.hid (And.intro hx (HB2.out.trans (hb.mono HB2.out.size))); clear hx hy hb hH
        go_wp2_with fail
        refine bodyPost_ret (v := .tuple #[.int .i64 x, .bool true]) (by simp [results, Try.results53, go_sem]) rfl ⟨?_, HX.out.2⟩
        rw [HX.out.1, HGS.out]

set_option maxHeartbeats 3200000 in
set_option maxRecDepth 100000 in
theorem specUnb_any (t wn : Int) (l : List Rs) (ad : Option Addr) (c : Nat) (team : Int) (w : World) (hl : (l.length : Int) ≤ 1000000000000) (hlc : l.length ≤ c) (hr : Reads w ad (ress l)) :
    Calls Try.prog 52 #[.agg #[.int .i64 t, .int .i64 wn, .slice ad l.length c], .int .i64 team] w fun e w' => e = .returned (.tuple #[.int .i64 (if teamL t wn l team then (unbL (gamesL l team)).1 else 0), .bool (teamL t wn l team)]) ∧ Below w.heap.size w w' := by
  have HB0 := Lib.hid (Below.ofNew (w := w) (.cells #[.int .i64 t, .int .i64 wn, .slice ad l.length c] 29))
  have HA := Lib.hid (ObAt.new w 29 #[.int .i64 t, .int .i64 wn, .slice ad l.length c])
  have HG := Lib.hid (lgTeam_any t wn l ad c team _ hl hlc (hr.old HB0.out))
  have HR := Lib.hid hr; clear hr
  cases hg : teamL t wn l team
  · rw [hg] at HG; clear hg
    simp only [Bool.false_eq_true, if_false]
    go_enter Try.func52, Try.ntmps52
    go_wp2_with fail
    refine HG.out.mono ?_; rintro e w1 ⟨rfl, b1⟩
    have HB1 := Lib.hid (HB0.out.trans (b1.mono HB0.out.size)); clear b1
    go_wp2_with fail
    refine bodyPost_ret (v := .tuple #[.int .i64 0, .bool false]) (by simp [results, Try.results52, go_sem]) rfl ⟨rfl, HB1.out⟩
  · obtain ⟨hgd, -, -⟩ := teamL_good hg
    obtain ⟨-, -, -, -, h56⟩ := goodL_bd hgd
    have HGD := Lib.hid (goodL_get hgd)
    rw [hg] at HG; clear hg hgd
    simp only [if_true]
    go_enter Try.func52, Try.ntmps52
    go_wp2_with fail
    refine HG.out.mono ?_; rintro e w1 ⟨rfl, b1⟩
    have hB1 := HB0.out.trans (b1.mono HB0.out.size)
    have HB1 := Lib.hid (And.intro (HA.out.keep b1) hB1); clear b1 hB1 HG HA HB0
    obtain ⟨p0, p1, p2, -, -, -⟩ := HB1.out.1.three
    go_wp2_with fail
    go_loopw [6, 7, 19] (fun a b i wr => ∃ (k : Nat) (x y : Int), i = .int .i64 k ∧ k ≤ l.length ∧ a = .int .i64 x ∧ b = .int .i64 y ∧ Hid (UnbG (gamesL (l.take k) team) x y ∧ Below w.heap.size w wr)) (fun _ _ i _ => l.length - (intOf i).toNat)
    case atStart => exact ⟨0, 0, 0, rfl, Nat.zero_le _, rfl, rfl, ⟨rfl, rfl⟩, HB1.out.2⟩
    case round =>
      clear p0 p1 p2 HB1
      obtain ⟨k, x, y, rfl, hk, rfl, rfl, hH⟩ := hrel
      by_cases hlt : k < l.length
      · have b1 : (k : Int) < (l.length : Int) := by omega
        obtain ⟨b, off, ha, _, hc⟩ := rcells_of_reads (HR.out.old hH.out.2) (by omega)
        subst ha
        obtain ⟨c0, c1, c2, c3⟩ := hc k hlt
        clear hc
        have hsn := gamesL_snoc l team k hlt
        have hgl := gamesL_take_len l team k
        obtain ⟨-, -, -, g1, g2⟩ := goodR_bd (HGD.out k hlt)
        have HSN := Lib.hid hsn; clear hsn
        generalize l.getD k zR = r at *
        obtain ⟨r1, r2, r3, r4⟩ := r
        simp only at c0 c1 c2 c3 g1 g2
        obtain ⟨bx, by'⟩ := hH.out.1.bd
        have hB := hH.out.2.alloc hH.out.2.size (.cells #[.int .i64 r1, .int .i64 r2, .int .i64 r3, .int .i64 r4] 64)
        have HC := Lib.hid (And.intro hB (lgMore_any r1 r2 r3 r4 team g1 g2 (wr.alloc (.cells #[.int .i64 r1, .int .i64 r2, .int .i64 r3, .int .i64 r4] 64)))); clear hB
        have HW := Lib.hid hH.out.1; clear hH
        have hmb : -20 ≤ moreV (ownG team (r1, r2, r3, r4)) ∧ moreV (ownG team (r1, r2, r3, r4)) ≤ 20 := by
          unfold ownG; simp only; split
          · simp only [moreV]; omega
          · split
            · simp only [moreV]; omega
            · simp only [moreV]; omega
        cases ho : ownG team (r1, r2, r3, r4) with
        | none =>
          rw [ho] at HC HSN
          simp only [moreV, Option.isSome, Option.toList, List.append_nil] at HC HSN
          clear hmb ho
          go_wp2_with fail
          refine HC.out.2.mono ?_; rintro e w3 ⟨rfl, b3⟩
          have HB3 := Lib.hid (HC.out.1.trans (b3.mono HC.out.1.size)); clear b3 HC
          go_wp2_with fail
          go_roundw
          case rel => exact ⟨k + 1, x, y, by go_num, by omega, rfl, rfl, by rw [HSN.out]; exact HW.out, HB3.out⟩
          case measure => simp [intOf]; omega
        | some g =>
          rw [ho] at HC HSN hmb
          simp only [moreV, Option.isSome, Option.toList] at HC HSN hmb
          clear ho
          have HWN := Lib.hid (And.intro (HW.out.lost g) (HW.out.on g))
          rw [← HSN.out] at HWN
          clear HW HSN
          obtain ⟨m, hm⟩ : ∃ m, m = g.2.1 - g.2.2 := ⟨_, rfl⟩
          rw [← hm] at HC hmb
          by_cases e1 : m < 0
          · have HS2 := Lib.hid (HWN.out.1 (by omega)); clear HWN hm
            have m0 : max x 0 = x := by omega
            have HM := Lib.hid m0; clear m0
            go_wp2_with fail
            refine HC.out.2.mono ?_; rintro e w3 ⟨rfl, b3⟩
            have HB3 := Lib.hid (HC.out.1.trans (b3.mono HC.out.1.size)); clear b3 HC
            go_wp2_with fail
            refine (l1Most_any _ _ _).mono ?_; rintro e w4 ⟨rfl, rfl⟩
            rw [HM.out]
            go_wp2_with fail
            go_roundw
            case rel => exact ⟨k + 1, x, 0, by go_num, by omega, rfl, rfl, HS2.out, HB3.out⟩
            case measure => simp [intOf]; omega
          · have HS2 := Lib.hid (HWN.out.2 (by omega)); clear HWN hm
            go_wp2_with fail
            refine HC.out.2.mono ?_; rintro e w3 ⟨rfl, b3⟩
            have HB3 := Lib.hid (HC.out.1.trans (b3.mono HC.out.1.size)); clear b3 HC
            go_wp2_with fail
            refine (l1Most_any _ _ _).mono ?_; rintro e w4 ⟨rfl, rfl⟩
            go_wp2_with fail
            go_roundw
            case rel => exact ⟨k + 1, max x (y + 1), y + 1, by go_num, by omega, rfl, by go_num, HS2.out, HB3.out⟩
            case measure => simp [intOf]; omega
      · obtain rfl : k = l.length := by omega
        obtain ⟨⟨hx, hy⟩, hb⟩ := hH.out
        rw [List.take_length] at hx hy
        have HX := Lib.hid (And.intro hx hb); clear hx hy hb hH
        go_wp2_with fail
        refine bodyPost_ret (v := .tuple #[.int .i64 x, .bool true]) (by simp [results, Try.results52, go_sem]) rfl ⟨?_, HX.out.2⟩
        rw [HX.out.1]
end Go.Proofs.Ytpfphjfpaoiicaa
