/-
  Leagues: a team's game: won, lost, its points; how many games are won, drawn and lost (the program's).
-/
import Derived.Test.YthbkclgdoopbpaaLgTeam
namespace Go.Proofs.Ythbkclgdoopbpaa
open Go.RowKit
set_option linter.unusedVariables false
set_option linter.unusedSimpArgs false

set_option maxHeartbeats 400000 in
theorem isWon_any (o g a : Int) (w : World) :
    Calls Try.prog 89 #[.agg #[.int .i64 o, .int .i64 g, .int .i64 a]] w fun e w' => e = .returned (.bool (decide (a < g))) ∧ Below w.heap.size w w' := by
  have HB := Lib.hid (Below.ofNew (w := w) (.cells #[.int .i64 o, .int .i64 g, .int .i64 a] 112))
  go_enter Try.func89, Try.ntmps89
  go_wp2
  go_ret
  exact ⟨rfl, HB.out⟩
set_option maxHeartbeats 400000 in
theorem isLost_any (o g a : Int) (w : World) :
    Calls Try.prog 90 #[.agg #[.int .i64 o, .int .i64 g, .int .i64 a]] w fun e w' => e = .returned (.bool (decide (g < a))) ∧ Below w.heap.size w w' := by
  have HB := Lib.hid (Below.ofNew (w := w) (.cells #[.int .i64 o, .int .i64 g, .int .i64 a] 112))
  go_enter Try.func90, Try.ntmps90
  go_wp2
  go_ret
  exact ⟨rfl, HB.out⟩
set_option maxHeartbeats 800000 in
theorem points_any (o g a wn : Int) (w : World) :
    Calls Try.prog 77 #[.agg #[.int .i64 o, .int .i64 g, .int .i64 a], .int .i64 wn] w fun e w' => e = .returned (.int .i64 (ptsG wn (o, g, a))) ∧ Below w.heap.size w w' := by
  have HB := Lib.hid (Below.ofNew (w := w) (.cells #[.int .i64 o, .int .i64 g, .int .i64 a] 112))
  have HA := Lib.hid (ObAt.new w 112 #[.int .i64 o, .int .i64 g, .int .i64 a])
  have hp : ptsG wn (o, g, a) = if a < g then wn else if g < a then 0 else 1 := rfl
  rw [hp]; clear hp
  by_cases e1 : a < g
  · rw [if_pos e1]
    have q1 := decide_eq_true e1; clear e1
    go_enter Try.func77, Try.ntmps77
    go_wp2_with fail
    refine (isWon_any _ _ _ _).mono ?_; rintro e w1 ⟨rfl, b1⟩
    rw [q1]
    have HB1 := Lib.hid (HB.out.trans (b1.mono HB.out.size)); clear b1 q1
    go_wp2_with fail
    go_ret
    exact ⟨rfl, HB1.out⟩
  · rw [if_neg e1]
    have q1 := decide_eq_false e1; clear e1
    by_cases e2 : g < a
    all_goals
      first
        | rw [if_pos e2]; have q2 := decide_eq_true e2
        | rw [if_neg e2]; have q2 := decide_eq_false e2
      clear e2
      go_enter Try.func77, Try.ntmps77
      go_wp2_with fail
      refine (isWon_any _ _ _ _).mono ?_; rintro e w1 ⟨rfl, b1⟩
      rw [q1]
      have HB1 := Lib.hid (And.intro (HA.out.keep b1) (HB.out.trans (b1.mono HB.out.size))); clear b1 q1
      obtain ⟨p0, p1, p2, -, -, -⟩ := HB1.out.1.three
      go_wp2_with fail
      refine (isLost_any _ _ _ _).mono ?_; rintro e w2 ⟨rfl, b2⟩
      rw [q2]
      have HB2 := Lib.hid (HB1.out.2.trans (b2.mono HB1.out.2.size)); clear b2 q2
      go_wp2_with fail
      go_ret
      exact ⟨rfl, HB2.out⟩

theorem gtake_snoc (gs : List Gm) (k : Nat) (h : k < gs.length) : gs.take (k + 1) = gs.take k ++ [gs.getD k zG] := take_snoc zG gs k h

/-- What the counts are behind so many games. -/
def WdlAt (gs : List Gm) (k : Nat) (a b c : Int) : Prop := a = wonL (gs.take k) ∧ b = drawL (gs.take k) ∧ c = lostL (gs.take k)
theorem WdlAt.bd {gs : List Gm} {k : Nat} {a b c : Int} (h : WdlAt gs k a b c) : (0 ≤ a ∧ a ≤ k) ∧ (0 ≤ b ∧ b ≤ k) ∧ (0 ≤ c ∧ c ≤ k) := by
  obtain ⟨rfl, rfl, rfl⟩ := h
  have h1 := wonL_bd (gs.take k)
  have h2 := drawL_bd (gs.take k)
  have h3 := lostL_bd (gs.take k)
  rw [List.length_take] at h1 h2 h3
  omega
theorem WdlAt.won {gs : List Gm} {k : Nat} {a b c : Int} (h : WdlAt gs k a b c) (hk : k < gs.length) (e : (gs.getD k zG).2.2 < (gs.getD k zG).2.1) : WdlAt gs (k + 1) (a + 1) b c := by
  obtain ⟨rfl, rfl, rfl⟩ := h
  unfold WdlAt
  rw [gtake_snoc gs k hk, wonL_snoc, drawL_snoc, lostL_snoc, if_pos e, if_neg (by omega), if_neg (by omega)]
  omega
theorem WdlAt.lost {gs : List Gm} {k : Nat} {a b c : Int} (h : WdlAt gs k a b c) (hk : k < gs.length) (e : (gs.getD k zG).2.1 < (gs.getD k zG).2.2) : WdlAt gs (k + 1) a b (c + 1) := by
  obtain ⟨rfl, rfl, rfl⟩ := h
  unfold WdlAt
  rw [gtake_snoc gs k hk, wonL_snoc, drawL_snoc, lostL_snoc, if_neg (by omega), if_neg (by omega), if_pos e]
  omega
theorem WdlAt.draw {gs : List Gm} {k : Nat} {a b c : Int} (h : WdlAt gs k a b c) (hk : k < gs.length) (e : (gs.getD k zG).2.1 = (gs.getD k zG).2.2) : WdlAt gs (k + 1) a (b + 1) c := by
  obtain ⟨rfl, rfl, rfl⟩ := h
  unfold WdlAt
  rw [gtake_snoc gs k hk, wonL_snoc, drawL_snoc, lostL_snoc, if_neg (by omega), if_pos e, if_neg (by omega)]
  omega

end Go.Proofs.Ythbkclgdoopbpaa
