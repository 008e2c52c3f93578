/-
  Leagues: a league and a team of it; the games of a team (the program's).
-/
import Derived.Test.YthbkclgdoopbpaaLgGood
import Derived.OwnWalk
import Derived.Maps.AppendAt
namespace Go.Proofs.Ythbkclgdoopbpaa
open Go.RowKit
set_option linter.unusedVariables false
set_option linter.unusedSimpArgs false

def teamL (t wn : Int) (l : List Rs) (team : Int) : Bool := goodL t wn l && inR team 0 (t - 1)
theorem teamL_good {t wn : Int} {l : List Rs} {team : Int} (h : teamL t wn l team = true) : goodL t wn l = true ∧ 0 ≤ team ∧ team < t := by
  simp only [teamL, Bool.and_eq_true] at h
  obtain ⟨h1, h2⟩ := h
  simp [inR] at h2
  exact ⟨h1, by omega, by omega⟩

set_option maxHeartbeats 800000 in
theorem isTeamOf_any (t wn : Int) (l : List Rs) (ad : Option Addr) (c : Nat) (team : Int) (w : World) (hl : (l.length : Int) ≤ 1000000000000) (hlc : l.length ≤ c) (hr : Reads w ad (ress l)) :
    Calls Try.prog 56 #[.agg #[.int .i64 t, .int .i64 wn, .slice ad l.length c], .int .i64 team] w fun e w' => e = .returned (.bool (teamL t wn l team)) ∧ Below w.heap.size w w' := by
  have HB0 := Lib.hid (Below.ofNew (w := w) (.cells #[.int .i64 t, .int .i64 wn, .slice ad l.length c] 40))
  have HA := Lib.hid (ObAt.new w 40 #[.int .i64 t, .int .i64 wn, .slice ad l.length c])
  have HG := Lib.hid (isLeague_any t wn l ad c _ hl hlc (hr.old HB0.out))
  clear hr
  have hd : teamL t wn l team = (goodL t wn l && inR team 0 (t - 1)) := rfl
  rw [hd]; clear hd
  cases hg : goodL t wn l
  all_goals
    rw [hg] at HG; clear hg
    go_enter Try.func56, Try.ntmps56
    go_wp2_with fail
    refine HG.out.mono ?_; rintro e w1 ⟨rfl, b1⟩
    have HB1 := Lib.hid (And.intro (HA.out.keep b1) (HB0.out.trans (b1.mono HB0.out.size))); clear b1
    obtain ⟨p0, p1, p2, -, -, -⟩ := HB1.out.1.three
    go_wp2_with (go_at_call 80; refine (isTeam_any _ _ _).mono ?_; rintro e w2 ⟨rfl, rfl⟩)
    go_ret
    exact ⟨ret_bool (by simp), HB1.out.2⟩

set_option maxHeartbeats 800000 in
theorem lgTeam_any (t wn : Int) (l : List Rs) (ad : Option Addr) (c : Nat) (team : Int) (w : World) (hl : (l.length : Int) ≤ 1000000000000) (hlc : l.length ≤ c) (hr : Reads w ad (ress l)) :
    Calls Try.prog 55 #[.agg #[.int .i64 t, .int .i64 wn, .slice ad l.length c], .int .i64 team] w fun e w' => e = .returned (.bool (teamL t wn l team)) ∧ Below w.heap.size w w' := by
  have HB0 := Lib.hid (Below.ofNew (w := w) (.cells #[.int .i64 t, .int .i64 wn, .slice ad l.length c] 40))
  have HA := Lib.hid (ObAt.new w 40 #[.int .i64 t, .int .i64 wn, .slice ad l.length c])
  have HG := Lib.hid (lgGood_any t wn l ad c _ hl hlc (hr.old HB0.out))
  clear hr
  have hd : teamL t wn l team = (goodL t wn l && inR team 0 (t - 1)) := rfl
  rw [hd]; clear hd
  cases hg : goodL t wn l
  · rw [hg] at HG; clear hg
    go_enter Try.func55, Try.ntmps55
    go_wp2_with fail
    refine HG.out.mono ?_; rintro e w1 ⟨rfl, b1⟩
    have HB1 := Lib.hid (And.intro (HA.out.keep b1) (HB0.out.trans (b1.mono HB0.out.size))); clear b1
    go_wp2_with fail
    go_ret
    exact ⟨ret_bool (by simp), HB1.out.2⟩
  · obtain ⟨t1, t2, -⟩ := goodL_bd hg
    rw [hg] at HG; clear hg
    go_enter Try.func55, Try.ntmps55
    go_wp2_with fail
    refine HG.out.mono ?_; rintro e w1 ⟨rfl, b1⟩
    have HB1 := Lib.hid (And.intro (HA.out.keep b1) (HB0.out.trans (b1.mono HB0.out.size))); clear b1
    obtain ⟨p0, p1, p2, -, -, -⟩ := HB1.out.1.three
    go_wp2_with (go_at_call 58; refine (l1In_any _ _ _ _).mono ?_; rintro e w2 ⟨rfl, rfl⟩)
    go_ret
    exact ⟨ret_bool (by simp), HB1.out.2⟩

/-- The cells of games. -/
def flatM (gs : List Gm) : List Int := gs.flatMap fun g => [g.1, g.2.1, g.2.2]
def gmc (gs : List Gm) : List Value := ints (flatM gs)
theorem flatM_len (gs : List Gm) : (flatM gs).length = 3 * gs.length := by
  induction gs with
  | nil => rfl
  | cons d l ih => simp only [flatM, List.flatMap_cons, List.length_append] at *; simp at *; omega
theorem gmc_len (gs : List Gm) : (gmc gs).length = 3 * gs.length := by rw [gmc, ints_len, flatM_len]
theorem gmc_append (a b : List Gm) : gmc (a ++ b) = gmc a ++ gmc b := by simp [gmc, flatM, ints]
theorem gmc_get : ∀ (l : List Gm) (j : Nat), j < l.length → (gmc l)[j * 3]? = some (.int .i64 (l.getD j zG).1) ∧ (gmc l)[j * 3 + 1]? = some (.int .i64 (l.getD j zG).2.1) ∧ (gmc l)[j * 3 + 2]? = some (.int .i64 (l.getD j zG).2.2)
  | d :: l, 0, _ => by simp [gmc, flatM, ints]
  | d :: l, j + 1, h => by
    have := gmc_get l j (by simpa using h)
    simp only [gmc, flatM, ints, List.flatMap_cons, List.map_append] at *
    rw [show (j + 1) * 3 = j * 3 + 1 + 1 + 1 from by omega]
    simpa using this
theorem gcells_of_reads {w : World} {a : Option Addr} {l : List Gm} (h : Reads w a (gmc l)) (hne : 0 < l.length) :
    ∃ b off, a = some ⟨b, off, none⟩ ∧ b < w.heap.size ∧ ∀ j, j < l.length → w.cell? ⟨b, off + j * 3, none⟩ = some (.int .i64 (l.getD j zG).1) ∧ w.cell? ⟨b, off + j * 3 + 1, none⟩ = some (.int .i64 (l.getD j zG).2.1) ∧ w.cell? ⟨b, off + j * 3 + 2, none⟩ = some (.int .i64 (l.getD j zG).2.2) := by
  rcases h with h | ⟨b, off, rfl, hlt, hc⟩
  · have := congrArg List.length h; rw [gmc_len] at this; simp at this; omega
  · refine ⟨b, off, rfl, hlt, fun j hj => ?_⟩
    have := gmc_len l
    obtain ⟨g0, g1, g2⟩ := gmc_get l j hj
    exact ⟨by rw [hc (j * 3) (by omega), g0], by rw [Nat.add_assoc, hc (j * 3 + 1) (by omega), g1], by rw [Nat.add_assoc, hc (j * 3 + 2) (by omega), g2]⟩

/-- Games of its own that the program hands back. -/
def GmR (gs : List Gm) (w : World) (e : Ending) (w' : World) : Prop :=
  ∃ v, e = .returned v ∧ w'.ownsRow w.heap.size 112 3 v gs.length (gmc gs) ∧ Below w.heap.size w w'
theorem infoGm : (Try.prog.info? 112).map (fun i => (i.zero, i.size, i.bytes)) = some (some (.agg #[.int .i64 0, .int .i64 0, .int .i64 0]), 3, 24) := by kernel_rfl

/-- What holds at the head of each round. -/
def GmAt (w : World) (t wn : Int) (l : List Rs) (ad : Option Addr) (c : Nat) (team : Int) (k : Nat) (v : Value) (wr : World) : Prop :=
  ObAt wr w.heap.size 40 #[.int .i64 t, .int .i64 wn, .slice ad l.length c] ∧ wr.ownsRow w.heap.size 112 3 v (gamesL (l.take k) team).length (gmc (gamesL (l.take k) team)) ∧ Below w.heap.size w wr
theorem cells_new (w : World) (cs : Array Value) (T : TypeId) : ∀ j u, cs.toList[j]? = some u → (w.alloc (.cells cs T)).cell? ((⟨w.heap.size, 0, none⟩ : Addr).add j) = some u := by
  intro j u h
  have := (ObAt.new w T cs).cell j
  rw [show ((⟨w.heap.size, 0, none⟩ : Addr).add j) = ⟨w.heap.size, j, none⟩ from by simp only [Addr.add]; split <;> simp_all]
  rw [this]; simpa using h

set_option maxHeartbeats 3200000 in
set_option maxRecDepth 100000 in
theorem gamesOfTeam_any (t wn : Int) (l : List Rs) (ad : Option Addr) (c : Nat) (team : Int) (w : World) (hl : (l.length : Int) ≤ 56) (hr : Reads w ad (ress l)) :
    Calls Try.prog 76 #[.agg #[.int .i64 t, .int .i64 wn, .slice ad l.length c], .int .i64 team] w fun e w' => GmR (gamesL l team) w e w' := by
  obtain ⟨i0, hi, hz0, hz1, hz2⟩ := info_parts infoGm
  have HI := Lib.hid (And.intro hi (And.intro hz0 (And.intro hz1 hz2))); clear hi hz0 hz1 hz2
  have HR := Lib.hid hr; clear hr
  have H0 : Hid (GmAt w t wn l ad c team 0 (.slice none 0 0) (w.alloc (.cells #[.int .i64 t, .int .i64 wn, .slice ad l.length c] 40))) :=
    ⟨ObAt.new _ _ _, ⟨rfl, .inl ⟨rfl, rfl⟩⟩, Below.ofNew _⟩
  go_enter Try.func76, Try.ntmps76
  go_wp2_with fail
  go_loopw [5, 11] (fun v i wr => ∃ k : Nat, i = .int .i64 k ∧ k ≤ l.length ∧ Hid (GmAt w t wn l ad c team k v wr)) (fun _ i _ => l.length - (intOf i).toNat)
  case atStart => exact ⟨0, rfl, Nat.zero_le _, H0⟩
  case round =>
    clear H0
    obtain ⟨k, rfl, hk, hH⟩ := hrel
    by_cases hlt : k < l.length
    · have b1 : (k : Int) < (l.length : Int) := by omega
      obtain ⟨hA, hown, hbel⟩ := hH.out
      obtain ⟨b, off, ha, _, hc⟩ := rcells_of_reads (HR.out.old hbel) (by omega)
      subst ha
      obtain ⟨c0, c1, c2, c3⟩ := hc k hlt
      clear hc
      have hsn := gamesL_snoc l team k hlt
      have hgl := gamesL_take_len l team k
      have HG := Lib.hid hsn; clear hsn
      generalize l.getD k zR = r at *
      obtain ⟨x, y, z, u⟩ := r
      simp only at c0 c1 c2 c3
      have hbs := hbel.size
      by_cases e1 : team = x
      · have he : ownG team (x, y, z, u) = some (y, z, u) := by simp [ownG, e1]
        have q1 : (team == x) = true := by simp [e1]
        clear e1
        have HG2 : Hid (gamesL (l.take (k + 1)) team = gamesL (l.take k) team ++ [(y, z, u)]) := Lib.hid (by have h := HG.out; rw [he] at h; exact h)
        clear he HG
        obtain ⟨gs, hgs⟩ : ∃ gs, gs = gamesL (l.take k) team := ⟨_, rfl⟩
        rw [← hgs] at HG2 hown hgl
        have HO : Hid (ObAt (wr.alloc (.cells #[.int .i64 x, .int .i64 y, .int .i64 z, .int .i64 u] 101)) w.heap.size 40 #[.int .i64 t, .int .i64 wn, .slice (some ⟨b, off, none⟩) l.length c] ∧ (wr.alloc (.cells #[.int .i64 x, .int .i64 y, .int .i64 z, .int .i64 u] 101)).ownsRow w.heap.size 112 3 u5 gs.length (gmc gs) ∧ Below w.heap.size w (wr.alloc (.cells #[.int .i64 x, .int .i64 y, .int .i64 z, .int .i64 u] 101))) := ⟨hA.old _, hown.alloc _, hbel.alloc hbs _⟩
        have HC := Lib.hid (cells_new (wr.alloc (.cells #[.int .i64 x, .int .i64 y, .int .i64 z, .int .i64 u] 101)) #[.int .i64 y, .int .i64 z, .int .i64 u] 112)
        rw [World.size_alloc] at HC
        obtain ⟨p0, p1, p2, -, -, -⟩ := hA.three
        clear hH hown hbel hA hgs
        go_wp2_with (at_builtin; refine wpList_append_own_at _ rfl _ _ 109 rfl w.heap.size 112 i0 (.agg #[.int .i64 0, .int .i64 0, .int .i64 0]) 3 24 Try.underlying109 HI.out.1 HI.out.2.1 HI.out.2.2.1 HI.out.2.2.2 rfl (by decide) _ _ _ rfl (HO.out.2.1.alloc _) ⟨wr.heap.size + 1, 0, none⟩ 1 1 [.int .i64 y, .int .i64 z, .int .i64 u] rfl rfl HC.out ?_ ?_ ?_ ?_ ?_)
        · exact ⟨rfl, rfl, rfl⟩
        · unfold maxLen; omega
        · omega
        · first | omega | (simp; omega)
        intro v' w3 hown3 hgrow _ _
        have hbel3 : Below w.heap.size w w3 := (HO.out.2.2.alloc (by simp; omega) _).grown hgrow (by simp; omega) (fun g hg => by
          obtain ⟨_, h | ⟨g', cap, cur, hv, hb', _⟩⟩ := HO.out.2.1
          · rw [h.1] at hg; cases hg
          · rw [hv] at hg; simp [Value.ownBlock] at hg; omega)
        have hA3 := (HO.out.1.old (.cells #[.int .i64 y, .int .i64 z, .int .i64 u] 112)).grow (T' := 112) (by decide) (HO.out.2.1.alloc _) hgrow
        have hown4 : w3.ownsRow w.heap.size 112 3 v' (gamesL (l.take (k + 1)) team).length (gmc (gamesL (l.take (k + 1)) team)) := by
          rw [HG2.out, gmc_append, List.length_append]; exact hown3
        have H3 : Hid (GmAt w t wn l (some ⟨b, off, none⟩) c team (k + 1) v' w3) := ⟨hA3, hown4, hbel3⟩
        clear hown3 hgrow hown4 hbel3 hA3 HO HC HG2
        go_wp2
        go_roundw
        case rel => exact ⟨k + 1, by go_num, by omega, H3⟩
        case measure => simp [intOf]; omega
      by_cases e2 : team = y
      · have he : ownG team (x, y, z, u) = some (x, u, z) := by unfold ownG; simp only; rw [if_neg e1, if_pos e2]
        have q1 : (team == x) = false := by simp [e1]
        have q2 : (team == y) = true := by simp [e2]
        clear e1 e2
        have HG2 : Hid (gamesL (l.take (k + 1)) team = gamesL (l.take k) team ++ [(x, u, z)]) := Lib.hid (by have h := HG.out; rw [he] at h; exact h)
        clear he HG
        obtain ⟨gs, hgs⟩ : ∃ gs, gs = gamesL (l.take k) team := ⟨_, rfl⟩
        rw [← hgs] at HG2 hown hgl
        have HO : Hid (ObAt (wr.alloc (.cells #[.int .i64 x, .int .i64 y, .int .i64 z, .int .i64 u] 101)) w.heap.size 40 #[.int .i64 t, .int .i64 wn, .slice (some ⟨b, off, none⟩) l.length c] ∧ (wr.alloc (.cells #[.int .i64 x, .int .i64 y, .int .i64 z, .int .i64 u] 101)).ownsRow w.heap.size 112 3 u5 gs.length (gmc gs) ∧ Below w.heap.size w (wr.alloc (.cells #[.int .i64 x, .int .i64 y, .int .i64 z, .int .i64 u] 101))) := ⟨hA.old _, hown.alloc _, hbel.alloc hbs _⟩
        have HC := Lib.hid (cells_new (wr.alloc (.cells #[.int .i64 x, .int .i64 y, .int .i64 z, .int .i64 u] 101)) #[.int .i64 x, .int .i64 u, .int .i64 z] 112)
        rw [World.size_alloc] at HC
        obtain ⟨p0, p1, p2, -, -, -⟩ := hA.three
        clear hH hown hbel hA hgs
        go_wp2_with (at_builtin; refine wpList_append_own_at _ rfl _ _ 109 rfl w.heap.size 112 i0 (.agg #[.int .i64 0, .int .i64 0, .int .i64 0]) 3 24 Try.underlying109 HI.out.1 HI.out.2.1 HI.out.2.2.1 HI.out.2.2.2 rfl (by decide) _ _ _ rfl (HO.out.2.1.alloc _) ⟨wr.heap.size + 1, 0, none⟩ 1 1 [.int .i64 x, .int .i64 u, .int .i64 z] rfl rfl HC.out ?_ ?_ ?_ ?_ ?_)
        · exact ⟨rfl, rfl, rfl⟩
        · unfold maxLen; omega
        · omega
        · first | omega | (simp; omega)
        intro v' w3 hown3 hgrow _ _
        have hbel3 : Below w.heap.size w w3 := (HO.out.2.2.alloc (by simp; omega) _).grown hgrow (by simp; omega) (fun g hg => by
          obtain ⟨_, h | ⟨g', cap, cur, hv, hb', _⟩⟩ := HO.out.2.1
          · rw [h.1] at hg; cases hg
          · rw [hv] at hg; simp [Value.ownBlock] at hg; omega)
        have hA3 := (HO.out.1.old (.cells #[.int .i64 x, .int .i64 u, .int .i64 z] 112)).grow (T' := 112) (by decide) (HO.out.2.1.alloc _) hgrow
        have hown4 : w3.ownsRow w.heap.size 112 3 v' (gamesL (l.take (k + 1)) team).length (gmc (gamesL (l.take (k + 1)) team)) := by
          rw [HG2.out, gmc_append, List.length_append]; exact hown3
        have H3 : Hid (GmAt w t wn l (some ⟨b, off, none⟩) c team (k + 1) v' w3) := ⟨hA3, hown4, hbel3⟩
        clear hown3 hgrow hown4 hbel3 hA3 HO HC HG2
        go_wp2
        go_roundw
        case rel => exact ⟨k + 1, by go_num, by omega, H3⟩
        case measure => simp [intOf]; omega
      have he : ownG team (x, y, z, u) = none := by unfold ownG; simp only; rw [if_neg e1, if_neg e2]
      have q1 : (team == x) = false := by simp [e1]
      have q2 : (team == y) = false := by simp [e2]
      have HG2 : Hid (gamesL (l.take (k + 1)) team = gamesL (l.take k) team) := Lib.hid (by have h := HG.out; rw [he] at h; rw [h]; simp)
      have H3 : Hid (GmAt w t wn l (some ⟨b, off, none⟩) c team (k + 1) u5 (wr.alloc (.cells #[.int .i64 x, .int .i64 y, .int .i64 z, .int .i64 u] 101))) := ⟨hA.old _, by rw [HG2.out]; exact hown.alloc _, hbel.alloc hbs _⟩
      obtain ⟨p0, p1, p2, -, -, -⟩ := hA.three
      clear hH hown hbel hA he HG e1 e2
      go_wp2
      go_roundw
      case rel => exact ⟨k + 1, by go_num, by omega, H3⟩
      case measure => simp [intOf]; omega
    · obtain rfl : k = l.length := by omega
      obtain ⟨hA, hown, hbel⟩ := hH.out
      rw [List.take_length] at hown
      obtain ⟨a2, c2, rfl, -⟩ := Reads.own hown
      have HH := Lib.hid (And.intro hown hbel); clear hown hbel hH hA
      go_wp2_with fail
      refine bodyPost_ret (v := .slice a2 (gamesL l team).length c2) (by simp [results, Try.results76, go_sem]) rfl ⟨_, rfl, HH.out.1, HH.out.2⟩
end Go.Proofs.Ythbkclgdoopbpaa
