/-
  Leagues: the table and the place of a team in it, both sides.
-/
import Derived.Test.YthbkclgdoopbpaaLtSpec
namespace Go.Proofs.Ythbkclgdoopbpaa
open Go.RowKit
set_option linter.unusedVariables false
set_option linter.unusedSimpArgs false

set_option maxHeartbeats 1600000 in
theorem specTable_any (t wn : Int) (l : List Rs) (ad : Option Addr) (c : Nat) (w : World) (hl : (l.length : Int) ≤ 1000000000000) (hlc : l.length ≤ c) (hr : Reads w ad (ress l)) :
    Calls Try.prog 19 #[.agg #[.int .i64 t, .int .i64 wn, .slice ad l.length c]] w fun e w' => RowR (tabV t wn l) (goodL t wn l) w e w' := by
  have HB0 := Lib.hid (BoxS.new w t wn (.slice ad l.length c))
  have HG := Lib.hid (lgGood_any t wn l ad c _ hl hlc (hr.old HB0.out.2))
  have HR := Lib.hid hr; clear hr
  cases hg : goodL t wn l
  · have hv : tabV t wn l = [] := by unfold tabV; rw [hg]; rfl
    rw [hg] at HG; rw [hv]; clear hg hv
    go_enter Try.func19, Try.ntmps19
    go_wp2_with fail
    refine HG.out.mono ?_; rintro e w1 ⟨rfl, b1⟩
    have HB1 := Lib.hid (HB0.out.2.trans (b1.mono HB0.out.2.size)); clear b1
    go_wp2_with fail
    refine bodyPost_ret (v := .tuple #[.slice none 0 0, .bool false]) (by simp [results, Try.results19, go_sem]) rfl ⟨_, rfl, owns_nil _ _ _, HB1.out⟩
  · obtain ⟨t2, t8, -⟩ := goodL_bd hg
    obtain ⟨T, rfl⟩ : ∃ T : Nat, t = T := ⟨t.toNat, by omega⟩
    have hv : tabV T wn l = (ordL wn l).tab T := by unfold tabV; rw [if_pos hg, Int.toNat_natCast]
    have HP := Lib.hid (fun W (hb : Below w.heap.size w W) => lgTable_any T wn l hg ad c W (HR.out.old hb))
    rw [hg] at HG; rw [hv]; clear hg hv
    go_enter Try.func19, Try.ntmps19
    go_wp2_with fail
    refine HG.out.mono ?_; rintro e w1 ⟨rfl, b1⟩
    have HB1 := Lib.hid (HB0.out.keep b1); clear b1
    obtain ⟨p0, p1, p2, -, -, -⟩ := HB1.out.1.three
    go_wp2_with fail
    refine (HP.out _ HB1.out.2).mono ?_; rintro e w2 ⟨v, rfl, hown, b2⟩
    have hown2 := owns_base hown HB1.out.2.size
    have HO := Lib.hid (And.intro hown2 (HB1.out.2.trans (b2.mono HB1.out.2.size)))
    clear hown hown2 b2
    go_wp2_with fail
    refine bodyPost_ret (v := .tuple #[v, .bool true]) (by simp [results, Try.results19, go_sem]) rfl ⟨_, rfl, by rw [Ord3.tab_len]; exact HO.out.1, HO.out.2⟩

/-- The place of a team. -/
def rankV (t wn : Int) (l : List Rs) (team : Int) : Int := if teamL t wn l team then ((tabV t wn l).idxOf team : Int) + 1 else 0
theorem rank_place (o : Ord3) {T : Nat} {x : Int} (h : 0 ≤ x ∧ x < T) : ∃ p, p < T ∧ (o.tab T).idxOf x = p ∧ (o.tab T).getD p 0 = x ∧ ∀ i, i < T → (o.tab T).getD i 0 = x → i = p := by
  have hm := (o.mem_tab x T).2 h
  have hl := o.tab_len T
  have hi := List.idxOf_lt_length_iff.2 hm
  rw [hl] at hi
  have hp : (o.tab T).getD ((o.tab T).idxOf x) 0 = x := by
    rw [List.getD_eq_getElem?_getD, List.getElem?_eq_getElem (by rw [hl]; exact hi)]
    simp
  refine ⟨_, hi, rfl, hp, fun i hi2 he => ?_⟩
  have hs := o.tab_sorted T
  rw [List.pairwise_iff_getElem] at hs
  generalize (o.tab T).idxOf x = p at *
  rw [List.getD_eq_getElem?_getD, List.getElem?_eq_getElem (by rw [hl]; exact hi), Option.getD_some] at hp
  rw [List.getD_eq_getElem?_getD, List.getElem?_eq_getElem (by rw [hl]; exact hi2), Option.getD_some] at he
  rcases Nat.lt_trichotomy i p with h1 | h1 | h1
  · have := hs i p (by rw [hl]; exact hi2) (by rw [hl]; exact hi) h1
    rw [he, hp] at this
    exact (Ord3.bef_ne this rfl).elim
  · exact h1
  · have := hs p i (by rw [hl]; exact hi) (by rw [hl]; exact hi2) h1
    rw [he, hp] at this
    exact (Ord3.bef_ne this rfl).elim

set_option maxHeartbeats 800000 in
theorem index_any (L : List Int) (a : Option Addr) (c : Nat) (x : Int) (p : Nat) (hl : L.length ≤ 1000) (w : World) (hr : Reads w a (ints L)) (hp : p < L.length) (hx : L.getD p 0 = x) (hu : ∀ i, i < L.length → L.getD i 0 = x → i = p) :
    Calls Try.prog 57 #[.slice a L.length c, .int .i64 x] w fun e w' => e = .returned (.int .i64 p) ∧ w = w' := by
  obtain ⟨b, off, rfl, hlt, hc⟩ := cells_of_reads hr (by omega)
  have HC := Lib.hid hc; clear hc hr
  have HU := Lib.hid (And.intro hx hu); clear hx hu
  go_enter Try.func57, Try.ntmps57
  go_wp2_with fail
  go_loopw [8] (fun i wr => ∃ k : Nat, i = .int .i64 k ∧ k ≤ p ∧ wr = w) (fun i _ => p - (intOf i).toNat)
  case atStart => exact ⟨0, rfl, Nat.zero_le _, rfl⟩
  case round =>
    obtain ⟨k, rfl, hk, rfl⟩ := hrel
    have b1 : (k : Int) < (L.length : Int) := by omega
    have c1 := HC.out k (by omega)
    by_cases hkp : k < p
    · have hne : L.getD k 0 ≠ x := fun e => by have := HU.out.2 k (by omega) e; omega
      generalize L.getD k 0 = y at *
      have e0 : (x == y) = false := by simp; exact fun e => hne e.symm
      clear hne
      go_wp2_with fail
      go_roundw
      case rel => exact ⟨k + 1, by go_num, by omega, by first | rfl | trivial⟩
      case measure => simp [intOf]; omega
    · obtain rfl : k = p := by omega
      rw [HU.out.1] at c1
      have e0 : (x == x) = true := by simp
      go_wp2_with fail
      go_ret
      exact ⟨rfl, rfl⟩

set_option maxHeartbeats 1600000 in
theorem implRank_any (t wn : Int) (l : List Rs) (ad : Option Addr) (c : Nat) (x : Int) (w : World) (hl : (l.length : Int) ≤ 1000000000000) (hlc : l.length ≤ c) (hr : Reads w ad (ress l)) :
    Calls Try.prog 25 #[.agg #[.int .i64 t, .int .i64 wn, .slice ad l.length c], .int .i64 x] w fun e w' => e = .returned (.tuple #[.int .i64 (rankV t wn l x), .bool (teamL t wn l x)]) ∧ Below w.heap.size w w' := by
  have HB0 := Lib.hid (BoxS.new w t wn (.slice ad l.length c))
  have HG := Lib.hid (isTeamOf_any t wn l ad c x _ hl hlc (hr.old HB0.out.2))
  have HT := Lib.hid (fun W (hb : Below w.heap.size w W) => implTable_any t wn l ad c W hl hlc (hr.old hb))
  cases hg : teamL t wn l x
  · have hv : rankV t wn l x = 0 := by unfold rankV; rw [hg]; rfl
    rw [hg] at HG; rw [hv]; clear hg hv hr
    go_enter Try.func25, Try.ntmps25
    go_wp2_with fail
    refine HG.out.mono ?_; rintro e w1 ⟨rfl, b1⟩
    have HB1 := Lib.hid (HB0.out.2.trans (b1.mono HB0.out.2.size)); clear b1
    go_wp2_with fail
    refine bodyPost_ret (v := .tuple #[.int .i64 0, .bool false]) (by simp [results, Try.results25, go_sem]) rfl ⟨rfl, HB1.out⟩
  · obtain ⟨hgd, hx0, hx1⟩ := teamL_good hg
    obtain ⟨t2, t8, -⟩ := goodL_bd hgd
    obtain ⟨T, rfl⟩ : ∃ T : Nat, t = T := ⟨t.toNat, by omega⟩
    have htv : tabV T wn l = (ordL wn l).tab T := by unfold tabV; rw [if_pos hgd, Int.toNat_natCast]
    obtain ⟨p, hp, hip, hgp, hup⟩ := rank_place (ordL wn l) (T := T) (x := x) ⟨hx0, hx1⟩
    have hv : rankV T wn l x = (p : Int) + 1 := by unfold rankV; rw [hg, if_pos rfl, htv, hip]
    rw [hgd, htv] at HT
    have hlt := (ordL wn l).tab_len T
    rw [hg] at HG; rw [hv]; clear hg hv hr hip
    generalize (ordL wn l).tab T = L at *
    have HL := Lib.hid (And.intro hlt (And.intro hgp hup)); clear hlt hgp hup htv hx0 hx1 hgd
    go_enter Try.func25, Try.ntmps25
    go_wp2_with fail
    refine HG.out.mono ?_; rintro e w1 ⟨rfl, b1⟩
    have HB1 := Lib.hid (HB0.out.keep b1); clear b1
    obtain ⟨p0, p1, p2, -, -, -⟩ := HB1.out.1.three
    go_wp2_with fail
    refine (HT.out _ HB1.out.2).mono ?_; rintro e w2 ⟨v, rfl, hown, b2⟩
    obtain ⟨a2, c2, rfl, hn2, hrd2, -⟩ := own_cap hown
    have hix := index_any L a2 c2 x p (by rw [HL.out.1]; omega) w2 hrd2 (by rw [HL.out.1]; exact hp) HL.out.2.1 (fun i hi => HL.out.2.2 i (by rw [← HL.out.1]; exact hi))
    have HIX := Lib.hid hix
    have HB2 := Lib.hid (HB1.out.2.trans (b2.mono HB1.out.2.size)); clear hown hrd2 b2 hix p0 p1 p2
    have hpw : (p : Int) ≤ 100 := by omega
    go_wp2_with fail
    refine HIX.out.mono ?_; rintro e w3 ⟨rfl, rfl⟩
    go_wp2_with fail
    refine bodyPost_ret (v := .tuple #[.int .i64 ((p : Int) + 1), .bool true]) (by simp [results, Try.results25, go_sem]) rfl ⟨rfl, HB2.out⟩

set_option maxHeartbeats 1600000 in
theorem specRank_any (t wn : Int) (l : List Rs) (ad : Option Addr) (c : Nat) (x : Int) (w : World) (hl : (l.length : Int) ≤ 1000000000000) (hlc : l.length ≤ c) (hr : Reads w ad (ress l)) :
    Calls Try.prog 24 #[.agg #[.int .i64 t, .int .i64 wn, .slice ad l.length c], .int .i64 x] w fun e w' => e = .returned (.tuple #[.int .i64 (rankV t wn l x), .bool (teamL t wn l x)]) ∧ Below w.heap.size w w' := by
  have HB0 := Lib.hid (BoxS.new w t wn (.slice ad l.length c))
  have HG := Lib.hid (lgTeam_any t wn l ad c x _ hl hlc (hr.old HB0.out.2))
  cases hg : teamL t wn l x
  · have hv : rankV t wn l x = 0 := by unfold rankV; rw [hg]; rfl
    rw [hg] at HG; rw [hv]; clear hg hv hr
    go_enter Try.func24, Try.ntmps24
    go_wp2_with fail
    refine HG.out.mono ?_; rintro e w1 ⟨rfl, b1⟩
    have HB1 := Lib.hid (HB0.out.2.trans (b1.mono HB0.out.2.size)); clear b1
    go_wp2_with fail
    refine bodyPost_ret (v := .tuple #[.int .i64 0, .bool false]) (by simp [results, Try.results24, go_sem]) rfl ⟨rfl, HB1.out⟩
  · obtain ⟨hgd, hx0, hx1⟩ := teamL_good hg
    obtain ⟨t2, t8, -⟩ := goodL_bd hgd
    obtain ⟨T, rfl⟩ : ∃ T : Nat, t = T := ⟨t.toNat, by omega⟩
    have HT := Lib.hid (fun W (hb : Below w.heap.size w W) => lgTable_any T wn l hgd ad c W (hr.old hb))
    have htv : tabV T wn l = (ordL wn l).tab T := by unfold tabV; rw [if_pos hgd, Int.toNat_natCast]
    obtain ⟨p, hp, hip, hgp, hup⟩ := rank_place (ordL wn l) (T := T) (x := x) ⟨hx0, hx1⟩
    have hv : rankV T wn l x = (p : Int) + 1 := by unfold rankV; rw [hg, if_pos rfl, htv, hip]
    have hlt := (ordL wn l).tab_len T
    rw [hg] at HG; rw [hv]; clear hg hv hr hip htv
    generalize (ordL wn l).tab T = L at *
    have HL := Lib.hid (And.intro hlt (And.intro hgp hup)); clear hlt hgp hup hx0 hx1 hgd
    go_enter Try.func24, Try.ntmps24
    go_wp2_with fail
    refine HG.out.mono ?_; rintro e w1 ⟨rfl, b1⟩
    have HB1 := Lib.hid (HB0.out.keep b1); clear b1
    obtain ⟨p0, p1, p2, -, -, -⟩ := HB1.out.1.three
    go_wp2_with fail
    refine (HT.out _ HB1.out.2).mono ?_; rintro e w2 ⟨v, rfl, hown, b2⟩
    obtain ⟨a2, c2, rfl, hn2, hrd2, -⟩ := own_cap hown
    rw [← HL.out.1] at hn2
    obtain ⟨b, off, rfl, hlt, hc⟩ := cells_of_reads hrd2 (by rw [HL.out.1]; omega)
    have HC := Lib.hid hc
    have HB2 := Lib.hid (HB1.out.2.trans (b2.mono HB1.out.2.size)); clear hown hrd2 b2 p0 p1 p2 hc hn2
    go_wp2_with fail
    go_loopw [6, 16] (fun r i wr => ∃ k : Nat, i = .int .i64 k ∧ k ≤ T ∧ r = .int .i64 (if p < k then (p : Int) + 1 else 0) ∧ wr = w2) (fun _ i _ => T - (intOf i).toNat)
    case atStart => exact ⟨0, rfl, Nat.zero_le _, by simp, rfl⟩
    case round =>
      obtain ⟨k, rfl, hk, rfl, rfl⟩ := hrel
      by_cases hkT : k < T
      · have b1 : (k : Int) < (T : Int) := by omega
        have c1 := HC.out k (by rw [HL.out.1]; exact hkT)
        by_cases hkp : k = p
        · subst hkp
          rw [HL.out.2.1] at c1
          have e0 : (x == x) = true := by simp
          have e1 : (if k < k then (k : Int) + 1 else 0) = 0 := by simp
          have HE : Hid ((k : Int) + 1 = if k < k + 1 then (k : Int) + 1 else 0) := Lib.hid (by simp)
          rw [e1]; clear e1
          go_wp2_with fail
          go_roundw
          case rel => exact ⟨k + 1, by go_num, by omega, by rw [← HE.out], by first | rfl | trivial⟩
          case measure => simp [intOf]; omega
        · have hne : L.getD k 0 ≠ x := fun e => hkp (HL.out.2.2 k hkT e)
          generalize L.getD k 0 = y at *
          have e0 : (y == x) = false := by simp [hne]
          have HE : Hid ((if p < k then (p : Int) + 1 else 0) = if p < k + 1 then (p : Int) + 1 else 0) := Lib.hid (by
            by_cases q : p < k
            · rw [if_pos q, if_pos (by omega)]
            · rw [if_neg q, if_neg (by omega)])
          generalize (if p < k then (p : Int) + 1 else 0) = R at *
          clear hne hkp
          go_wp2_with fail
          go_roundw
          case rel => exact ⟨k + 1, by go_num, by omega, by rw [← HE.out], by first | rfl | trivial⟩
          case measure => simp [intOf]; omega
      · obtain rfl : T = k := by omega
        rw [if_pos hp]
        go_wp2_with fail
        refine bodyPost_ret (v := .tuple #[.int .i64 ((p : Int) + 1), .bool true]) (by simp [results, Try.results24, go_sem]) rfl ⟨rfl, HB2.out⟩
end Go.Proofs.Ythbkclgdoopbpaa
