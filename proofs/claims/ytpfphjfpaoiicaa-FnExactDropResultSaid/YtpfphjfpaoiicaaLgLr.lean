/-
  Leagues: LeftResults as the law asks it.
-/
import Derived.Test.YtpfphjfpaoiicaaLgLeftS
namespace Go.Proofs.Ytpfphjfpaoiicaa
open Go.RowKit
set_option linter.unusedVariables false
set_option linter.unusedSimpArgs false

def leftV (t wn : Int) (l : List Rs) : List (Int × Int) := if goodL t wn l then leftL t.toNat l else []
theorem leftV_len (t wn : Int) (l : List Rs) : (leftV t wn l).length ≤ 72 := by
  unfold leftV
  by_cases h : goodL t wn l = true
  · rw [if_pos h, ← leftTo_all]
    have := goodL_bd h
    exact leftTo_len _ (by omega) l _ 0 (Nat.le_refl _) (by omega)
  · rw [if_neg h]; simp
theorem rows2_ok (L : List (Int × Int)) (h : L.length ≤ 72) : SmallD (rows2 L) ∧ ∀ j, j < (rows2 L).length → ((rows2 L).getD j []).length ≤ 3 := by
  have h2 : ∀ j, j < (rows2 L).length → ((rows2 L).getD j []).length = 2 := fun j hj => by
    rw [rows2_len] at hj
    rw [rows2_get L hj]; rfl
  exact ⟨⟨by rw [rows2_len]; omega, fun j hj => by rw [h2 j hj]; omega⟩, fun j hj => by rw [h2 j hj]; omega⟩
theorem implLr_any (t wn : Int) (l : List Rs) (ad : Option Addr) (c : Nat) (w : World) (hl : (l.length : Int) ≤ 1000000000000) (hlc : l.length ≤ c) (hr : Reads w ad (ress l)) :
    Calls Try.prog 43 #[.agg #[.int .i64 t, .int .i64 wn, .slice ad l.length c]] w fun e w' => PrR (rows2 (leftV t wn l)) (goodL t wn l) w e w' := by
  refine (implLeft_any t wn l ad c w hl hlc hr).mono ?_
  rintro e w' ⟨v, rfl, hp, hb⟩
  exact ⟨v, rfl, hp.c, hb⟩
set_option maxHeartbeats 1600000 in
theorem specLr_any (t wn : Int) (l : List Rs) (ad : Option Addr) (c : Nat) (w : World) (hl : (l.length : Int) ≤ 1000000000000) (hlc : l.length ≤ c) (hr : Reads w ad (ress l)) :
    Calls Try.prog 42 #[.agg #[.int .i64 t, .int .i64 wn, .slice ad l.length c]] w fun e w' => PrR (rows2 (leftV t wn l)) (goodL t wn l) w e w' := by
  have H0 := Lib.hid (BoxS.new w t wn (.slice ad l.length c))
  have HG := Lib.hid (lgGood_any t wn l ad c _ hl hlc (hr.old H0.out.2))
  cases hg : goodL t wn l
  · have hv : leftV t wn l = [] := by unfold leftV; rw [hg]; rfl
    rw [hg] at HG; rw [hv]; clear hg hr hv
    go_enter Try.func42, Try.ntmps42
    go_wp2_with fail
    refine HG.out.mono ?_; rintro e w1 ⟨rfl, b1⟩
    have HB1 := Lib.hid (H0.out.keep b1); clear b1
    go_wp2_with fail
    refine bodyPost_ret (v := .tuple #[.slice none 0 0, .bool false]) (by simp [results, Try.results42, go_sem]) rfl ⟨_, rfl, FrC.nil _ _, HB1.out.2⟩
  · obtain ⟨t2, t8, -, -, -⟩ := goodL_bd hg
    obtain ⟨T, rfl⟩ : ∃ T : Nat, t = T := ⟨t.toNat, by omega⟩
    have hv : leftV T wn l = leftL T l := by unfold leftV; rw [if_pos hg, Int.toNat_natCast]
    have HP := Lib.hid (fun W (hb : Below w.heap.size w W) => lgLeft_any T (by omega) wn l ad c W hl (hr.old hb))
    rw [hg] at HG; rw [hv]; clear hg hv hr
    go_enter Try.func42, Try.ntmps42
    go_wp2_with fail
    refine HG.out.mono ?_; rintro e w1 ⟨rfl, b1⟩
    have HB1 := Lib.hid (H0.out.keep b1); clear b1
    obtain ⟨p0, p1, p2, -⟩ := HB1.out.full
    go_wp2_with fail
    refine (HP.out _ HB1.out.2).mono ?_; rintro e w2 ⟨v, rfl, hp, b2⟩
    have HO := Lib.hid (And.intro (hp.base HB1.out.2.size).c (HB1.out.2.trans (b2.mono HB1.out.2.size)))
    clear hp b2
    go_wp2_with fail
    refine bodyPost_ret (v := .tuple #[v, .bool true]) (by simp [results, Try.results42, go_sem]) rfl ⟨_, rfl, HO.out.1, HO.out.2⟩
end Go.Proofs.Ytpfphjfpaoiicaa
