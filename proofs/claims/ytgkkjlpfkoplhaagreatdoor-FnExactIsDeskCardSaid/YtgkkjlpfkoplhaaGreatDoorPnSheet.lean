/-
  Pins: the sheet of rolls.
-/
import Derived.Test.YtgkkjlpfkoplhaaGreatDoorPnNext
namespace Go.Proofs.YtgkkjlpfkoplhaaGreatDoor.Pn
open Go.RowKit
set_option linter.unusedVariables false
set_option linter.unusedSimpArgs false

theorem sheetC_set : ∀ (S : List (List Int)) (P : Nat) (bs : List Int), P < S.length →
    sheetC (S.set P bs) = (((sheetC S).set (P * 3) (.int .i64 (bs.getD 0 (-1)))).set (P * 3 + 1) (.int .i64 (bs.getD 1 (-1)))).set (P * 3 + 2) (.int .i64 (bs.getD 2 (-1)))
  | d :: S, 0, bs, _ => by simp [sheetC]
  | d :: S, P + 1, bs, h => by
    have := sheetC_set S P bs (by simpa using h)
    simp only [List.set_cons_succ]
    rw [show (P + 1) * 3 = P * 3 + 1 + 1 + 1 from by omega]
    simp only [sheetC, List.flatMap_cons, List.cons_append, List.nil_append, List.set_cons_succ] at *
    rw [this]
theorem ShAt.put {w : World} {g : Nat} {S : List (List Int)} (h : ShAt w g S) {P : Nat} (hP : P < S.length) (bs : List Int) :
    ShAt (((w.setCell ⟨g, P * 3, none⟩ (.int .i64 (bs.getD 0 (-1)))).setCell ⟨g, P * 3 + 1, none⟩ (.int .i64 (bs.getD 1 (-1)))).setCell ⟨g, P * 3 + 2, none⟩ (.int .i64 (bs.getD 2 (-1)))) g (S.set P bs) := by
  unfold ShAt at *
  have h0 := setRow_heap w g _ ((sheetC S).toArray.setIfInBounds (P * 3) (.int .i64 (bs.getD 0 (-1)))) _ _ h
  rw [← setCell_eq_setRow w g (P * 3) _ _ _ _ h] at h0
  have h1 := setRow_heap _ g _ (((sheetC S).toArray.setIfInBounds (P * 3) (.int .i64 (bs.getD 0 (-1)))).setIfInBounds (P * 3 + 1) (.int .i64 (bs.getD 1 (-1)))) _ _ h0
  rw [← setCell_eq_setRow _ g (P * 3 + 1) _ _ _ _ h0] at h1
  have h2 := setRow_heap _ g _ ((((sheetC S).toArray.setIfInBounds (P * 3) (.int .i64 (bs.getD 0 (-1)))).setIfInBounds (P * 3 + 1) (.int .i64 (bs.getD 1 (-1)))).setIfInBounds (P * 3 + 2) (.int .i64 (bs.getD 2 (-1)))) _ _ h1
  rw [← setCell_eq_setRow _ g (P * 3 + 2) _ _ _ _ h1] at h2
  rw [h2]
  simp [sheetC_set S P bs hP]
theorem ShAt.free {w : World} {g : Nat} {S : List (List Int)} (h : ShAt w g S) (k : Nat) : w.frozen? ⟨g, k, none⟩ = false := frozen_of_row w g k _ _ h

/-- What rolls lead to: none if they are no rolls. -/
def goodR (f : Int) (rolls : List Int) : Option St := if 1 ≤ f ∧ f ≤ 10 then gameG f.toNat ([], []) rolls else none
theorem goodR_nat {F : Nat} (h1 : 1 ≤ F) (h2 : F ≤ 10) (rolls : List Int) : goodR (F : Int) rolls = gameG F ([], []) rolls := by
  unfold goodR; rw [if_pos (by omega)]; simp
theorem goodR_some {f : Int} {rolls : List Int} {s : St} (h : goodR f rolls = some s) : ∃ F : Nat, f = (F : Int) ∧ 1 ≤ F ∧ F ≤ 10 ∧ gameG F ([], []) rolls = some s ∧ InvG F s ∧ rollsG s = rolls := by
  unfold goodR at h
  split at h
  · rename_i hh
    refine ⟨f.toNat, by omega, by omega, by omega, h, game_inv _ _ _ (inv_start (by omega)) h, ?_⟩
    have := game_rolls _ _ _ h
    simpa [rollsG] using this
  · cases h

theorem fits_lo {F : Nat} {s : St} {p : Int} (h : p < 0) : fitsG F s p = false := by
  have : ¬ 0 ≤ p := by omega
  simp [fitsG, this]
theorem fits_hi {F : Nat} {s : St} {p : Int} (h : leftP s.2 < p) : fitsG F s p = false := by
  have : ¬ p ≤ leftP s.2 := by omega
  simp [fitsG, this]
theorem fits_over {F : Nat} {s : St} {p : Int} (h : overG F s = true) : fitsG F s p = false := by simp [fitsG, h]
theorem fits_ok {F : Nat} {s : St} {p : Int} (h : overG F s = false) (h0 : ¬ p < 0) (h1 : ¬ leftP s.2 < p) : fitsG F s p = true := by
  have : 0 ≤ p := by omega
  have : p ≤ leftP s.2 := by omega
  simp [fitsG, h, *]

def SheetR (f : Int) (o : Option St) (w : World) (e : Ending) (w' : World) : Prop :=
  (∀ s, o = some s → ∃ g, e = .returned (.tuple #[.slice (some ⟨g, 0, none⟩) f.toNat f.toNat, .bool true]) ∧ ShAt w' g (sheetG f.toNat s) ∧ w.heap.size ≤ g) ∧
  (o = none → e = .returned (.tuple #[.slice none 0 0, .bool false])) ∧ Below w.heap.size w w'

set_option maxHeartbeats 400000 in
theorem isFrameCount_yes (F : Nat) (h1 : 1 ≤ F) (h2 : F ≤ 10) (w : World) :
    Calls Tryz.prog 43 #[.int .i64 F] w fun e w' => e = .returned (.bool true) ∧ w = w' := by
  have q1 : (1 : Int) ≤ (F : Int) := by omega
  have q2 : (F : Int) ≤ 10 := by omega
  go_enter Tryz.func43, Tryz.ntmps43
  go_wp2
  go_ret
  exact ⟨rfl, rfl⟩
set_option maxHeartbeats 400000 in
theorem isFrameCount_no (f : Int) (h : ¬ (1 ≤ f ∧ f ≤ 10)) (w : World) :
    Calls Tryz.prog 43 #[.int .i64 f] w fun e w' => e = .returned (.bool false) ∧ w = w' := by
  by_cases q1 : 1 ≤ f <;> by_cases q2 : f ≤ 10
  all_goals try (exfalso; omega)
  all_goals
    clear h
    go_enter Tryz.func43, Tryz.ntmps43
    go_wp2
    go_ret
    exact ⟨rfl, rfl⟩

theorem ints_cell {w : World} {a : Option Addr} {l : List Int} (h : Reads w a (ints l)) {k : Nat} (hk : k < l.length) :
    ∃ b off, a = some ⟨b, off, none⟩ ∧ w.cell? ⟨b, off + k, none⟩ = some (.int .i64 (l.getD k 0)) := by
  obtain ⟨b, off, h1, _, h3⟩ := cells_of_reads h (by omega)
  exact ⟨b, off, h1, h3 k hk⟩

def AtRoll (F g : Nat) (rolls : List Int) (w : World) (k : Nat) (wr : World) : Prop :=
  ∃ s, InvG F s ∧ gameG F s (rolls.drop k) = gameG F ([], []) rolls ∧ ShAt wr g (sheetG F s) ∧ Below w.heap.size w wr

set_option maxHeartbeats 3200000 in
set_option maxRecDepth 20000 in
theorem sheetOf_yes (F : Nat) (h1 : 1 ≤ F) (h2 : F ≤ 10) (rolls : List Int) (a : Option Addr) (c : Nat) (w : World) (hl : (rolls.length : Int) ≤ 1000000000000) (h : Reads w a (ints rolls)) :
    Calls Tryz.prog 27 #[.int .i64 F, .slice a rolls.length c] w fun e w' => SheetR F (gameG F ([], []) rolls) w e w' := by
  have HR := Lib.hid h; clear h
  go_enter Tryz.func27, Tryz.ntmps27
  go_wp2_with fail
  refine (isFrameCount_yes F h1 h2 _).mono ?_; rintro e w0 ⟨rfl, rfl⟩
  go_wp2_with fail
  refine (emptyFrame_any _).mono ?_; rintro e w1 ⟨rfl, b1⟩
  have hz1 := b1.size
  have hp : PnAt (w1.alloc (.cells (cellsF []) 85)) w1.heap.size [] := PnAt.new w1 []
  have HP := Lib.hid hp; clear hp
  have hb1 : Below w.heap.size w (w1.alloc (.cells (cellsF []) 85)) := b1.alloc hz1 _
  have HB1 := Lib.hid hb1; clear hb1 b1
  go_wp2_with fail
  refine (repeat_any F h1 h2 w1.heap.size _ _ HP.out).mono ?_; rintro e w2 ⟨g, rfl, hs, hg, b2⟩
  have hgw : w.heap.size ≤ g := by simp at hg; omega
  have hb2 := HB1.out.trans (b2.mono HB1.out.size)
  have h0 : AtRoll F g rolls w 0 w2 := ⟨([], []), inv_start h1, by simp, by rw [sheet_start F h1]; exact hs, hb2⟩
  have H0 := Lib.hid h0; clear h0 hs hg b2 hb2 HP hz1
  go_wp2_with fail
  go_loopw [20] (fun i wr => ∃ k : Nat, i = .int .i64 k ∧ k ≤ rolls.length ∧ Hid (AtRoll F g rolls w k wr)) (fun i _ => rolls.length - (intOf i).toNat)
  case atStart => exact ⟨0, rfl, Nat.zero_le _, H0⟩
  case round =>
    clear H0 HB1
    obtain ⟨k, rfl, hk, hA⟩ := hrel
    obtain ⟨s, hi, hgm, hsh, hbel⟩ := hA.out
    clear hA
    by_cases hlt : k < rolls.length
    · have hkl : (k : Int) < (rolls.length : Int) := by omega
      have hsz := hbel.size
      obtain ⟨b, off, ha, hcell⟩ := ints_cell (HR.out.old hbel) hlt
      subst ha
      have hdr : rolls.drop k = rolls.getD k 0 :: rolls.drop (k + 1) := by rw [List.drop_eq_getElem_cons hlt]; simp [hlt]
      rw [hdr, gameG] at hgm
      clear hdr
      generalize hp : rolls.getD k 0 = p at *
      clear hp
      have hsm := sheet_small hi
      have hlen := sheet_len hi.1
      cases ho : overG F s
      · have hlt2 := over_false hi ho
        have hbd := leftP_bd s.2
        have hn := fun w' hx => next_at (sheetG F s) F s.1.length (leftP s.2) hlen h2 hsm hlt2 (fun i hi' => next_done hi hi') (next_cur hi ho) (by omega) g F w' hx
        have HN := Lib.hid hn; clear hn
        have HSH := Lib.hid hsh; clear hsh
        have HBL := Lib.hid hbel; clear hbel
        have he0 : (leftP s.2 == 0) = false := by simp; omega
        by_cases hp0 : p < 0
        · have hf : fitsG F s p = false := fits_lo hp0
          rw [hf] at hgm
          simp only [Bool.false_eq_true, if_false] at hgm
          have HG := Lib.hid hgm; clear hgm hf
          generalize leftP s.2 = st at *
          go_wp2_with fail
          refine (HN.out _ HSH.out).mono ?_; rintro e w3 ⟨rfl, b3⟩
          have HB3 := Lib.hid (HBL.out.trans (b3.mono hsz)); clear b3
          go_wp2_with fail
          go_ret2
          exact ⟨(fun t ht => by rw [← HG.out] at ht; cases ht), fun _ => rfl, HB3.out⟩
        · by_cases hp1 : leftP s.2 < p
          · have hf : fitsG F s p = false := fits_hi hp1
            rw [hf] at hgm
            simp only [Bool.false_eq_true, if_false] at hgm
            have HG := Lib.hid hgm; clear hgm hf
            generalize leftP s.2 = st at *
            go_wp2_with fail
            refine (HN.out _ HSH.out).mono ?_; rintro e w3 ⟨rfl, b3⟩
            have HB3 := Lib.hid (HBL.out.trans (b3.mono hsz)); clear b3
            go_wp2_with fail
            go_ret2
            exact ⟨(fun t ht => by rw [← HG.out] at ht; cases ht), fun _ => rfl, HB3.out⟩
          · have hf := fits_ok ho hp0 hp1
            rw [hf] at hgm
            simp only [if_true] at hgm
            have HG := Lib.hid hgm; clear hgm
            have hi2 := inv_step hi hf
            have hst := sheet_step (p := p) hi ho
            have HI2 := Lib.hid (And.intro hi2 hst); clear hi2 hst hf
            have hcur := sheet_cur (F := F) (s := s) hlt2
            have hwt := fun w => with_any s.2 p (small_open (inv_open hi ho)) (open_len (inv_open hi ho)) w
            rw [show frV s.2 = .agg #[.int .i64 (s.2.getD 0 (-1)), .int .i64 (s.2.getD 1 (-1)), .int .i64 (s.2.getD 2 (-1))] from rfl, show frV (s.2 ++ [p]) = .agg #[.int .i64 ((s.2 ++ [p]).getD 0 (-1)), .int .i64 ((s.2 ++ [p]).getD 1 (-1)), .int .i64 ((s.2 ++ [p]).getD 2 (-1))] from rfl] at hwt
            have hc3 := fun w' (hx : ShAt w' g (sheetG F s)) => hx.cells (j := s.1.length) (by rw [hlen]; exact hlt2)
            rw [hcur] at hc3
            have hput := fun w' (hx : ShAt w' g (sheetG F s)) => hx.put (P := s.1.length) (by rw [hlen]; exact hlt2) (s.2 ++ [p])
            have HC3 := Lib.hid hc3; clear hc3 hcur
            have HPU := Lib.hid hput; clear hput
            have HW := Lib.hid hwt; clear hwt
            clear hsm hi
            have HO := Lib.hid ho; clear ho hbd
            generalize leftP s.2 = st at *
            generalize hPP : s.1.length = P at *
            have HPP := Lib.hid hPP; clear hPP
            generalize s.2.getD 0 (-1) = x0 at *
            generalize s.2.getD 1 (-1) = x1 at *
            generalize s.2.getD 2 (-1) = x2 at *
            generalize (s.2 ++ [p]).getD 0 (-1) = y0 at *
            generalize (s.2 ++ [p]).getD 1 (-1) = y1 at *
            generalize (s.2 ++ [p]).getD 2 (-1) = y2 at *
            go_wp2_with fail
            refine (HN.out _ HSH.out).mono ?_; rintro e w3 ⟨rfl, b3⟩
            have HB3 := Lib.hid (HBL.out.trans (b3.mono hsz))
            have hsh3 := HSH.out.keep b3; clear b3
            obtain ⟨c0, c1, c2⟩ := HC3.out _ hsh3
            have HS3 := Lib.hid hsh3; clear hsh3
            have hPF : (P : Int) < (F : Int) := by omega
            go_wp2_with fail
            refine (HW.out _).mono ?_; rintro e w4 ⟨rfl, b4⟩
            have hsh4 := HS3.out.keep b4
            have HB4 := Lib.hid (HB3.out.trans (b4.mono HB3.out.size)); clear b4
            have hpt := HPU.out _ hsh4
            have HPT := Lib.hid hpt; clear hpt
            clear c0 c1 c2
            obtain ⟨c0, c1, c2⟩ := HC3.out _ hsh4
            have f0 := hsh4.free (P * 3)
            have f1 := hsh4.free (P * 3 + 1)
            have f2 := hsh4.free (P * 3 + 2)
            clear hsh4
            have HBS := Lib.hid (((HB4.out.setCell (p := ⟨g, P * 3, none⟩) hgw (.int .i64 y0)).setCell (p := ⟨g, P * 3 + 1, none⟩) hgw (.int .i64 y1)).setCell (p := ⟨g, P * 3 + 2, none⟩) hgw (.int .i64 y2))
            go_wp2_with fail
            go_roundw
            case rel => exact ⟨k + 1, by go_num, by omega, Lib.hid ⟨stepG F s p, HI2.out.1, HG.out, by rw [← HI2.out.2]; have h := HPP.out; subst h; exact HPT.out, HBS.out⟩⟩
            case measure => simp [intOf]; omega
      · have hF2 : s.1.length = F := by simpa [overG] using ho
        have hn := fun w' hx => next_none (sheetG F s) F hlen h2 hsm (fun i hi' => next_done hi (by omega)) g F w' hx
        have HN := Lib.hid hn; clear hn
        have HSH := Lib.hid hsh; clear hsh
        have HBL := Lib.hid hbel; clear hbel
        have hf : fitsG F s p = false := fits_over ho
        rw [hf] at hgm
        simp only [Bool.false_eq_true, if_false] at hgm
        have HG := Lib.hid hgm; clear hgm hf hF2 ho hlen hsm hi
        go_wp2_with fail
        refine (HN.out _ HSH.out).mono ?_; rintro e w3 ⟨rfl, b3⟩
        have HB3 := Lib.hid (HBL.out.trans (b3.mono hsz)); clear b3
        go_wp2_with fail
        go_ret2
        exact ⟨(fun t ht => by rw [← HG.out] at ht; cases ht), fun _ => rfl, HB3.out⟩
    · obtain rfl : k = rolls.length := by omega
      rw [List.drop_length, gameG] at hgm
      have HG := Lib.hid hgm; clear hgm
      have HSH := Lib.hid hsh; clear hsh
      have HBL := Lib.hid hbel; clear hbel
      go_wp2_with fail
      go_ret2
      refine ⟨(fun t ht => ?_), (fun hn => by rw [← HG.out] at hn; cases hn), HBL.out⟩
      rw [← HG.out] at ht
      injection ht with ht
      subst ht
      exact ⟨g, rfl, HSH.out, hgw⟩

set_option maxHeartbeats 400000 in
theorem sheetOf_any (f : Int) (rolls : List Int) (a : Option Addr) (c : Nat) (w : World) (hl : (rolls.length : Int) ≤ 1000000000000) (h : Reads w a (ints rolls)) :
    Calls Tryz.prog 27 #[.int .i64 f, .slice a rolls.length c] w fun e w' => SheetR f (goodR f rolls) w e w' := by
  by_cases hf : 1 ≤ f ∧ f ≤ 10
  · obtain ⟨F, rfl⟩ := Int.eq_ofNat_of_zero_le (a := f) (by omega)
    rw [goodR_nat (by omega) (by omega)]
    exact sheetOf_yes F (by omega) (by omega) rolls a c w hl h
  · have hg : goodR f rolls = none := by unfold goodR; rw [if_neg hf]
    rw [hg]
    clear h hg
    have HF := Lib.hid hf; clear hf
    go_enter Tryz.func27, Tryz.ntmps27
    go_wp2_with fail
    refine (isFrameCount_no f HF.out _).mono ?_; rintro e w0 ⟨rfl, rfl⟩
    go_wp2_with fail
    go_ret2
    exact ⟨(fun t ht => by cases ht), (fun _ => rfl), Below.refl _ _⟩
end Go.Proofs.YtgkkjlpfkoplhaaGreatDoor.Pn
