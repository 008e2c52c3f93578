/-
  Races: the model's table of the plays that lead to each score.
-/
import Derived.Test.YtooaeafnneikkaaRaBack
namespace Go.Proofs.Ytooaeafnneikkaa
open Go.RowKit
set_option linter.unusedVariables false
set_option linter.unusedSimpArgs false

/-- A table of which so many rows, and so much of the next one, are done. -/
def fwdF (rt rl : Int) (k j a b : Int) : Int := if a < k ∨ (a = k ∧ b < j) then upR rt rl a b else 0
theorem f_here {rt rl : Int} (x y : Nat) : fwdF rt rl x y x y = 0 := by unfold fwdF; rw [if_neg (by omega)]
theorem f_up {rt rl : Int} (x y : Nat) : fwdF rt rl ((x + 1 : Nat) : Int) y x y = upR rt rl x y := by unfold fwdF; rw [if_pos (by omega)]
theorem f_left {rt rl : Int} (x y : Nat) : fwdF rt rl x ((y + 1 : Nat) : Int) x y = upR rt rl x y := by unfold fwdF; rw [if_pos (by omega)]
theorem f_put {rt rl : Int} (x y a b : Nat) : fwdF rt rl x ((y : Int) + 1) a b = if a = x ∧ b = y then upR rt rl x y else fwdF rt rl x y a b := by
  unfold fwdF
  by_cases e : a = x ∧ b = y
  · obtain ⟨rfl, rfl⟩ := e
    rw [if_pos (by omega), if_pos ⟨rfl, rfl⟩]
  · rw [if_neg e]
    by_cases e2 : (a : Int) < x ∨ ((a : Int) = x ∧ (b : Int) < y)
    · rw [if_pos e2, if_pos (by omega)]
    · rw [if_neg e2, if_neg (by omega)]
theorem f_row {rt rl : Int} (x W a b : Nat) (hb : b < W) : fwdF rt rl ((x : Int) + 1) 0 a b = fwdF rt rl x W a b := by
  unfold fwdF
  by_cases e : (a : Int) < x ∨ ((a : Int) = x ∧ (b : Int) < W)
  · rw [if_pos e, if_pos (by omega)]
  · rw [if_neg e, if_neg (by omega)]
theorem f_new {rt rl : Int} (x b : Nat) : fwdF rt rl (x : Int) 0 x b = 0 := by unfold fwdF; rw [if_neg (by omega)]
theorem f_all {rt rl : Int} (n a b : Nat) (ha : a < n) : fwdF rt rl (n : Int) 0 a b = upR rt rl a b := by unfold fwdF; rw [if_pos (by omega)]

theorem f_done {rt rl k j a b : Int} (h : a < k ∨ (a = k ∧ b < j)) : fwdF rt rl k j a b = upR rt rl a b := by unfold fwdF; rw [if_pos h]
theorem f_next {rt rl : Int} (x y a b : Nat) : fwdF rt rl x ((y + 1 : Nat) : Int) a b = if a = x ∧ b = y then upR rt rl x y else fwdF rt rl x y a b := by
  rw [Int.natCast_succ]; exact f_put x y a b

set_option maxRecDepth 100000 in
set_option maxHeartbeats 12800000 in
theorem raWays_any (rt rl : Int) (A B : Nat) (hAB : A + B ≤ 100) (w : World) :
    Calls Try.prog 52 #[.agg #[.int .i64 rt, .int .i64 rl], .int .i64 A, .int .i64 B] w fun e w' => ∃ v bk wb, e = .returned v ∧ TabW wb w' v bk (A + 1) (B + 1) (upR rt rl) ∧ Below w.heap.size w w' := by
  obtain ⟨i0, hi, hz0, hz1, hz2⟩ := info_parts infoSlice
  have HI := Lib.hid (And.intro hi (And.intro hz0 (And.intro hz1 hz2))); clear hi hz0 hz1 hz2
  obtain ⟨i1, hi, hz0, hz1, hz2⟩ := info_parts infoInt
  have HJ := Lib.hid (And.intro hi (And.intro hz0 (And.intro hz1 hz2))); clear hi hz0 hz1 hz2
  have hp0 := Pair.new w rt rl 25
  have hb0 := below_new w (.cells #[.int .i64 rt, .int .i64 rl] 25)
  have H0 := Lib.hid (And.intro hp0 hb0); clear hp0 hb0
  go_enter Try.func52, Try.ntmps52
  go_wp2_with fail
  generalize hw0 : w.alloc (.cells #[.int .i64 rt, .int .i64 rl] 25) = w0 at *
  clear hw0
  have HT0 : Hid (TabW w0 w0 (.slice none 0 0) (fun _ => 0) 0 (B + 1) (fwdF rt rl ((0 : Nat) : Int) 0)) := TabW.nil _ _ _ _
  go_loopw [7, 8] (fun v i wr => ∃ (k : Nat) (bk : Nat → Nat), i = .int .i64 k ∧ k ≤ A + 1 ∧ Hid (TabW w0 wr v bk k (B + 1) (fwdF rt rl (k : Int) 0))) (fun _ i _ => A + 1 - (intOf i).toNat)
  case atStart => exact ⟨0, _, rfl, Nat.zero_le _, HT0⟩
  case round =>
    clear HT0
    obtain ⟨k, bk, rfl, hk, HT⟩ := hrel
    by_cases hlt : k ≤ A
    · have hlti : (k : Int) ≤ (A : Int) := by omega
      go_wp2_with (at_make; refine wpList_make_full _ rfl _ _ _ rfl wr.heap.size _ i1 _ 1 Try.underlying66 HJ.out.1 HJ.out.2.1 HJ.out.2.2.1 .i64 .i64 _ _ (B + 1) rfl rfl rfl rfl ?_ ?_ (Nat.le_refl _) ?_)
      · rw [HJ.out.2.2.2]; omega
      · unfold maxLen; omega
      intro w2 hown hgrow
      have hr := (RowAt.made (e := 3) hown).1
      have hbel : Below wr.heap.size wr w2 := (Below.refl _ _).grown hgrow (Nat.le_refl _) (fun k hk => by cases hk)
      have hbs := HT.out.bel.size
      have hbs2 := hbel.size
      have O := Lib.hid (And.intro (owns_below HT.out.hd hbel) (And.intro hr hbel))
      clear hr hbel hown hgrow
      go_wp2_with (at_builtin; refine wpList_append_own_at _ rfl _ _ 48 rfl w0.heap.size 66 i0 (.slice none 0 0) 1 24 Try.underlying48 HI.out.1 HI.out.2.1 HI.out.2.2.1 HI.out.2.2.2 rfl (by decide) _ _ _ rfl (owns_below O.out.1 (below_new _ _)) ⟨w2.heap.size, 0, none⟩ 1 1 [.slice (some ⟨wr.heap.size, 0, none⟩) (B + 1) (B + 1)] rfl rfl (cell_one_new _ _ _) ?_ ?_ ?_ ?_ ?_)
      · first | rfl | (intro u hu; simp at hu; subst hu; rfl)
      · unfold maxLen; omega
      · omega
      · first | omega | (simp; omega)
      intro v' w5 hown5 hgrow5 _ _
      have h5 := HT.out.snoc O.out.2.2 O.out.2.1 (fun b hb => f_new k b) hown5 hgrow5
      obtain ⟨gv, cv, hv, -⟩ := h5.shape (by omega)
      subst hv
      have hbk : (fun a => if a = k then wr.heap.size else bk a) k = wr.heap.size := by simp
      generalize (fun a => if a = k then wr.heap.size else bk a) = bk2 at *
      rw [← hbk] at *
      have H5 := Lib.hid h5
      clear h5 hown5 hgrow5 O HT hbs hbs2 hbk
      go_wp2_with fail
      go_loopw [26] (fun i wr => ∃ l : Nat, i = .int .i64 l ∧ l ≤ B + 1 ∧ Hid (TabW w0 wr (.slice (some ⟨gv, 0, none⟩) (k + 1) cv) bk2 (k + 1) (B + 1) (fwdF rt rl (k : Int) (l : Int)))) (fun i _ => B + 1 - (intOf i).toNat)
      case atStart => exact ⟨0, rfl, Nat.zero_le _, H5⟩
      case round =>
        clear H5
        obtain ⟨l, rfl, hl, HT⟩ := hrel
        by_cases hll : l < B + 1
        · have hlli : (l : Int) < (B : Int) + 1 := by omega
          obtain rfl | ⟨p, rfl⟩ : k = 0 ∨ ∃ p, k = p + 1 := by cases k; exact .inl rfl; exact .inr ⟨_, rfl⟩
          · obtain rfl | ⟨q, rfl⟩ : l = 0 ∨ ∃ q, l = q + 1 := by cases l; exact .inl rfl; exact .inr ⟨_, rfl⟩
            · have hst : upR rt rl ((0 : Nat) : Int) ((0 : Nat) : Int) = capM 1 := upR_zero _ _
              have HL := Lib.hid (fun w => least_any (1) w)
              rw [← hst] at HL
              generalize hv4 : upR rt rl ((0 : Nat) : Int) ((0 : Nat) : Int) = v4 at *
              have HV4 := Lib.hid hv4; clear hv4 hst
              have bK : (0 : Int) < (0 : Int) + 1 := by decide
              clear hlt hlti hk
              have bL : (0 : Int) < (B : Int) + 1 := by omega
              have k1 := HT.out.cell (a := 0) (b := 0) (by omega) (by omega)
              have f1 := (HT.out.rows 0 (by omega)).free 0
              obtain ⟨r0, r1⟩ := race_kept H0.out.1 HT.out.bel
              try simp only [Int.natCast_succ, Int.natCast_zero]
              go_wp2_with fail
              refine (HL.out _).mono ?_; rintro e w7 ⟨rfl, rfl⟩
              have H2 := Lib.hid (HT.out.put (x := 0) (y := 0) (by omega) (by omega) (u := v4) (H := fwdF rt rl ((0 : Nat) : Int) ((0 + 1 : Nat) : Int)) (fun a b _ _ => by rw [f_next, HV4.out]))
              clear HT
              go_wp2_with fail
              go_roundw
              case rel =>
                repeat apply Exists.intro
                refine ⟨?r1n1, ?r2n1⟩
                case r2n1 => exact rfl
                exact ⟨0 + 1, by first | rfl | go_num | simp, by omega, H2⟩
              try (case measure => simp [intOf] <;> omega)
            · by_cases hwy : wonN rt rl ((0 : Nat) : Int) q = 0
              · have hst := @upR_step rt rl ((0 : Nat) : Int) (((q + 1) : Nat) : Int) (by omega) (by omega) (by omega)
                unfold upA1 upB1 at hst
                rw [show ((q + 1 : Nat) : Int) - 1 = (q : Int) from by omega] at hst
                rw [if_neg (show ¬ (0 < ((0 : Nat) : Int) ∧ wonN rt rl (((0 : Nat) : Int) - 1) (((q + 1) : Nat) : Int) = 0) from fun h => absurd h.1 (by omega))] at hst
                rw [if_pos (show 0 < ((q + 1 : Nat) : Int) ∧ wonN rt rl ((0 : Nat) : Int) q = 0 from ⟨by omega, hwy⟩)] at hst
                try simp only [Int.add_zero, Int.zero_add] at hst
                have hwon := fun w => raWon_any rt rl ((0 : Nat) : Int) q w (by omega) (by omega) (by omega) (by omega)
                rw [won_zero.2 hwy] at hwon
                try simp only [Int.natCast_succ, Int.natCast_zero] at hwon
                have HWY := Lib.hid hwon; clear hwon hwy
                have by_ := upR_bd rt rl ((0 : Nat) : Int) q
                unfold capR at by_
                generalize hvb : upR rt rl ((0 : Nat) : Int) q = vb at *
                have HVB := Lib.hid hvb; clear hvb
                have HL := Lib.hid (fun w => least_any (vb) w)
                rw [← hst] at HL
                generalize hv4 : upR rt rl ((0 : Nat) : Int) (((q + 1) : Nat) : Int) = v4 at *
                have HV4 := Lib.hid hv4; clear hv4 hst
                have bK : (0 : Int) < (0 : Int) + 1 := by decide
                clear hlt hlti hk
                have bL : (q : Int) + 1 < (B : Int) + 1 := by omega
                have bQ : (q : Int) < (B : Int) + 1 := by omega
                have dQ : (0 : Int) < (q : Int) + 1 := by omega
                have dQ2 : (0 : Int) ≤ (q : Int) + 1 := by omega
                have qy : ((q : Int) + 1 == 0) = false := by simp; omega
                have k1 := HT.out.cell (a := 0) (b := (q + 1)) (by omega) (by omega)
                have f1 := (HT.out.rows 0 (by omega)).free (q + 1)
                have ey := HT.out.cell (a := 0) (b := q) (by omega) (by omega)
                rw [f_done (by omega), HVB.out] at ey
                obtain ⟨r0, r1⟩ := race_kept H0.out.1 HT.out.bel
                try simp only [Int.natCast_succ, Int.natCast_zero]
                go_wp2_with fail
                refine (HWY.out _).mono ?_; rintro e w6 ⟨rfl, b6⟩
                have HT6 := Lib.hid (HT.out.keep b6)
                clear b6 HWY k1 f1 ey r0 r1
                clear HT
                have k1 := HT6.out.cell (a := 0) (b := (q + 1)) (by omega) (by omega)
                have f1 := (HT6.out.rows 0 (by omega)).free (q + 1)
                have ey := HT6.out.cell (a := 0) (b := q) (by omega) (by omega)
                rw [f_done (by omega), HVB.out] at ey
                obtain ⟨r0, r1⟩ := race_kept H0.out.1 HT6.out.bel
                go_wp2_with fail
                refine (HL.out _).mono ?_; rintro e w7 ⟨rfl, rfl⟩
                have H2 := Lib.hid (HT6.out.put (x := 0) (y := (q + 1)) (by omega) (by omega) (u := v4) (H := fwdF rt rl ((0 : Nat) : Int) (((q + 1) + 1 : Nat) : Int)) (fun a b _ _ => by rw [f_next, HV4.out]))
                clear HT6
                go_wp2_with fail
                go_roundw
                case rel =>
                  repeat apply Exists.intro
                  refine ⟨?r1n2, ?r2n2⟩
                  case r2n2 => exact rfl
                  exact ⟨(q + 1) + 1, by first | rfl | go_num | simp, by omega, H2⟩
                try (case measure => simp [intOf] <;> omega)
              · have hst := @upR_step rt rl ((0 : Nat) : Int) (((q + 1) : Nat) : Int) (by omega) (by omega) (by omega)
                unfold upA1 upB1 at hst
                rw [show ((q + 1 : Nat) : Int) - 1 = (q : Int) from by omega] at hst
                rw [if_neg (show ¬ (0 < ((0 : Nat) : Int) ∧ wonN rt rl (((0 : Nat) : Int) - 1) (((q + 1) : Nat) : Int) = 0) from fun h => absurd h.1 (by omega))] at hst
                rw [if_neg (show ¬ (0 < ((q + 1 : Nat) : Int) ∧ wonN rt rl ((0 : Nat) : Int) q = 0) from fun h => hwy h.2)] at hst
                try simp only [Int.add_zero, Int.zero_add] at hst
                have hwon := fun w => raWon_any rt rl ((0 : Nat) : Int) q w (by omega) (by omega) (by omega) (by omega)
                have qy0 : (wonI rt rl ((0 : Nat) : Int) q == 0) = false := by simp only [beq_eq_false_iff_ne, ne_eq]; intro h; exact hwy (won_zero.1 h)
                generalize wonI rt rl ((0 : Nat) : Int) q = uy at *
                try simp only [Int.natCast_succ, Int.natCast_zero] at hwon
                have HWY := Lib.hid hwon; clear hwon hwy
                have by_ := upR_bd rt rl ((0 : Nat) : Int) q
                unfold capR at by_
                generalize hvb : upR rt rl ((0 : Nat) : Int) q = vb at *
                have HVB := Lib.hid hvb; clear hvb
                have HL := Lib.hid (fun w => least_any (0) w)
                rw [← hst] at HL
                generalize hv4 : upR rt rl ((0 : Nat) : Int) (((q + 1) : Nat) : Int) = v4 at *
                have HV4 := Lib.hid hv4; clear hv4 hst
                have bK : (0 : Int) < (0 : Int) + 1 := by decide
                clear hlt hlti hk
                have bL : (q : Int) + 1 < (B : Int) + 1 := by omega
                have bQ : (q : Int) < (B : Int) + 1 := by omega
                have dQ : (0 : Int) < (q : Int) + 1 := by omega
                have dQ2 : (0 : Int) ≤ (q : Int) + 1 := by omega
                have qy : ((q : Int) + 1 == 0) = false := by simp; omega
                have k1 := HT.out.cell (a := 0) (b := (q + 1)) (by omega) (by omega)
                have f1 := (HT.out.rows 0 (by omega)).free (q + 1)
                have ey := HT.out.cell (a := 0) (b := q) (by omega) (by omega)
                rw [f_done (by omega), HVB.out] at ey
                obtain ⟨r0, r1⟩ := race_kept H0.out.1 HT.out.bel
                try simp only [Int.natCast_succ, Int.natCast_zero]
                go_wp2_with fail
                refine (HWY.out _).mono ?_; rintro e w6 ⟨rfl, b6⟩
                have HT6 := Lib.hid (HT.out.keep b6)
                clear b6 HWY k1 f1 ey r0 r1
                clear HT
                have k1 := HT6.out.cell (a := 0) (b := (q + 1)) (by omega) (by omega)
                have f1 := (HT6.out.rows 0 (by omega)).free (q + 1)
                have ey := HT6.out.cell (a := 0) (b := q) (by omega) (by omega)
                rw [f_done (by omega), HVB.out] at ey
                obtain ⟨r0, r1⟩ := race_kept H0.out.1 HT6.out.bel
                go_wp2_with fail
                refine (HL.out _).mono ?_; rintro e w7 ⟨rfl, rfl⟩
                have H2 := Lib.hid (HT6.out.put (x := 0) (y := (q + 1)) (by omega) (by omega) (u := v4) (H := fwdF rt rl ((0 : Nat) : Int) (((q + 1) + 1 : Nat) : Int)) (fun a b _ _ => by rw [f_next, HV4.out]))
                clear HT6
                go_wp2_with fail
                go_roundw
                case rel =>
                  repeat apply Exists.intro
                  refine ⟨?r1n3, ?r2n3⟩
                  case r2n3 => exact rfl
                  exact ⟨(q + 1) + 1, by first | rfl | go_num | simp, by omega, H2⟩
                try (case measure => simp [intOf] <;> omega)
          · obtain rfl | ⟨q, rfl⟩ : l = 0 ∨ ∃ q, l = q + 1 := by cases l; exact .inl rfl; exact .inr ⟨_, rfl⟩
            · by_cases hwx : wonN rt rl p ((0 : Nat) : Int) = 0
              · have hst := @upR_step rt rl (((p + 1) : Nat) : Int) ((0 : Nat) : Int) (by omega) (by omega) (by omega)
                unfold upA1 upB1 at hst
                rw [show ((p + 1 : Nat) : Int) - 1 = (p : Int) from by omega] at hst
                rw [if_pos (show 0 < ((p + 1 : Nat) : Int) ∧ wonN rt rl p ((0 : Nat) : Int) = 0 from ⟨by omega, hwx⟩)] at hst
                rw [if_neg (show ¬ (0 < ((0 : Nat) : Int) ∧ wonN rt rl (((p + 1) : Nat) : Int) (((0 : Nat) : Int) - 1) = 0) from fun h => absurd h.1 (by omega))] at hst
                try simp only [Int.add_zero, Int.zero_add] at hst
                have hwon := fun w => raWon_any rt rl p ((0 : Nat) : Int) w (by omega) (by omega) (by omega) (by omega)
                rw [won_zero.2 hwx] at hwon
                try simp only [Int.natCast_succ, Int.natCast_zero] at hwon
                have HWX := Lib.hid hwon; clear hwon hwx
                have bx := upR_bd rt rl p ((0 : Nat) : Int)
                unfold capR at bx
                generalize hva : upR rt rl p ((0 : Nat) : Int) = va at *
                have HVA := Lib.hid hva; clear hva
                have HL := Lib.hid (fun w => least_any (va) w)
                rw [← hst] at HL
                generalize hv4 : upR rt rl (((p + 1) : Nat) : Int) ((0 : Nat) : Int) = v4 at *
                have HV4 := Lib.hid hv4; clear hv4 hst
                have bK : (p : Int) + 1 < (p : Int) + 1 + 1 := by omega
                have bP : (p : Int) < (p : Int) + 1 + 1 := by omega
                have dP : (0 : Int) < (p : Int) + 1 := by omega
                have qx : ((p : Int) + 1 == 0) = false := by simp; omega
                have bL : (0 : Int) < (B : Int) + 1 := by omega
                have k1 := HT.out.cell (a := (p + 1)) (b := 0) (by omega) (by omega)
                have f1 := (HT.out.rows (p + 1) (by omega)).free 0
                have cx := HT.out.heads rfl (a := p) (by omega)
                have ex := HT.out.cell (a := p) (b := 0) (by omega) (by omega)
                rw [f_done (by omega), HVA.out] at ex
                obtain ⟨r0, r1⟩ := race_kept H0.out.1 HT.out.bel
                try simp only [Int.natCast_succ, Int.natCast_zero]
                go_wp2_with fail
                refine (HWX.out _).mono ?_; rintro e w5 ⟨rfl, b5⟩
                have HT5 := Lib.hid (HT.out.keep b5)
                clear b5 HWX k1 f1 cx ex r0 r1
                clear HT
                have k1 := HT5.out.cell (a := (p + 1)) (b := 0) (by omega) (by omega)
                have f1 := (HT5.out.rows (p + 1) (by omega)).free 0
                have cx := HT5.out.heads rfl (a := p) (by omega)
                have ex := HT5.out.cell (a := p) (b := 0) (by omega) (by omega)
                rw [f_done (by omega), HVA.out] at ex
                obtain ⟨r0, r1⟩ := race_kept H0.out.1 HT5.out.bel
                go_wp2_with fail
                refine (HL.out _).mono ?_; rintro e w7 ⟨rfl, rfl⟩
                have H2 := Lib.hid (HT5.out.put (x := (p + 1)) (y := 0) (by omega) (by omega) (u := v4) (H := fwdF rt rl (((p + 1) : Nat) : Int) ((0 + 1 : Nat) : Int)) (fun a b _ _ => by rw [f_next, HV4.out]))
                clear HT5
                go_wp2_with fail
                go_roundw
                case rel => exact ⟨0 + 1, by go_num, by omega, H2⟩
                case measure => simp [intOf] <;> omega
              · have hst := @upR_step rt rl (((p + 1) : Nat) : Int) ((0 : Nat) : Int) (by omega) (by omega) (by omega)
                unfold upA1 upB1 at hst
                rw [show ((p + 1 : Nat) : Int) - 1 = (p : Int) from by omega] at hst
                rw [if_neg (show ¬ (0 < ((p + 1 : Nat) : Int) ∧ wonN rt rl p ((0 : Nat) : Int) = 0) from fun h => hwx h.2)] at hst
                rw [if_neg (show ¬ (0 < ((0 : Nat) : Int) ∧ wonN rt rl (((p + 1) : Nat) : Int) (((0 : Nat) : Int) - 1) = 0) from fun h => absurd h.1 (by omega))] at hst
                try simp only [Int.add_zero, Int.zero_add] at hst
                have hwon := fun w => raWon_any rt rl p ((0 : Nat) : Int) w (by omega) (by omega) (by omega) (by omega)
                have qx0 : (wonI rt rl p ((0 : Nat) : Int) == 0) = false := by simp only [beq_eq_false_iff_ne, ne_eq]; intro h; exact hwx (won_zero.1 h)
                generalize wonI rt rl p ((0 : Nat) : Int) = ux at *
                try simp only [Int.natCast_succ, Int.natCast_zero] at hwon
                have HWX := Lib.hid hwon; clear hwon hwx
                have bx := upR_bd rt rl p ((0 : Nat) : Int)
                unfold capR at bx
                generalize hva : upR rt rl p ((0 : Nat) : Int) = va at *
                have HVA := Lib.hid hva; clear hva
                have HL := Lib.hid (fun w => least_any (0) w)
                rw [← hst] at HL
                generalize hv4 : upR rt rl (((p + 1) : Nat) : Int) ((0 : Nat) : Int) = v4 at *
                have HV4 := Lib.hid hv4; clear hv4 hst
                have bK : (p : Int) + 1 < (p : Int) + 1 + 1 := by omega
                have bP : (p : Int) < (p : Int) + 1 + 1 := by omega
                have dP : (0 : Int) < (p : Int) + 1 := by omega
                have qx : ((p : Int) + 1 == 0) = false := by simp; omega
                have bL : (0 : Int) < (B : Int) + 1 := by omega
                have k1 := HT.out.cell (a := (p + 1)) (b := 0) (by omega) (by omega)
                have f1 := (HT.out.rows (p + 1) (by omega)).free 0
                have cx := HT.out.heads rfl (a := p) (by omega)
                have ex := HT.out.cell (a := p) (b := 0) (by omega) (by omega)
                rw [f_done (by omega), HVA.out] at ex
                obtain ⟨r0, r1⟩ := race_kept H0.out.1 HT.out.bel
                try simp only [Int.natCast_succ, Int.natCast_zero]
                go_wp2_with fail
                refine (HWX.out _).mono ?_; rintro e w5 ⟨rfl, b5⟩
                have HT5 := Lib.hid (HT.out.keep b5)
                clear b5 HWX k1 f1 cx ex r0 r1
                clear HT
                have k1 := HT5.out.cell (a := (p + 1)) (b := 0) (by omega) (by omega)
                have f1 := (HT5.out.rows (p + 1) (by omega)).free 0
                have cx := HT5.out.heads rfl (a := p) (by omega)
                have ex := HT5.out.cell (a := p) (b := 0) (by omega) (by omega)
                rw [f_done (by omega), HVA.out] at ex
                obtain ⟨r0, r1⟩ := race_kept H0.out.1 HT5.out.bel
                go_wp2_with fail
                refine (HL.out _).mono ?_; rintro e w7 ⟨rfl, rfl⟩
                have H2 := Lib.hid (HT5.out.put (x := (p + 1)) (y := 0) (by omega) (by omega) (u := v4) (H := fwdF rt rl (((p + 1) : Nat) : Int) ((0 + 1 : Nat) : Int)) (fun a b _ _ => by rw [f_next, HV4.out]))
                clear HT5
                go_wp2_with fail
                go_roundw
                case rel => exact ⟨0 + 1, by go_num, by omega, H2⟩
                case measure => simp [intOf] <;> omega
            · by_cases hwx : wonN rt rl p ((q + 1 : Nat) : Int) = 0
              · by_cases hwy : wonN rt rl ((p + 1 : Nat) : Int) q = 0
                · have hst := @upR_step rt rl (((p + 1) : Nat) : Int) (((q + 1) : Nat) : Int) (by omega) (by omega) (by omega)
                  unfold upA1 upB1 at hst
                  rw [show ((p + 1 : Nat) : Int) - 1 = (p : Int) from by omega] at hst
                  rw [show ((q + 1 : Nat) : Int) - 1 = (q : Int) from by omega] at hst
                  rw [if_pos (show 0 < ((p + 1 : Nat) : Int) ∧ wonN rt rl p (((q + 1) : Nat) : Int) = 0 from ⟨by omega, hwx⟩)] at hst
                  rw [if_pos (show 0 < ((q + 1 : Nat) : Int) ∧ wonN rt rl (((p + 1) : Nat) : Int) q = 0 from ⟨by omega, hwy⟩)] at hst
                  try simp only [Int.add_zero, Int.zero_add] at hst
                  have hwon := fun w => raWon_any rt rl p (((q + 1) : Nat) : Int) w (by omega) (by omega) (by omega) (by omega)
                  rw [won_zero.2 hwx] at hwon
                  try simp only [Int.natCast_succ, Int.natCast_zero] at hwon
                  have HWX := Lib.hid hwon; clear hwon hwx
                  have bx := upR_bd rt rl p (((q + 1) : Nat) : Int)
                  unfold capR at bx
                  generalize hva : upR rt rl p (((q + 1) : Nat) : Int) = va at *
                  have HVA := Lib.hid hva; clear hva
                  have hwon := fun w => raWon_any rt rl (((p + 1) : Nat) : Int) q w (by omega) (by omega) (by omega) (by omega)
                  rw [won_zero.2 hwy] at hwon
                  try simp only [Int.natCast_succ, Int.natCast_zero] at hwon
                  have HWY := Lib.hid hwon; clear hwon hwy
                  have by_ := upR_bd rt rl (((p + 1) : Nat) : Int) q
                  unfold capR at by_
                  generalize hvb : upR rt rl (((p + 1) : Nat) : Int) q = vb at *
                  have HVB := Lib.hid hvb; clear hvb
                  have HL := Lib.hid (fun w => least_any (va + vb) w)
                  rw [← hst] at HL
                  generalize hv4 : upR rt rl (((p + 1) : Nat) : Int) (((q + 1) : Nat) : Int) = v4 at *
                  have HV4 := Lib.hid hv4; clear hv4 hst
                  have ws : IntKind.i64.wrap (va + vb) = va + vb := IntWalk.i64_in _ (by omega)
                  have bK : (p : Int) + 1 < (p : Int) + 1 + 1 := by omega
                  have bP : (p : Int) < (p : Int) + 1 + 1 := by omega
                  have dP : (0 : Int) < (p : Int) + 1 := by omega
                  have qx : ((p : Int) + 1 == 0) = false := by simp; omega
                  have bL : (q : Int) + 1 < (B : Int) + 1 := by omega
                  have bQ : (q : Int) < (B : Int) + 1 := by omega
                  have dQ : (0 : Int) < (q : Int) + 1 := by omega
                  have dQ2 : (0 : Int) ≤ (q : Int) + 1 := by omega
                  have qy : ((q : Int) + 1 == 0) = false := by simp; omega
                  have k1 := HT.out.cell (a := (p + 1)) (b := (q + 1)) (by omega) (by omega)
                  have f1 := (HT.out.rows (p + 1) (by omega)).free (q + 1)
                  have cx := HT.out.heads rfl (a := p) (by omega)
                  have ex := HT.out.cell (a := p) (b := (q + 1)) (by omega) (by omega)
                  rw [f_done (by omega), HVA.out] at ex
                  have ey := HT.out.cell (a := (p + 1)) (b := q) (by omega) (by omega)
                  rw [f_done (by omega), HVB.out] at ey
                  obtain ⟨r0, r1⟩ := race_kept H0.out.1 HT.out.bel
                  try simp only [Int.natCast_succ, Int.natCast_zero]
                  go_wp2_with fail
                  refine (HWX.out _).mono ?_; rintro e w5 ⟨rfl, b5⟩
                  have HT5 := Lib.hid (HT.out.keep b5)
                  clear b5 HWX k1 f1 cx ex ey r0 r1
                  clear HT
                  have k1 := HT5.out.cell (a := (p + 1)) (b := (q + 1)) (by omega) (by omega)
                  have f1 := (HT5.out.rows (p + 1) (by omega)).free (q + 1)
                  have cx := HT5.out.heads rfl (a := p) (by omega)
                  have ex := HT5.out.cell (a := p) (b := (q + 1)) (by omega) (by omega)
                  rw [f_done (by omega), HVA.out] at ex
                  have ey := HT5.out.cell (a := (p + 1)) (b := q) (by omega) (by omega)
                  rw [f_done (by omega), HVB.out] at ey
                  obtain ⟨r0, r1⟩ := race_kept H0.out.1 HT5.out.bel
                  go_wp2_with fail
                  refine (HWY.out _).mono ?_; rintro e w6 ⟨rfl, b6⟩
                  have HT6 := Lib.hid (HT5.out.keep b6)
                  clear b6 HWY k1 f1 cx ex ey r0 r1
                  clear HT5
                  have k1 := HT6.out.cell (a := (p + 1)) (b := (q + 1)) (by omega) (by omega)
                  have f1 := (HT6.out.rows (p + 1) (by omega)).free (q + 1)
                  have cx := HT6.out.heads rfl (a := p) (by omega)
                  have ex := HT6.out.cell (a := p) (b := (q + 1)) (by omega) (by omega)
                  rw [f_done (by omega), HVA.out] at ex
                  have ey := HT6.out.cell (a := (p + 1)) (b := q) (by omega) (by omega)
                  rw [f_done (by omega), HVB.out] at ey
                  obtain ⟨r0, r1⟩ := race_kept H0.out.1 HT6.out.bel
                  go_wp2_with fail
                  refine (HL.out _).mono ?_; rintro e w7 ⟨rfl, rfl⟩
                  have H2 := Lib.hid (HT6.out.put (x := (p + 1)) (y := (q + 1)) (by omega) (by omega) (u := v4) (H := fwdF rt rl (((p + 1) : Nat) : Int) (((q + 1) + 1 : Nat) : Int)) (fun a b _ _ => by rw [f_next, HV4.out]))
                  clear HT6
                  go_wp2_with fail
                  go_roundw
                  case rel => exact ⟨(q + 1) + 1, by go_num, by omega, H2⟩
                  case measure => simp [intOf] <;> omega
                · have hst := @upR_step rt rl (((p + 1) : Nat) : Int) (((q + 1) : Nat) : Int) (by omega) (by omega) (by omega)
                  unfold upA1 upB1 at hst
                  rw [show ((p + 1 : Nat) : Int) - 1 = (p : Int) from by omega] at hst
                  rw [show ((q + 1 : Nat) : Int) - 1 = (q : Int) from by omega] at hst
                  rw [if_pos (show 0 < ((p + 1 : Nat) : Int) ∧ wonN rt rl p (((q + 1) : Nat) : Int) = 0 from ⟨by omega, hwx⟩)] at hst
                  rw [if_neg (show ¬ (0 < ((q + 1 : Nat) : Int) ∧ wonN rt rl (((p + 1) : Nat) : Int) q = 0) from fun h => hwy h.2)] at hst
                  try simp only [Int.add_zero, Int.zero_add] at hst
                  have hwon := fun w => raWon_any rt rl p (((q + 1) : Nat) : Int) w (by omega) (by omega) (by omega) (by omega)
                  rw [won_zero.2 hwx] at hwon
                  try simp only [Int.natCast_succ, Int.natCast_zero] at hwon
                  have HWX := Lib.hid hwon; clear hwon hwx
                  have bx := upR_bd rt rl p (((q + 1) : Nat) : Int)
                  unfold capR at bx
                  generalize hva : upR rt rl p (((q + 1) : Nat) : Int) = va at *
                  have HVA := Lib.hid hva; clear hva
                  have hwon := fun w => raWon_any rt rl (((p + 1) : Nat) : Int) q w (by omega) (by omega) (by omega) (by omega)
                  have qy0 : (wonI rt rl (((p + 1) : Nat) : Int) q == 0) = false := by simp only [beq_eq_false_iff_ne, ne_eq]; intro h; exact hwy (won_zero.1 h)
                  generalize wonI rt rl (((p + 1) : Nat) : Int) q = uy at *
                  try simp only [Int.natCast_succ, Int.natCast_zero] at hwon
                  have HWY := Lib.hid hwon; clear hwon hwy
                  have by_ := upR_bd rt rl (((p + 1) : Nat) : Int) q
                  unfold capR at by_
                  generalize hvb : upR rt rl (((p + 1) : Nat) : Int) q = vb at *
                  have HVB := Lib.hid hvb; clear hvb
                  have HL := Lib.hid (fun w => least_any (va) w)
                  rw [← hst] at HL
                  generalize hv4 : upR rt rl (((p + 1) : Nat) : Int) (((q + 1) : Nat) : Int) = v4 at *
                  have HV4 := Lib.hid hv4; clear hv4 hst
                  have bK : (p : Int) + 1 < (p : Int) + 1 + 1 := by omega
                  have bP : (p : Int) < (p : Int) + 1 + 1 := by omega
                  have dP : (0 : Int) < (p : Int) + 1 := by omega
                  have qx : ((p : Int) + 1 == 0) = false := by simp; omega
                  have bL : (q : Int) + 1 < (B : Int) + 1 := by omega
                  have bQ : (q : Int) < (B : Int) + 1 := by omega
                  have dQ : (0 : Int) < (q : Int) + 1 := by omega
                  have dQ2 : (0 : Int) ≤ (q : Int) + 1 := by omega
                  have qy : ((q : Int) + 1 == 0) = false := by simp; omega
                  have k1 := HT.out.cell (a := (p + 1)) (b := (q + 1)) (by omega) (by omega)
                  have f1 := (HT.out.rows (p + 1) (by omega)).free (q + 1)
                  have cx := HT.out.heads rfl (a := p) (by omega)
                  have ex := HT.out.cell (a := p) (b := (q + 1)) (by omega) (by omega)
                  rw [f_done (by omega), HVA.out] at ex
                  have ey := HT.out.cell (a := (p + 1)) (b := q) (by omega) (by omega)
                  rw [f_done (by omega), HVB.out] at ey
                  obtain ⟨r0, r1⟩ := race_kept H0.out.1 HT.out.bel
                  try simp only [Int.natCast_succ, Int.natCast_zero]
                  go_wp2_with fail
                  refine (HWX.out _).mono ?_; rintro e w5 ⟨rfl, b5⟩
                  have HT5 := Lib.hid (HT.out.keep b5)
                  clear b5 HWX k1 f1 cx ex ey r0 r1
                  clear HT
                  have k1 := HT5.out.cell (a := (p + 1)) (b := (q + 1)) (by omega) (by omega)
                  have f1 := (HT5.out.rows (p + 1) (by omega)).free (q + 1)
                  have cx := HT5.out.heads rfl (a := p) (by omega)
                  have ex := HT5.out.cell (a := p) (b := (q + 1)) (by omega) (by omega)
                  rw [f_done (by omega), HVA.out] at ex
                  have ey := HT5.out.cell (a := (p + 1)) (b := q) (by omega) (by omega)
                  rw [f_done (by omega), HVB.out] at ey
                  obtain ⟨r0, r1⟩ := race_kept H0.out.1 HT5.out.bel
                  go_wp2_with fail
                  refine (HWY.out _).mono ?_; rintro e w6 ⟨rfl, b6⟩
                  have HT6 := Lib.hid (HT5.out.keep b6)
                  clear b6 HWY k1 f1 cx ex ey r0 r1
                  clear HT5
                  have k1 := HT6.out.cell (a := (p + 1)) (b := (q + 1)) (by omega) (by omega)
                  have f1 := (HT6.out.rows (p + 1) (by omega)).free (q + 1)
                  have cx := HT6.out.heads rfl (a := p) (by omega)
                  have ex := HT6.out.cell (a := p) (b := (q + 1)) (by omega) (by omega)
                  rw [f_done (by omega), HVA.out] at ex
                  have ey := HT6.out.cell (a := (p + 1)) (b := q) (by omega) (by omega)
                  rw [f_done (by omega), HVB.out] at ey
                  obtain ⟨r0, r1⟩ := race_kept H0.out.1 HT6.out.bel
                  go_wp2_with fail
                  refine (HL.out _).mono ?_; rintro e w7 ⟨rfl, rfl⟩
                  have H2 := Lib.hid (HT6.out.put (x := (p + 1)) (y := (q + 1)) (by omega) (by omega) (u := v4) (H := fwdF rt rl (((p + 1) : Nat) : Int) (((q + 1) + 1 : Nat) : Int)) (fun a b _ _ => by rw [f_next, HV4.out]))
                  clear HT6
                  go_wp2_with fail
                  go_roundw
                  case rel => exact ⟨(q + 1) + 1, by go_num, by omega, H2⟩
                  case measure => simp [intOf] <;> omega
              · by_cases hwy : wonN rt rl ((p + 1 : Nat) : Int) q = 0
                · have hst := @upR_step rt rl (((p + 1) : Nat) : Int) (((q + 1) : Nat) : Int) (by omega) (by omega) (by omega)
                  unfold upA1 upB1 at hst
                  rw [show ((p + 1 : Nat) : Int) - 1 = (p : Int) from by omega] at hst
                  rw [show ((q + 1 : Nat) : Int) - 1 = (q : Int) from by omega] at hst
                  rw [if_neg (show ¬ (0 < ((p + 1 : Nat) : Int) ∧ wonN rt rl p (((q + 1) : Nat) : Int) = 0) from fun h => hwx h.2)] at hst
                  rw [if_pos (show 0 < ((q + 1 : Nat) : Int) ∧ wonN rt rl (((p + 1) : Nat) : Int) q = 0 from ⟨by omega, hwy⟩)] at hst
                  try simp only [Int.add_zero, Int.zero_add] at hst
                  have hwon := fun w => raWon_any rt rl p (((q + 1) : Nat) : Int) w (by omega) (by omega) (by omega) (by omega)
                  have qx0 : (wonI rt rl p (((q + 1) : Nat) : Int) == 0) = false := by simp only [beq_eq_false_iff_ne, ne_eq]; intro h; exact hwx (won_zero.1 h)
                  generalize wonI rt rl p (((q + 1) : Nat) : Int) = ux at *
                  try simp only [Int.natCast_succ, Int.natCast_zero] at hwon
                  have HWX := Lib.hid hwon; clear hwon hwx
                  have bx := upR_bd rt rl p (((q + 1) : Nat) : Int)
                  unfold capR at bx
                  generalize hva : upR rt rl p (((q + 1) : Nat) : Int) = va at *
                  have HVA := Lib.hid hva; clear hva
                  have hwon := fun w => raWon_any rt rl (((p + 1) : Nat) : Int) q w (by omega) (by omega) (by omega) (by omega)
                  rw [won_zero.2 hwy] at hwon
                  try simp only [Int.natCast_succ, Int.natCast_zero] at hwon
                  have HWY := Lib.hid hwon; clear hwon hwy
                  have by_ := upR_bd rt rl (((p + 1) : Nat) : Int) q
                  unfold capR at by_
                  generalize hvb : upR rt rl (((p + 1) : Nat) : Int) q = vb at *
                  have HVB := Lib.hid hvb; clear hvb
                  have HL := Lib.hid (fun w => least_any (vb) w)
                  rw [← hst] at HL
                  generalize hv4 : upR rt rl (((p + 1) : Nat) : Int) (((q + 1) : Nat) : Int) = v4 at *
                  have HV4 := Lib.hid hv4; clear hv4 hst
                  have bK : (p : Int) + 1 < (p : Int) + 1 + 1 := by omega
                  have bP : (p : Int) < (p : Int) + 1 + 1 := by omega
                  have dP : (0 : Int) < (p : Int) + 1 := by omega
                  have qx : ((p : Int) + 1 == 0) = false := by simp; omega
                  have bL : (q : Int) + 1 < (B : Int) + 1 := by omega
                  have bQ : (q : Int) < (B : Int) + 1 := by omega
                  have dQ : (0 : Int) < (q : Int) + 1 := by omega
                  have dQ2 : (0 : Int) ≤ (q : Int) + 1 := by omega
                  have qy : ((q : Int) + 1 == 0) = false := by simp; omega
                  have k1 := HT.out.cell (a := (p + 1)) (b := (q + 1)) (by omega) (by omega)
                  have f1 := (HT.out.rows (p + 1) (by omega)).free (q + 1)
                  have cx := HT.out.heads rfl (a := p) (by omega)
                  have ex := HT.out.cell (a := p) (b := (q + 1)) (by omega) (by omega)
                  rw [f_done (by omega), HVA.out] at ex
                  have ey := HT.out.cell (a := (p + 1)) (b := q) (by omega) (by omega)
                  rw [f_done (by omega), HVB.out] at ey
                  obtain ⟨r0, r1⟩ := race_kept H0.out.1 HT.out.bel
                  try simp only [Int.natCast_succ, Int.natCast_zero]
                  go_wp2_with fail
                  refine (HWX.out _).mono ?_; rintro e w5 ⟨rfl, b5⟩
                  have HT5 := Lib.hid (HT.out.keep b5)
                  clear b5 HWX k1 f1 cx ex ey r0 r1
                  clear HT
                  have k1 := HT5.out.cell (a := (p + 1)) (b := (q + 1)) (by omega) (by omega)
                  have f1 := (HT5.out.rows (p + 1) (by omega)).free (q + 1)
                  have cx := HT5.out.heads rfl (a := p) (by omega)
                  have ex := HT5.out.cell (a := p) (b := (q + 1)) (by omega) (by omega)
                  rw [f_done (by omega), HVA.out] at ex
                  have ey := HT5.out.cell (a := (p + 1)) (b := q) (by omega) (by omega)
                  rw [f_done (by omega), HVB.out] at ey
                  obtain ⟨r0, r1⟩ := race_kept H0.out.1 HT5.out.bel
                  go_wp2_with fail
                  refine (HWY.out _).mono ?_; rintro e w6 ⟨rfl, b6⟩
                  have HT6 := Lib.hid (HT5.out.keep b6)
                  clear b6 HWY k1 f1 cx ex ey r0 r1
                  clear HT5
                  have k1 := HT6.out.cell (a := (p + 1)) (b := (q + 1)) (by omega) (by omega)
                  have f1 := (HT6.out.rows (p + 1) (by omega)).free (q + 1)
                  have cx := HT6.out.heads rfl (a := p) (by omega)
                  have ex := HT6.out.cell (a := p) (b := (q + 1)) (by omega) (by omega)
                  rw [f_done (by omega), HVA.out] at ex
                  have ey := HT6.out.cell (a := (p + 1)) (b := q) (by omega) (by omega)
                  rw [f_done (by omega), HVB.out] at ey
                  obtain ⟨r0, r1⟩ := race_kept H0.out.1 HT6.out.bel
                  go_wp2_with fail
                  refine (HL.out _).mono ?_; rintro e w7 ⟨rfl, rfl⟩
                  have H2 := Lib.hid (HT6.out.put (x := (p + 1)) (y := (q + 1)) (by omega) (by omega) (u := v4) (H := fwdF rt rl (((p + 1) : Nat) : Int) (((q + 1) + 1 : Nat) : Int)) (fun a b _ _ => by rw [f_next, HV4.out]))
                  clear HT6
                  go_wp2_with fail
                  go_roundw
                  case rel => exact ⟨(q + 1) + 1, by go_num, by omega, H2⟩
                  case measure => simp [intOf] <;> omega
                · have hst := @upR_step rt rl (((p + 1) : Nat) : Int) (((q + 1) : Nat) : Int) (by omega) (by omega) (by omega)
                  unfold upA1 upB1 at hst
                  rw [show ((p + 1 : Nat) : Int) - 1 = (p : Int) from by omega] at hst
                  rw [show ((q + 1 : Nat) : Int) - 1 = (q : Int) from by omega] at hst
                  rw [if_neg (show ¬ (0 < ((p + 1 : Nat) : Int) ∧ wonN rt rl p (((q + 1) : Nat) : Int) = 0) from fun h => hwx h.2)] at hst
                  rw [if_neg (show ¬ (0 < ((q + 1 : Nat) : Int) ∧ wonN rt rl (((p + 1) : Nat) : Int) q = 0) from fun h => hwy h.2)] at hst
                  try simp only [Int.add_zero, Int.zero_add] at hst
                  have hwon := fun w => raWon_any rt rl p (((q + 1) : Nat) : Int) w (by omega) (by omega) (by omega) (by omega)
                  have qx0 : (wonI rt rl p (((q + 1) : Nat) : Int) == 0) = false := by simp only [beq_eq_false_iff_ne, ne_eq]; intro h; exact hwx (won_zero.1 h)
                  generalize wonI rt rl p (((q + 1) : Nat) : Int) = ux at *
                  try simp only [Int.natCast_succ, Int.natCast_zero] at hwon
                  have HWX := Lib.hid hwon; clear hwon hwx
                  have bx := upR_bd rt rl p (((q + 1) : Nat) : Int)
                  unfold capR at bx
                  generalize hva : upR rt rl p (((q + 1) : Nat) : Int) = va at *
                  have HVA := Lib.hid hva; clear hva
                  have hwon := fun w => raWon_any rt rl (((p + 1) : Nat) : Int) q w (by omega) (by omega) (by omega) (by omega)
                  have qy0 : (wonI rt rl (((p + 1) : Nat) : Int) q == 0) = false := by simp only [beq_eq_false_iff_ne, ne_eq]; intro h; exact hwy (won_zero.1 h)
                  generalize wonI rt rl (((p + 1) : Nat) : Int) q = uy at *
                  try simp only [Int.natCast_succ, Int.natCast_zero] at hwon
                  have HWY := Lib.hid hwon; clear hwon hwy
                  have by_ := upR_bd rt rl (((p + 1) : Nat) : Int) q
                  unfold capR at by_
                  generalize hvb : upR rt rl (((p + 1) : Nat) : Int) q = vb at *
                  have HVB := Lib.hid hvb; clear hvb
                  have HL := Lib.hid (fun w => least_any (0) w)
                  rw [← hst] at HL
                  generalize hv4 : upR rt rl (((p + 1) : Nat) : Int) (((q + 1) : Nat) : Int) = v4 at *
                  have HV4 := Lib.hid hv4; clear hv4 hst
                  have bK : (p : Int) + 1 < (p : Int) + 1 + 1 := by omega
                  have bP : (p : Int) < (p : Int) + 1 + 1 := by omega
                  have dP : (0 : Int) < (p : Int) + 1 := by omega
                  have qx : ((p : Int) + 1 == 0) = false := by simp; omega
                  have bL : (q : Int) + 1 < (B : Int) + 1 := by omega
                  have bQ : (q : Int) < (B : Int) + 1 := by omega
                  have dQ : (0 : Int) < (q : Int) + 1 := by omega
                  have dQ2 : (0 : Int) ≤ (q : Int) + 1 := by omega
                  have qy : ((q : Int) + 1 == 0) = false := by simp; omega
                  have k1 := HT.out.cell (a := (p + 1)) (b := (q + 1)) (by omega) (by omega)
                  have f1 := (HT.out.rows (p + 1) (by omega)).free (q + 1)
                  have cx := HT.out.heads rfl (a := p) (by omega)
                  have ex := HT.out.cell (a := p) (b := (q + 1)) (by omega) (by omega)
                  rw [f_done (by omega), HVA.out] at ex
                  have ey := HT.out.cell (a := (p + 1)) (b := q) (by omega) (by omega)
                  rw [f_done (by omega), HVB.out] at ey
                  obtain ⟨r0, r1⟩ := race_kept H0.out.1 HT.out.bel
                  try simp only [Int.natCast_succ, Int.natCast_zero]
                  go_wp2_with fail
                  refine (HWX.out _).mono ?_; rintro e w5 ⟨rfl, b5⟩
                  have HT5 := Lib.hid (HT.out.keep b5)
                  clear b5 HWX k1 f1 cx ex ey r0 r1
                  clear HT
                  have k1 := HT5.out.cell (a := (p + 1)) (b := (q + 1)) (by omega) (by omega)
                  have f1 := (HT5.out.rows (p + 1) (by omega)).free (q + 1)
                  have cx := HT5.out.heads rfl (a := p) (by omega)
                  have ex := HT5.out.cell (a := p) (b := (q + 1)) (by omega) (by omega)
                  rw [f_done (by omega), HVA.out] at ex
                  have ey := HT5.out.cell (a := (p + 1)) (b := q) (by omega) (by omega)
                  rw [f_done (by omega), HVB.out] at ey
                  obtain ⟨r0, r1⟩ := race_kept H0.out.1 HT5.out.bel
                  go_wp2_with fail
                  refine (HWY.out _).mono ?_; rintro e w6 ⟨rfl, b6⟩
                  have HT6 := Lib.hid (HT5.out.keep b6)
                  clear b6 HWY k1 f1 cx ex ey r0 r1
                  clear HT5
                  have k1 := HT6.out.cell (a := (p + 1)) (b := (q + 1)) (by omega) (by omega)
                  have f1 := (HT6.out.rows (p + 1) (by omega)).free (q + 1)
                  have cx := HT6.out.heads rfl (a := p) (by omega)
                  have ex := HT6.out.cell (a := p) (b := (q + 1)) (by omega) (by omega)
                  rw [f_done (by omega), HVA.out] at ex
                  have ey := HT6.out.cell (a := (p + 1)) (b := q) (by omega) (by omega)
                  rw [f_done (by omega), HVB.out] at ey
                  obtain ⟨r0, r1⟩ := race_kept H0.out.1 HT6.out.bel
                  go_wp2_with fail
                  refine (HL.out _).mono ?_; rintro e w7 ⟨rfl, rfl⟩
                  have H2 := Lib.hid (HT6.out.put (x := (p + 1)) (y := (q + 1)) (by omega) (by omega) (u := v4) (H := fwdF rt rl (((p + 1) : Nat) : Int) (((q + 1) + 1 : Nat) : Int)) (fun a b _ _ => by rw [f_next, HV4.out]))
                  clear HT6
                  go_wp2_with fail
                  go_roundw
                  case rel => exact ⟨(q + 1) + 1, by go_num, by omega, H2⟩
                  case measure => simp [intOf] <;> omega
        · obtain rfl : l = B + 1 := by omega
          have hlli : ¬ ((B + 1 : Nat) : Int) < (B : Int) + 1 := by omega
          have H2 : Hid (TabW w0 wr (.slice (some ⟨gv, 0, none⟩) (k + 1) cv) bk2 (k + 1) (B + 1) (fwdF rt rl ((k + 1 : Nat) : Int) 0)) :=
            HT.out.congr (fun a b _ hb => by rw [Int.natCast_succ]; exact f_row k (B + 1) a b hb)
          clear HT
          go_wp2_with fail
          go_roundw
          case rel => exact ⟨k + 1, bk2, by go_num, by omega, H2⟩
          case measure => simp [intOf] <;> omega
    · obtain rfl : k = A + 1 := by omega
      have hlti : ¬ ((A + 1 : Nat) : Int) ≤ (A : Int) := by omega
      obtain ⟨gv, cv, hv, -⟩ := HT.out.shape (by omega)
      subst hv
      have HF : Hid (TabW w0 wr (.slice (some ⟨gv, 0, none⟩) (A + 1) cv) bk (A + 1) (B + 1) (upR rt rl) ∧ Below w.heap.size w wr) :=
        ⟨HT.out.congr (fun a b ha _ => (f_all (A + 1) a b ha).symm), H0.out.2.trans (HT.out.bel.mono H0.out.2.size)⟩
      clear HT
      go_wp2_with fail
      go_ret
      first | exact ⟨_, bk, w0, rfl, HF.out⟩ | exact ⟨_, rfl, bk, w0, HF.out⟩ | exact ⟨_, rfl, ⟨bk, w0, HF.out.1⟩, HF.out.2⟩ | exact ⟨_, rfl, bk, ⟨w0, HF.out.1⟩, HF.out.2⟩

end Go.Proofs.Ytooaeafnneikkaa
