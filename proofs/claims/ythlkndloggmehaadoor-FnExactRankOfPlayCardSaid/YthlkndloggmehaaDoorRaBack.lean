/-
  Races: the model's table of the plays that go on to a score.
-/
import Derived.Test.YthlkndloggmehaaDoorRaModM
import Derived.Deep.CutRange
namespace Go.Proofs.YthlkndloggmehaaDoor
open Go.RowKit
set_option linter.unusedVariables false
set_option linter.unusedSimpArgs false

set_option maxHeartbeats 400000 in
theorem least_any (n : Int) (w : World) : Calls Tryd.prog 40 #[.int .i64 n, .int .i64 1000000000000001] w fun e w' => e = .returned (.int .i64 (capM n)) ∧ w = w' := by
  by_cases h : n < 1000000000000001
  · have hq : decide (n < 1000000000000001) = true := by simpa using h
    have e : capM n = n := by unfold capM capR; rw [if_pos h]
    rw [e]; clear h e
    go_enter Tryd.func40, Tryd.ntmps40
    go_wp2
    go_ret
    exact ⟨rfl, rfl⟩
  · have hq : decide (n < 1000000000000001) = false := by simpa using h
    have e : capM n = 1000000000000001 := by unfold capM capR; rw [if_neg h]
    rw [e]; clear h e
    go_enter Tryd.func40, Tryd.ntmps40
    go_wp2
    go_ret
    exact ⟨rfl, rfl⟩

/-- A table of which the rows from k on, and of the row ahead of these the cells from j on, are done, and nothing else. -/
def backF (rt rl A B : Int) (k j a b : Int) : Int := if k ≤ a ∨ (a = k - 1 ∧ j ≤ b) then onR rt rl A B a b else 0
theorem b_start {rt rl A B : Int} (a b : Nat) (ha : (a : Int) ≤ A) (hb : (b : Int) ≤ B) : backF rt rl A B (A + 1) (B + 1) a b = 0 := by
  unfold backF; rw [if_neg (by omega)]
theorem b_here {rt rl A B : Int} (x y : Nat) : backF rt rl A B ((x : Int) + 1) ((y : Int) + 1) x y = 0 := by
  unfold backF; rw [if_neg (by omega)]
theorem b_a {rt rl A B : Int} (x y : Nat) : backF rt rl A B ((x : Int) + 1) ((y : Int) + 1) ((x + 1 : Nat) : Int) y = onR rt rl A B ((x : Int) + 1) y := by
  unfold backF; rw [if_pos (by omega), Int.natCast_succ]
theorem b_b {rt rl A B : Int} (x y : Nat) : backF rt rl A B ((x : Int) + 1) ((y : Int) + 1) x ((y + 1 : Nat) : Int) = onR rt rl A B x ((y : Int) + 1) := by
  unfold backF; rw [if_pos (by omega), Int.natCast_succ]
theorem b_put {rt rl A B : Int} (x y a b : Nat) : backF rt rl A B ((x : Int) + 1) (y : Int) a b = if a = x ∧ b = y then onR rt rl A B x y else backF rt rl A B ((x : Int) + 1) ((y : Int) + 1) a b := by
  unfold backF
  by_cases e : a = x ∧ b = y
  · obtain ⟨rfl, rfl⟩ := e
    rw [if_pos (by omega), if_pos ⟨rfl, rfl⟩]
  · rw [if_neg e]
    by_cases e2 : (x : Int) + 1 ≤ a ∨ ((a : Int) = (x : Int) + 1 - 1 ∧ (y : Int) + 1 ≤ b)
    · rw [if_pos e2, if_pos (by omega)]
    · rw [if_neg e2, if_neg (by omega)]
theorem b_same {rt rl A B : Int} {x y : Nat} (h : onR rt rl A B x y = 0) (a b : Nat) : backF rt rl A B ((x : Int) + 1) (y : Int) a b = backF rt rl A B ((x : Int) + 1) ((y : Int) + 1) a b := by
  rw [b_put]
  by_cases e : a = x ∧ b = y
  · obtain ⟨rfl, rfl⟩ := e
    rw [if_pos ⟨rfl, rfl⟩, b_here, h]
  · rw [if_neg e]
theorem b_row {rt rl A B : Int} (x a b : Nat) (hb : (b : Int) ≤ B) : backF rt rl A B (x : Int) (B + 1) a b = backF rt rl A B ((x : Int) + 1) 0 a b := by
  unfold backF
  by_cases e : (x : Int) + 1 ≤ a ∨ ((a : Int) = (x : Int) + 1 - 1 ∧ (0 : Int) ≤ b)
  · rw [if_pos e, if_pos (by omega)]
  · rw [if_neg e, if_neg (by omega)]
theorem b_all {rt rl A B : Int} (a b : Nat) : backF rt rl A B 0 (B + 1) a b = onR rt rl A B a b := by
  unfold backF; rw [if_pos (by omega)]

/-- The race in its block, behind a table that is made. -/
theorem race_kept {w w0 wr : World} {rt rl : Int} (hp : Pair w0 w.heap.size rt rl) (hb : Below w0.heap.size w0 wr) : wr.cell? ⟨w.heap.size, 0, none⟩ = some (.int .i64 rt) ∧ wr.cell? ⟨w.heap.size, 1, none⟩ = some (.int .i64 rl) :=
  ⟨by rw [hb.cell (p := ⟨w.heap.size, 0, none⟩) hp.1]; exact hp.2.1, by rw [hb.cell (p := ⟨w.heap.size, 1, none⟩) hp.1]; exact hp.2.2.1⟩

set_option maxRecDepth 100000 in
set_option maxHeartbeats 12800000 in
theorem raBack_any (rt rl : Int) (A B : Nat) (hAB : A + B ≤ 100) (w : World) :
    Calls Tryd.prog 39 #[.agg #[.int .i64 rt, .int .i64 rl], .int .i64 A, .int .i64 B] w fun e w' => ∃ v bk wb, e = .returned v ∧ TabW wb w' v bk (A + 1) (B + 1) (onR rt rl A B) ∧ Below w.heap.size w w' := by
  obtain ⟨i0, hi, hz0, hz1, hz2⟩ := info_parts infoSlice
  have HI := Lib.hid (And.intro hi (And.intro hz0 (And.intro hz1 hz2))); clear hi hz0 hz1 hz2
  obtain ⟨i1, hi, hz0, hz1, hz2⟩ := info_parts infoInt
  have HJ := Lib.hid (And.intro hi (And.intro hz0 (And.intro hz1 hz2))); clear hi hz0 hz1 hz2
  have hp0 := Pair.new w rt rl 37
  have hb0 := below_new w (.cells #[.int .i64 rt, .int .i64 rl] 37)
  have H0 := Lib.hid (And.intro hp0 hb0); clear hp0 hb0
  go_enter Tryd.func39, Tryd.ntmps39
  go_wp2_with fail
  generalize hw0 : w.alloc (.cells #[.int .i64 rt, .int .i64 rl] 37) = w0 at *
  clear hw0
  have HT0 : Hid (TabW w0 w0 (.slice none 0 0) (fun _ => 0) 0 (B + 1) (fun _ _ => 0)) := TabW.nil _ _ _ _
  go_loopw [7, 8] (fun v i wr => ∃ (k : Nat) (bk : Nat → Nat), i = .int .i64 k ∧ k ≤ A + 1 ∧ Hid (TabW w0 wr v bk k (B + 1) (fun _ _ => 0))) (fun _ i _ => A + 1 - (intOf i).toNat)
  case atStart => exact ⟨0, _, rfl, Nat.zero_le _, HT0⟩
  case round =>
    clear HT0
    obtain ⟨k, bk, rfl, hk, HT⟩ := hrel
    by_cases hlt : k ≤ A
    · have hlti : (k : Int) ≤ (A : Int) := by omega
      go_wp2_with (at_make; refine wpList_make_full _ rfl _ _ _ rfl wr.heap.size _ i1 _ 1 Tryd.underlying63 HJ.out.1 HJ.out.2.1 HJ.out.2.2.1 .i64 .i64 _ _ (B + 1) rfl rfl rfl rfl ?_ ?_ (Nat.le_refl _) ?_)
      · rw [HJ.out.2.2.2]; omega
      · unfold maxLen; omega
      intro w2 hown hgrow
      have hr := (RowAt.made (e := 3) hown).1
      have hbel : Below wr.heap.size wr w2 := (Below.refl _ _).grown hgrow (Nat.le_refl _) (fun k hk => by cases hk)
      have hbs := HT.out.bel.size
      have hbs2 := hbel.size
      have O := Lib.hid (And.intro (owns_below HT.out.hd hbel) (And.intro hr hbel))
      clear hr hbel hown hgrow
      go_wp2_with (at_builtin; refine wpList_append_own_at _ rfl _ _ 60 rfl w0.heap.size 63 i0 (.slice none 0 0) 1 24 Tryd.underlying60 HI.out.1 HI.out.2.1 HI.out.2.2.1 HI.out.2.2.2 rfl (by decide) _ _ _ rfl (owns_below O.out.1 (below_new _ _)) ⟨w2.heap.size, 0, none⟩ 1 1 [.slice (some ⟨wr.heap.size, 0, none⟩) (B + 1) (B + 1)] rfl rfl (cell_one_new _ _ _) ?_ ?_ ?_ ?_ ?_)
      · first | rfl | (intro u hu; simp at hu; subst hu; rfl)
      · unfold maxLen; omega
      · omega
      · first | omega | (simp; omega)
      intro v' w5 hown5 hgrow5 _ _
      have H5 := Lib.hid (HT.out.snoc O.out.2.2 O.out.2.1 (fun b hb => rfl) hown5 hgrow5)
      clear hown5 hgrow5 O HT hbs hbs2
      go_wp2_with fail
      go_roundw
      case rel => exact ⟨k + 1, _, by go_num, by omega, H5⟩
      case measure => simp [intOf] <;> omega
    · obtain rfl : k = A + 1 := by omega
      have hlti : ¬ ((A + 1 : Nat) : Int) ≤ (A : Int) := by omega
      obtain ⟨gv, cv, hv, -⟩ := HT.out.shape (by omega)
      have HT2 : Hid (TabW w0 wr (.slice (some ⟨gv, 0, none⟩) (A + 1) cv) bk (A + 1) (B + 1) (backF rt rl A B ((A + 1 : Nat) : Int) ((B : Int) + 1))) := by
        rw [← hv, Int.natCast_succ]
        exact HT.out.congr (fun a b ha hb => b_start a b (by omega) (by omega))
      subst hv
      clear HT
      go_wp2_with fail
      clear hlti
      go_loopw [9] (fun i wr => ∃ k : Nat, i = .int .i64 ((k : Int) - 1) ∧ k ≤ A + 1 ∧ Hid (TabW w0 wr (.slice (some ⟨gv, 0, none⟩) (A + 1) cv) bk (A + 1) (B + 1) (backF rt rl A B (k : Int) ((B : Int) + 1)))) (fun i _ => (intOf i + 1).toNat)
      case atStart => exact ⟨A + 1, by rw [Int.natCast_succ]; congr 1; omega, Nat.le_refl _, HT2⟩
      case round =>
        clear HT2
        obtain ⟨k, rfl, hk, HT⟩ := hrel
        cases k with
        | zero =>
          have HF : Hid (TabW w0 wr (.slice (some ⟨gv, 0, none⟩) (A + 1) cv) bk (A + 1) (B + 1) (onR rt rl A B) ∧ Below w.heap.size w wr) :=
            ⟨HT.out.congr (fun a b _ _ => (b_all a b).symm), H0.out.2.trans (HT.out.bel.mono H0.out.2.size)⟩
          clear HT
          have e0 : ((0 : Nat) : Int) - 1 = -1 := by omega
          rw [e0]; clear e0
          go_wp2_with fail
          go_ret
          exact ⟨_, bk, w0, rfl, HF.out⟩
        | succ x =>
          have e0 : ((x + 1 : Nat) : Int) - 1 = x := by omega
          rw [e0] at *
          rw [Int.natCast_succ] at HT
          have d0 : (0 : Int) ≤ (x : Int) := by omega
          have bA : (x : Int) < (A : Int) + 1 := by omega
          have h1 := HT.out.heads rfl (a := x) (by omega)
          go_wp2_with fail
          clear h1
          go_loopw [11] (fun i wr => ∃ l : Nat, i = .int .i64 ((l : Int) - 1) ∧ l ≤ B + 1 ∧ Hid (TabW w0 wr (.slice (some ⟨gv, 0, none⟩) (A + 1) cv) bk (A + 1) (B + 1) (backF rt rl A B ((x : Int) + 1) (l : Int)))) (fun i _ => (intOf i + 1).toNat)
          case atStart => exact ⟨B + 1, by rw [Int.natCast_succ]; congr 1; omega, Nat.le_refl _, by rw [Int.natCast_succ]; exact HT⟩
          case round =>
            clear HT
            obtain ⟨l, rfl, hl, HT⟩ := hrel
            cases l with
            | zero =>
              have H2 : Hid (TabW w0 wr (.slice (some ⟨gv, 0, none⟩) (A + 1) cv) bk (A + 1) (B + 1) (backF rt rl A B (x : Int) ((B : Int) + 1))) :=
                HT.out.congr (fun a b _ hb => b_row x a b (by omega))
              clear HT
              have e0 : ((0 : Nat) : Int) - 1 = -1 := by omega
              rw [e0]; clear e0
              go_wp2_with fail
              go_roundw
              case rel => exact ⟨x, rfl, by omega, H2⟩
              case measure => simp [intOf] <;> omega
            | succ y =>
              have e0 : ((y + 1 : Nat) : Int) - 1 = y := by omega
              rw [e0] at *
              rw [Int.natCast_succ] at HT
              have d1 : (0 : Int) ≤ (y : Int) := by omega
              have bB : (y : Int) < (B : Int) + 1 := by omega
              by_cases hend : x = A ∧ y = B
              · obtain ⟨rfl, rfl⟩ := hend
                have k1 := HT.out.cell (a := x) (b := y) (by omega) (by omega)
                have f1 := (HT.out.rows x (by omega)).free y
                have hput := HT.out.put (x := x) (y := y) (by omega) (by omega) (u := 1) (H := backF rt rl x y ((x : Int) + 1) (y : Int)) (fun a b _ _ => by rw [b_put, onR_end])
                have H2 := Lib.hid hput; clear hput
                have qa : ((x : Int) == (x : Int)) = true := by simp
                have qb : ((y : Int) == (y : Int)) = true := by simp
                clear HT
                go_wp2_with fail
                go_roundw
                case rel => exact ⟨y, rfl, by omega, H2⟩
                case measure => simp [intOf] <;> omega
              · have hne : ((x : Int) == (A : Int)) = false ∨ (((x : Int) == (A : Int)) = true ∧ ((y : Int) == (B : Int)) = false) := by
                  by_cases e : x = A
                  · right; exact ⟨by simp [e], by simp; intro h; exact hend ⟨e, by omega⟩⟩
                  · left; simp; omega
                have hrk := race_kept H0.out.1 HT.out.bel
                obtain ⟨r0, r1⟩ := hrk
                have hw := fun w => raWon_any rt rl x y w (by omega) (by omega) (by omega) (by omega)
                by_cases hwn : wonN rt rl x y = 0
                · have hst := @onR_open rt rl (A : Int) (B : Int) (x : Int) (y : Int) hwn (by omega) (by omega) (by omega)
                  rw [won_zero.2 hwn] at hw
                  have HW := Lib.hid hw; clear hw hwn
                  rcases hne with hne | ⟨hne, hne2⟩
                  all_goals
                    go_wp2_with fail
                    refine (HW.out _).mono ?_; rintro e w5 ⟨rfl, b5⟩
                    have HT5 := Lib.hid (HT.out.keep b5); clear HT b5
                    by_cases qxa : x < A
                    · by_cases qyb : y < B
                      · have qx : decide ((x : Int) < (A : Int)) = true := by simp; omega
                        have qy : decide ((y : Int) < (B : Int)) = true := by simp; omega
                        have h2 := HT5.out.heads rfl (a := x + 1) (by omega)
                        have k2 := HT5.out.cell (a := x + 1) (b := y) (by omega) (by omega)
                        rw [b_a] at k2
                        have b2 : (x : Int) + 1 < (A : Int) + 1 := by omega
                        have b5 : (0 : Int) ≤ (x : Int) + 1 := by omega
                        have wx : IntKind.i64.wrap ((x : Int) + 1) = (x : Int) + 1 := IntWalk.i64_in _ (by omega)
                        have u2 := onR_bd rt rl A B ((x : Int) + 1) y
                        unfold capR at u2
                        have k3 := HT5.out.cell (a := x) (b := y + 1) (by omega) (by omega)
                        rw [b_b] at k3
                        have b4 : (y : Int) + 1 < (B : Int) + 1 := by omega
                        have b6 : (0 : Int) ≤ (y : Int) + 1 := by omega
                        have wy : IntKind.i64.wrap ((y : Int) + 1) = (y : Int) + 1 := IntWalk.i64_in _ (by omega)
                        have u3 := onR_bd rt rl A B x ((y : Int) + 1)
                        unfold capR at u3
                        have k1 := HT5.out.cell (a := x) (b := y) (by omega) (by omega)
                        have f1 := (HT5.out.rows x (by omega)).free y
                        have hput := HT5.out.put (x := x) (y := y) (by omega) (by omega) (u := onR rt rl A B x y) (H := backF rt rl A B ((x : Int) + 1) (y : Int)) (fun a b _ _ => b_put x y a b)
                        generalize onR rt rl A B ((x : Int) + 1) y = v2 at *
                        generalize onR rt rl A B x ((y : Int) + 1) = v3 at *
                        have ws : IntKind.i64.wrap (v2 + v3) = v2 + v3 := IntWalk.i64_in _ (by omega)
                        try simp only [Int.add_zero, Int.zero_add] at hst
                        have HL := Lib.hid (fun w => least_any (v2 + v3) w)
                        rw [← hst] at HL
                        generalize onR rt rl A B x y = v4 at *
                        have H2 := Lib.hid hput
                        clear hput hst HT5 hend hne r0 r1
                        go_wp2_with fail
                        refine (HL.out _).mono ?_; rintro e w6 ⟨rfl, rfl⟩
                        go_wp2_with fail
                        go_roundw
                        case rel => exact ⟨y, rfl, by omega, H2⟩
                        case measure => simp [intOf] <;> omega
                      · have qx : decide ((x : Int) < (A : Int)) = true := by simp; omega
                        have qy : decide ((y : Int) < (B : Int)) = false := by simp; omega
                        rw [onR_off rt rl A B x ((y : Int) + 1) (.inr (by omega))] at hst
                        have h2 := HT5.out.heads rfl (a := x + 1) (by omega)
                        have k2 := HT5.out.cell (a := x + 1) (b := y) (by omega) (by omega)
                        rw [b_a] at k2
                        have b2 : (x : Int) + 1 < (A : Int) + 1 := by omega
                        have b5 : (0 : Int) ≤ (x : Int) + 1 := by omega
                        have wx : IntKind.i64.wrap ((x : Int) + 1) = (x : Int) + 1 := IntWalk.i64_in _ (by omega)
                        have u2 := onR_bd rt rl A B ((x : Int) + 1) y
                        unfold capR at u2
                        have k1 := HT5.out.cell (a := x) (b := y) (by omega) (by omega)
                        have f1 := (HT5.out.rows x (by omega)).free y
                        have hput := HT5.out.put (x := x) (y := y) (by omega) (by omega) (u := onR rt rl A B x y) (H := backF rt rl A B ((x : Int) + 1) (y : Int)) (fun a b _ _ => b_put x y a b)
                        generalize onR rt rl A B ((x : Int) + 1) y = v2 at *
                        try simp only [Int.add_zero, Int.zero_add] at hst
                        have HL := Lib.hid (fun w => least_any (v2) w)
                        rw [← hst] at HL
                        generalize onR rt rl A B x y = v4 at *
                        have H2 := Lib.hid hput
                        clear hput hst HT5 hend hne r0 r1
                        go_wp2_with fail
                        refine (HL.out _).mono ?_; rintro e w6 ⟨rfl, rfl⟩
                        go_wp2_with fail
                        go_roundw
                        case rel => exact ⟨y, rfl, by omega, H2⟩
                        case measure => simp [intOf] <;> omega
                    · by_cases qyb : y < B
                      · have qx : decide ((x : Int) < (A : Int)) = false := by simp; omega
                        have qy : decide ((y : Int) < (B : Int)) = true := by simp; omega
                        rw [onR_off rt rl A B ((x : Int) + 1) y (.inl (by omega))] at hst
                        have k3 := HT5.out.cell (a := x) (b := y + 1) (by omega) (by omega)
                        rw [b_b] at k3
                        have b4 : (y : Int) + 1 < (B : Int) + 1 := by omega
                        have b6 : (0 : Int) ≤ (y : Int) + 1 := by omega
                        have wy : IntKind.i64.wrap ((y : Int) + 1) = (y : Int) + 1 := IntWalk.i64_in _ (by omega)
                        have u3 := onR_bd rt rl A B x ((y : Int) + 1)
                        unfold capR at u3
                        have k1 := HT5.out.cell (a := x) (b := y) (by omega) (by omega)
                        have f1 := (HT5.out.rows x (by omega)).free y
                        have hput := HT5.out.put (x := x) (y := y) (by omega) (by omega) (u := onR rt rl A B x y) (H := backF rt rl A B ((x : Int) + 1) (y : Int)) (fun a b _ _ => b_put x y a b)
                        generalize onR rt rl A B x ((y : Int) + 1) = v3 at *
                        try simp only [Int.add_zero, Int.zero_add] at hst
                        have HL := Lib.hid (fun w => least_any (v3) w)
                        rw [← hst] at HL
                        generalize onR rt rl A B x y = v4 at *
                        have H2 := Lib.hid hput
                        clear hput hst HT5 hend hne r0 r1
                        go_wp2_with fail
                        refine (HL.out _).mono ?_; rintro e w6 ⟨rfl, rfl⟩
                        go_wp2_with fail
                        go_roundw
                        case rel => exact ⟨y, rfl, by omega, H2⟩
                        case measure => simp [intOf] <;> omega
                      · have qx : decide ((x : Int) < (A : Int)) = false := by simp; omega
                        have qy : decide ((y : Int) < (B : Int)) = false := by simp; omega
                        rw [onR_off rt rl A B ((x : Int) + 1) y (.inl (by omega))] at hst
                        rw [onR_off rt rl A B x ((y : Int) + 1) (.inr (by omega))] at hst
                        have k1 := HT5.out.cell (a := x) (b := y) (by omega) (by omega)
                        have f1 := (HT5.out.rows x (by omega)).free y
                        have hput := HT5.out.put (x := x) (y := y) (by omega) (by omega) (u := onR rt rl A B x y) (H := backF rt rl A B ((x : Int) + 1) (y : Int)) (fun a b _ _ => b_put x y a b)
                        try simp only [Int.add_zero, Int.zero_add] at hst
                        have HL := Lib.hid (fun w => least_any (0) w)
                        rw [← hst] at HL
                        generalize onR rt rl A B x y = v4 at *
                        have H2 := Lib.hid hput
                        clear hput hst HT5 hend hne r0 r1
                        go_wp2_with fail
                        refine (HL.out _).mono ?_; rintro e w6 ⟨rfl, rfl⟩
                        go_wp2_with fail
                        go_roundw
                        case rel => exact ⟨y, rfl, by omega, H2⟩
                        case measure => simp [intOf] <;> omega
                · have hz := @onR_won rt rl (A : Int) (B : Int) (x : Int) (y : Int) hwn (by omega) (by omega) (by omega)
                  have hwi : (wonI rt rl x y != 0) = true := by
                    simp only [bne_iff_ne, ne_eq]; intro h; exact hwn (won_zero.1 h)
                  have HW := Lib.hid hw; clear hw hwn
                  have HS := Lib.hid (fun a b => b_same hz a b); clear hz hend
                  generalize wonI rt rl x y = u at *
                  rcases hne with hne | ⟨hne, hne2⟩
                  all_goals
                    go_wp2_with fail
                    refine (HW.out _).mono ?_; rintro e w5 ⟨rfl, b5⟩
                    have H2 : Hid (TabW w0 w5 (.slice (some ⟨gv, 0, none⟩) (A + 1) cv) bk (A + 1) (B + 1) (backF rt rl A B ((x : Int) + 1) (y : Int))) :=
                      (HT.out.keep b5).congr (fun a b _ _ => HS.out a b)
                    clear HT b5 r0 r1
                    go_wp2_with fail
                    go_roundw
                    case rel => exact ⟨y, rfl, by omega, H2⟩
                    case measure => simp [intOf] <;> omega

end Go.Proofs.YthlkndloggmehaaDoor
