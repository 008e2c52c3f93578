/-
  Races: the program's table of the plays that go on to a score.
-/
import Derived.Test.YthlkndloggmehaaDoorRaRow
import Derived.Test.YthlkndloggmehaaDoorRaTabM
import Derived.StillTailTactics
import Derived.Deep.CutRange
import Derived.Test.YthlkndloggmehaaDoorRaRace
import Derived.Test.YthlkndloggmehaaDoorRaCnt2
namespace Go.Proofs.YthlkndloggmehaaDoor
open Go.RowKit
set_option linter.unusedVariables false
set_option linter.unusedSimpArgs false

set_option maxHeartbeats 800000 in
theorem ended_any (rt rl a b : Int) (gr : Nat) (w : World) (ha : 0 ≤ a) (ha' : a ≤ 1000000000000) (hb : 0 ≤ b) (hb' : b ≤ 1000000000000) (h : Pair w gr rt rl) :
    Calls Tryd.prog 68 #[.agg #[.int .i64 a, .int .i64 b], .pointer (some ⟨gr, 0, none⟩)] w fun e w' => e = .returned (.bool (decide (wonN rt rl a b ≠ 0))) ∧ Below w.heap.size w w' := by
  have hw := fun w => winnerOfRace_any rt rl a b w ha ha' hb hb'
  have HW := Lib.hid hw; clear hw
  have hp := h.keep ((Below.refl w.heap.size w).alloc (Nat.le_refl _) (.cells #[.int .i64 a, .int .i64 b] 65))
  obtain ⟨z0, c0, c1, -, -⟩ := h
  obtain ⟨z2, d0, d1, -, -⟩ := hp
  rcases wonI_eq rt rl a b with ⟨h, -⟩ | ⟨h, -⟩ | ⟨h, -⟩
  all_goals
    rw [h] at HW
    rw [h]
    clear h
    unfold sideS at HW
    go_enter Tryd.func68, Tryd.ntmps68
    go_wp2_with fail
    refine (HW.out _).mono ?_; rintro e w1 ⟨rfl, b1⟩
    go_wp2_with fail
    go_ret
    refine ⟨rfl, ?_⟩
    have sz_b1 := b1.size; (try simp at sz_b1)
    (repeat (first | exact Below.refl _ _ | exact ‹Below _ _ _› | refine Below.drew ?_ | refine Below.alloc ?_ (by first | omega | (simp; done) | (simp; omega)) _ | refine Below.setCell ?_ (by first | omega | (simp; done) | (simp; omega)) _ | refine Below.trans ?_ (Below.mono ‹Below _ _ _› (by first | omega | (simp; done) | (simp; omega)))))

theorem d_here {rt rl A B : Int} (x y : Nat) : doneF rt rl A B ((x : Int) + 1) ((y : Int) + 1) x y = if (x : Int) = A ∧ (y : Int) = B then 1 else 0 := by
  unfold doneF; rw [if_neg (by omega)]
theorem d_a {rt rl A B : Int} (x y : Nat) : doneF rt rl A B ((x : Int) + 1) ((y : Int) + 1) ((x + 1 : Nat) : Int) y = onR rt rl A B ((x : Int) + 1) y := by
  unfold doneF; rw [if_pos (by omega), Int.natCast_succ]
theorem d_b {rt rl A B : Int} (x y : Nat) : doneF rt rl A B ((x : Int) + 1) ((y : Int) + 1) x ((y + 1 : Nat) : Int) = onR rt rl A B x ((y : Int) + 1) := by
  unfold doneF; rw [if_pos (by omega), Int.natCast_succ]
theorem d_put {rt rl A B : Int} (x y a b : Nat) : doneF rt rl A B ((x : Int) + 1) (y : Int) a b = if a = x ∧ b = y then onR rt rl A B x y else doneF rt rl A B ((x : Int) + 1) ((y : Int) + 1) a b := by
  unfold doneF
  by_cases e : a = x ∧ b = y
  · obtain ⟨rfl, rfl⟩ := e
    rw [if_pos (by omega), if_pos ⟨rfl, rfl⟩]
  · rw [if_neg e]
    by_cases e2 : (x : Int) + 1 ≤ a ∨ ((a : Int) = (x : Int) + 1 - 1 ∧ (y : Int) + 1 ≤ b)
    · rw [if_pos e2, if_pos (by omega)]
    · rw [if_neg e2, if_neg (by omega)]
theorem d_same {rt rl A B : Int} {x y : Nat} (h : (if (x : Int) = A ∧ (y : Int) = B then 1 else 0) = onR rt rl A B x y) (a b : Nat) : doneF rt rl A B ((x : Int) + 1) (y : Int) a b = doneF rt rl A B ((x : Int) + 1) ((y : Int) + 1) a b := by
  rw [d_put]
  by_cases e : a = x ∧ b = y
  · obtain ⟨rfl, rfl⟩ := e
    rw [if_pos ⟨rfl, rfl⟩, d_here, h]
  · rw [if_neg e]
theorem d_row {rt rl A B : Int} (x a b : Nat) (hb : (b : Int) ≤ B + 1) : doneF rt rl A B (x : Int) (B + 1) a b = doneF rt rl A B ((x : Int) + 1) 0 a b := by
  have := @done_row rt rl A B ((x : Int) + 1) a b (by omega) hb
  rw [show (x : Int) + 1 - 1 = x from by omega] at this
  exact this

set_option maxRecDepth 100000 in
set_option maxHeartbeats 12800000 in
theorem waysOn_any (rt rl : Int) (A B : Nat) (hAB : A + B ≤ 100) (gr : Nat) (w : World) (h : Pair w gr rt rl) :
    Calls Tryd.prog 70 #[.agg #[.int .i64 A, .int .i64 B], .func (.func 68) #[] #[.pointer (some ⟨gr, 0, none⟩)]] w fun e w' => ∃ gh bk, e = .returned (.slice (some ⟨gh, 0, none⟩) (A + 1 + 1) (A + 1 + 1)) ∧ TalF w' gh bk (A + 1) (B + 1 + 1) (onR rt rl A B) ∧ Below w.heap.size w w' := by
  have hpa := fun w => plus_any (A : Int) (B : Int) 97 w (by omega) (by omega) (by omega) (by omega)
  rw [show upA 97 = 1 from rfl, show upB 97 = 0 from rfl, Int.add_zero] at hpa
  have hpb := fun w => plus_any ((A : Int) + 1) (B : Int) 98 w (by omega) (by omega) (by omega) (by omega)
  rw [show upA 98 = 0 from rfl, show upB 98 = 1 from rfl, Int.add_zero] at hpb
  have hnn := fun w => noneUpTo_any (A + 1) (B + 1) (by omega) (by omega) w
  simp only [Int.natCast_succ] at hnn
  have HPA := Lib.hid (And.intro hpa (And.intro hpb hnn)); clear hpa hpb hnn
  have hen := fun (a b : Nat) (ha : a ≤ 100) (hb : b ≤ 100) w' (hb' : Below w.heap.size w w') => ended_any rt rl a b gr w' (by omega) (by omega) (by omega) (by omega) (h.keep hb')
  have HEN := Lib.hid hen; clear hen h
  have hp0 := Pair.new w A B 65
  have hb0 := below_new w (.cells #[.int .i64 A, .int .i64 B] 65)
  have HP0 := Lib.hid (And.intro hp0 hb0); clear hp0 hb0
  go_enter Tryd.func70, Tryd.ntmps70
  go_wp2_with fail
  refine (HPA.out.1 _).mono ?_; rintro e w1 ⟨rfl, b1⟩
  have HP1 := Lib.hid (And.intro (HP0.out.1.keep b1) (HP0.out.2.trans (b1.mono HP0.out.2.size))); clear b1
  go_wp2_with fail
  refine (HPA.out.2.1 _).mono ?_; rintro e w2 ⟨rfl, b2⟩
  have HP2 := Lib.hid (And.intro (HP1.out.1.keep b2) (HP1.out.2.trans (b2.mono HP1.out.2.size))); clear b2 HP1
  go_wp2_with fail
  refine (HPA.out.2.2 _).mono ?_; rintro e w3 ⟨gh, bk, rfl, t3, o3, b3⟩
  have HP3 := Lib.hid (And.intro (HP2.out.1.keep b3) (HP2.out.2.trans (b3.mono HP2.out.2.size)))
  have hto : TalO w.heap.size gh bk (A + 1 + 1) := ⟨by have := o3.gh; have := HP2.out.2.size; omega, fun a ha => by have := o3.lo a ha; have := HP2.out.2.size; omega, o3.ap⟩
  have HTO := Lib.hid hto; clear hto
  have hgr : w.heap.size ≠ gh ∧ ∀ a, a < A + 1 + 1 → w.heap.size ≠ bk a := by
    have := HP2.out.1.1
    exact ⟨by have := o3.gh; omega, fun a ha => by have := o3.lo a ha; omega⟩
  have hh0 := t3.head (a := A) (by omega)
  have hc0 := t3.cell (a := A) (b := B) (by omega) (by omega)
  have hf0 := (t3.rows A (by omega)).free B
  have hput := t3.put o3 (x := A) (y := B) (by omega) (by omega) (v := 1) (H' := doneF rt rl A B ((A : Int) + 1) ((B : Int) + 1)) (fun a b ha hb => by
    rw [done_start (by omega) (by omega)]
    by_cases e : a = A ∧ b = B
    · rw [if_pos e, if_pos (by omega)]
    · rw [if_neg e, if_neg (by omega)])
  have hlo := HTO.out.lo A (by omega)
  have hne := hgr.2 A (by omega)
  have hp4 : Pair (w3.setCell ⟨bk A, B, none⟩ (.int .i64 1)) w.heap.size A B := by
    obtain ⟨q1, q2, q3, q4, q5⟩ := HP3.out.1
    have ne : ∀ (o : Nat), (w3.setCell ⟨bk A, B, none⟩ (.int .i64 1)).cell? ⟨w.heap.size, o, none⟩ = w3.cell? ⟨w.heap.size, o, none⟩ := fun o => World.cell?_setCell_other _ _ _ _ (by intro e; injection e; omega)
    exact ⟨by simpa using q1, by rw [ne]; exact q2, by rw [ne]; exact q3, by simp only [World.frozen?_setCell]; exact q4, by simp only [World.frozen?_setCell]; exact q5⟩
  have HH : Hid (TalF (w3.setCell ⟨bk A, B, none⟩ (.int .i64 1)).drew gh bk (A + 1) (B + 1 + 1) (doneF rt rl A B ((A + 1 : Nat) : Int) ((B : Int) + 1)) ∧ Pair (w3.setCell ⟨bk A, B, none⟩ (.int .i64 1)).drew w.heap.size A B ∧ Below w.heap.size w (w3.setCell ⟨bk A, B, none⟩ (.int .i64 1)).drew) :=
    ⟨⟨hput.hd, by rw [Int.natCast_succ]; exact hput.rows⟩, hp4, Below.drew (HP3.out.2.setCell (p := ⟨bk A, B, none⟩) hlo (.int .i64 1))⟩
  obtain ⟨z0, c0, c1, -, -⟩ := HP3.out.1
  have bA : (A : Int) < (A : Int) + 1 + 1 := by omega
  have bB : (B : Int) < (B : Int) + 1 + 1 := by omega
  clear hput hlo hne hp4 t3 o3 b3 HP2 HP0 HPA
  go_wp2_with fail
  go_still_tail 8, (by kernel_rfl)
  go_upto_region 3 with fail
  clear z0 c0 c1 hh0 hc0 hf0
  generalize (w3.setCell ⟨bk A, B, none⟩ (.int .i64 1)).drew = w4 at *
  have c0 := HH.out.2.1.2.1
  go_wp2_with fail
  clear c0
  go_loopw [6] (fun i wr => ∃ k : Nat, i = .int .i64 ((k : Int) - 1) ∧ k ≤ A + 1 ∧ Hid (TalF wr gh bk (A + 1) (B + 1 + 1) (doneF rt rl A B (k : Int) ((B : Int) + 1)) ∧ Pair wr w.heap.size A B ∧ Below w.heap.size w wr)) (fun i _ => (intOf i + 1).toNat)
  case atStart => exact ⟨A + 1, by rw [Int.natCast_succ]; congr 1; omega, Nat.le_refl _, HH⟩
  case round =>
    clear HH
    obtain ⟨k, rfl, hk, HT⟩ := hrel
    cases k with
    | zero =>
      have hfin : TalF wr gh bk (A + 1) (B + 1 + 1) (onR rt rl A B) := HT.out.1.congr (fun a b _ _ => (done_all (by omega)).symm)
      have HF := Lib.hid (And.intro hfin HT.out.2.2); clear hfin HT
      have e0 : ((0 : Nat) : Int) - 1 = -1 := by omega
      rw [e0]; clear e0
      go_wp2_with fail
      go_ret
      exact ⟨gh, bk, rfl, HF.out⟩
    | succ x =>
      have e0 : ((x + 1 : Nat) : Int) - 1 = x := by omega
      rw [e0] at *
      rw [Int.natCast_succ] at HT
      have d0 : (0 : Int) ≤ (x : Int) := by omega
      have c1 := HT.out.2.1.2.2.1
      go_wp2_with fail
      clear c1
      go_loopw [7] (fun i wr => ∃ l : Nat, i = .int .i64 ((l : Int) - 1) ∧ l ≤ B + 1 ∧ Hid (TalF wr gh bk (A + 1) (B + 1 + 1) (doneF rt rl A B ((x : Int) + 1) (l : Int)) ∧ Pair wr w.heap.size A B ∧ Below w.heap.size w wr)) (fun i _ => (intOf i + 1).toNat)
      case atStart => exact ⟨B + 1, by rw [Int.natCast_succ]; congr 1; omega, Nat.le_refl _, by rw [Int.natCast_succ]; exact HT⟩
      case round =>
        clear HT
        obtain ⟨l, rfl, hl, HT⟩ := hrel
        cases l with
        | zero =>
          have H2 : Hid (TalF wr gh bk (A + 1) (B + 1 + 1) (doneF rt rl A B (x : Int) ((B : Int) + 1)) ∧ Pair wr w.heap.size A B ∧ Below w.heap.size w wr) :=
            ⟨HT.out.1.congr (fun a b _ hb => d_row x a b (by omega)), HT.out.2⟩
          clear HT
          have e0 : ((0 : Nat) : Int) - 1 = -1 := by omega
          rw [e0]; clear e0
          go_wp2_with fail
          go_roundw
          case rel => exact ⟨x, rfl, by omega, H2⟩
          case measure => simp [intOf] <;> omega
        | succ y =>
          have e0 : ((y + 1 : Nat) : Int) - 1 = y := by omega
          rw [e0] at *
          rw [Int.natCast_succ] at HT
          have d1 : (0 : Int) ≤ (y : Int) := by omega
          have hcall := HEN.out x y (by omega) (by omega) wr HT.out.2.2
          by_cases hw : wonN rt rl x y = 0
          · have hst := step_open (A := (A : Int)) (B := (B : Int)) hw (by omega) (by omega)
            rw [hw] at hcall
            have HC := Lib.hid hcall; clear hcall
            go_wp2_with fail
            refine HC.out.mono ?_; rintro e w5 ⟨rfl, b5⟩
            have HT5 := Lib.hid (And.intro (HT.out.1.keep b5) (And.intro (HT.out.2.1.keep b5) (HT.out.2.2.trans (b5.mono HT.out.2.2.size)))); clear b5 HT HC
            have h1 := HT5.out.1.head (a := x) (by omega)
            have h2 := HT5.out.1.head (a := x + 1) (by omega)
            have k1 := HT5.out.1.cell (a := x) (b := y) (by omega) (by omega)
            have k2 := HT5.out.1.cell (a := x + 1) (b := y) (by omega) (by omega)
            have k3 := HT5.out.1.cell (a := x) (b := y + 1) (by omega) (by omega)
            have f1 := (HT5.out.1.rows x (by omega)).free y
            rw [d_here] at k1
            rw [d_a] at k2
            rw [d_b] at k3
            have u1 : 0 ≤ (if (x : Int) = A ∧ (y : Int) = B then (1 : Int) else 0) ∧ (if (x : Int) = A ∧ (y : Int) = B then (1 : Int) else 0) ≤ 1 := by split <;> omega
            have u2 := onR_bd rt rl A B ((x : Int) + 1) y
            have u3 := onR_bd rt rl A B x ((y : Int) + 1)
            have hput := HT5.out.1.put HTO.out (x := x) (y := y) (by omega) (by omega) (v := onR rt rl A B x y) (H' := doneF rt rl A B ((x : Int) + 1) (y : Int)) (fun a b _ _ => d_put x y a b)
            have hlo := HTO.out.lo x (by omega)
            have hne := hgr.2 x (by omega)
            have hp4 : Pair (w5.setCell ⟨bk x, y, none⟩ (.int .i64 (onR rt rl A B x y))) w.heap.size A B := by
              obtain ⟨q1, q2, q3, q4, q5⟩ := HT5.out.2.1
              have ne : ∀ (o : Nat), (w5.setCell ⟨bk x, y, none⟩ (.int .i64 (onR rt rl A B x y))).cell? ⟨w.heap.size, o, none⟩ = w5.cell? ⟨w.heap.size, o, none⟩ := fun o => World.cell?_setCell_other _ _ _ _ (by intro e; injection e; omega)
              exact ⟨by simpa using q1, by rw [ne]; exact q2, by rw [ne]; exact q3, by simp only [World.frozen?_setCell]; exact q4, by simp only [World.frozen?_setCell]; exact q5⟩
            have H6 : Hid (TalF (w5.setCell ⟨bk x, y, none⟩ (.int .i64 (onR rt rl A B x y))).drew gh bk (A + 1) (B + 1 + 1) (doneF rt rl A B ((x : Int) + 1) (y : Int)) ∧ Pair (w5.setCell ⟨bk x, y, none⟩ (.int .i64 (onR rt rl A B x y))).drew w.heap.size A B ∧ Below w.heap.size w (w5.setCell ⟨bk x, y, none⟩ (.int .i64 (onR rt rl A B x y))).drew) :=
              ⟨⟨hput.hd, hput.rows⟩, hp4, Below.drew (HT5.out.2.2.setCell (p := ⟨bk x, y, none⟩) hlo (.int .i64 (onR rt rl A B x y)))⟩
            clear hput hlo hne hp4 HT5
            unfold capR at u2 u3
            generalize (if (x : Int) = A ∧ (y : Int) = B then (1 : Int) else 0) = v1 at *
            generalize onR rt rl A B ((x : Int) + 1) y = v2 at *
            generalize onR rt rl A B x ((y : Int) + 1) = v3 at *
            generalize onR rt rl A B x y = v4 at *
            have hmin : min (v1 + v2 + v3) 1000000000000001 = v4 := by rw [← hst]; unfold capM capR; split <;> omega
            have w1 : IntKind.i64.wrap (v1 + v2) = v1 + v2 := IntWalk.i64_in _ (by omega)
            have w2 : IntKind.i64.wrap (v1 + v2 + v3) = v1 + v2 + v3 := IntWalk.i64_in _ (by omega)
            have b1 : (x : Int) < (A : Int) + 1 + 1 := by omega
            have b2 : (x : Int) + 1 < (A : Int) + 1 + 1 := by omega
            have b3 : (y : Int) < (B : Int) + 1 + 1 := by omega
            have b4 : (y : Int) + 1 < (B : Int) + 1 + 1 := by omega
            have b5 : (0 : Int) ≤ (x : Int) + 1 := by omega
            have b6 : (0 : Int) ≤ (y : Int) + 1 := by omega
            have wx : IntKind.i64.wrap ((x : Int) + 1) = (x : Int) + 1 := IntWalk.i64_in _ (by omega)
            have wy : IntKind.i64.wrap ((y : Int) + 1) = (y : Int) + 1 := IntWalk.i64_in _ (by omega)
            clear hst hw
            go_wp2_with fail
            go_still_tail 32, (by kernel_rfl)
            go_wp2_with fail
            go_roundw
            case rel => exact ⟨y, by go_num, by omega, H6⟩
            case measure => simp [intOf] <;> omega
          · have hst := step_won (A := (A : Int)) (B := (B : Int)) hw (by omega) (by omega)
            rw [decide_eq_true (show wonN rt rl x y ≠ 0 from hw)] at hcall
            have HC := Lib.hid hcall; clear hcall hw
            have HDS := Lib.hid (fun a b => d_same hst a b); clear hst
            go_wp2_with fail
            refine HC.out.mono ?_; rintro e w5 ⟨rfl, b5⟩
            have H2 : Hid (TalF w5 gh bk (A + 1) (B + 1 + 1) (doneF rt rl A B ((x : Int) + 1) (y : Int)) ∧ Pair w5 w.heap.size A B ∧ Below w.heap.size w w5) :=
              ⟨(HT.out.1.keep b5).congr (fun a b _ _ => HDS.out a b), HT.out.2.1.keep b5, HT.out.2.2.trans (b5.mono HT.out.2.2.size)⟩
            clear HT b5 HDS
            go_wp2_with fail
            go_roundw
            case rel => exact ⟨y, by go_num, by omega, H2⟩
            case measure => simp [intOf] <;> omega

end Go.Proofs.YthlkndloggmehaaDoor
