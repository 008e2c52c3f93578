/-
  Tennis: game orders: the program's table is filled.
-/
import Derived.Test.YtaplkciomagmiabToTab
namespace Go.Proofs.Ytaplkciomagmiab
open Go.RowKit
set_option linter.unusedVariables false
set_option linter.unusedSimpArgs false

/-- In a round. -/
def ToT (w : World) (t : List (Nat × List UInt8)) (wr : World) : Prop := OrAt wr w.heap.size 0 [] ∧ TabAt wr (w.heap.size + 1) t ∧ Below w.heap.size w wr
/-- At the head of each round. -/
def ToS (w : World) (g n : Nat) (wr : World) : Prop := OrAt wr w.heap.size 0 [] ∧ TabAt wr g (tabN n) ∧ Below w.heap.size w wr

set_option maxRecDepth 100000 in
theorem tab0_is : Try.zeroCells46.setIfInBounds 0 (.int .i64 1) = (cellsG tab0).toArray := by kernel_rfl
theorem tab_succ {x y : Nat} (hy : y < 7) : tabN (7 * x + y + 1) = tstep (tabN (7 * x + y)) x y := by
  rw [tabN, show (7 * x + y) / 7 = x from by omega, show (7 * x + y) % 7 = y from by omega]

set_option maxHeartbeats 6400000 in
set_option maxRecDepth 100000 in
theorem ordersTo_any (a b : Nat) (ha : a ≤ 7) (hb : b ≤ 7) (w : World) :
    Calls Try.prog 25 #[.int .i64 a, .int .i64 b] w fun e w' => e = .returned (.tuple #[gV (tg (tabN 49) (8 * a + b)).1 (tg (tabN 49) (8 * a + b)).2, .bool true]) ∧ Below w.heap.size w w' := by
  have hmin : ¬ (min (a : Int) (b : Int)) < 0 := by omega
  have hmax : ¬ (7 : Int) < (max (a : Int) (b : Int)) := by omega
  have H0 : Hid (ToS w (w.heap.size + 1) 0 ((w.alloc (.cells #[.int .i64 0, .string ⟨#[]⟩] 38)).alloc (.cells (Try.zeroCells46.setIfInBounds 0 (.int .i64 1)) 46))) := by
    refine Lib.hid ⟨(OrAt.new w 0 []).old _, ?_, (below_new w _).alloc (by simp) _⟩
    have := heap_alloc_last (w.alloc (.cells #[.int .i64 0, .string ⟨#[]⟩] 38)) (.cells (Try.zeroCells46.setIfInBounds 0 (.int .i64 1)) 46)
    rw [World.size_alloc] at this
    unfold TabAt
    show _ = some (Obj.cells (cellsG tab0).toArray _ _)
    rw [← tab0_is]; exact this
  have hcase : (a < b ∧ ¬ b < a) ∨ (¬ a < b ∧ b < a) ∨ (¬ a < b ∧ ¬ b < a) := by omega
  rcases hcase with ⟨h1, h2⟩ | ⟨h1, h2⟩ | ⟨h1, h2⟩
  all_goals
    go_enter Try.func25, Try.ntmps25
    go_wp2_with fail
    generalize (w.alloc (.cells #[.int .i64 0, .string ⟨#[]⟩] 38)).alloc (.cells (Try.zeroCells46.setIfInBounds 0 (.int .i64 1)) 46) = W0 at *
    go_loopw [24] (fun i wr => ∃ x : Nat, i = .int .i64 x ∧ x ≤ 7 ∧ Hid (ToS w (w.heap.size + 1) (7 * x) wr)) (fun i _ => 7 - (intOf i).toNat)
    case atStart => exact ⟨0, rfl, by omega, H0⟩
    case round =>
      clear H0
      obtain ⟨x, rfl, hx, hX⟩ := hrel
      by_cases hxl : x < 7
      · have b1 : (x : Int) < 7 := by omega
        go_wp2_with fail
        go_loopw [27] (fun i wr => ∃ y : Nat, i = .int .i64 y ∧ y ≤ 7 ∧ Hid (ToS w (w.heap.size + 1) (7 * x + y) wr)) (fun i _ => 7 - (intOf i).toNat)
        case atStart => exact ⟨0, rfl, by omega, hX⟩
        case round =>
          clear hX
          obtain ⟨y, rfl, hy, hY⟩ := hrel
          by_cases hyl : y < 7
          · have b2 : (y : Int) < 7 := by omega
            have b3 : (x : Int) < 8 := by omega
            have b4 : (y : Int) < 8 := by omega
            obtain ⟨tl, tb⟩ := tab_ok (n := 7 * x + y) (by omega)
            have HTB := Lib.hid (And.intro tl tb)
            obtain ⟨c0, c1, -, -⟩ := hY.out.2.1.at tl (x := x) (y := y) (by omega) (by omega)
            clear tl tb
            obtain ⟨m0, hm0⟩ : ∃ m0, m0 = (tg (tabN (7 * x + y)) (8 * x + y)).1 := ⟨_, rfl⟩
            obtain ⟨p0, hp0⟩ : ∃ p0, p0 = (tg (tabN (7 * x + y)) (8 * x + y)).2 := ⟨_, rfl⟩
            rw [← hm0] at c0
            rw [← hp0] at c1
            have HMP := Lib.hid (And.intro hm0 hp0); clear hm0 hp0
            have bn := below_new wr (.cells #[.int .i64 (m0 : Int), .string ⟨p0.toArray⟩] 38)
            have HY2 : Hid (ToS w (w.heap.size + 1) (7 * x + y) (wr.alloc (.cells #[.int .i64 (m0 : Int), .string ⟨p0.toArray⟩] 38)) ∧ OrAt (wr.alloc (.cells #[.int .i64 (m0 : Int), .string ⟨p0.toArray⟩] 38)) wr.heap.size m0 p0 ∧ w.heap.size + 1 < wr.heap.size) := Lib.hid ⟨⟨hY.out.1.old _, hY.out.2.1.keep bn, hY.out.2.2.trans (bn.mono hY.out.2.2.size)⟩, OrAt.new wr m0 p0, hY.out.2.1.lt⟩
            clear hY bn
            go_wp2_with fail
            clear c0 c1
            generalize wr.alloc (.cells #[.int .i64 (m0 : Int), .string ⟨p0.toArray⟩] 38) = W1 at *
            generalize wr.heap.size = go at *
            refine (winnerOfGames_any (x : Int) (y : Int) _).mono ?_; rintro e w2 ⟨rfl, b2⟩
            have HY3 : Hid (ToS w (w.heap.size + 1) (7 * x + y) w2 ∧ OrAt w2 go m0 p0 ∧ w.heap.size + 1 < go) := Lib.hid ⟨⟨HY2.out.1.1.keep b2, HY2.out.1.2.1.keep b2, HY2.out.1.2.2.trans (b2.mono HY2.out.1.2.2.size)⟩, HY2.out.2.1.keep b2, HY2.out.2.2⟩
            clear HY2 b2
            have hwn : winN (x : Int) (y : Int) = 0 ∨ winN (x : Int) (y : Int) = 1 ∨ winN (x : Int) (y : Int) = 2 := by
              unfold winN; split
              · exact .inr (.inl rfl)
              · split
                · exact .inr (.inr rfl)
                · exact .inl rfl
            rcases hwn with hw0 | hw0 | hw0
            all_goals rw [hw0]
            · have htab := tab_succ (x := x) hyl
              unfold tstep at htab
              rw [if_pos hw0] at htab
              obtain ⟨X1, hX1⟩ : ∃ X1, X1 = x + 1 := ⟨_, rfl⟩
              obtain ⟨Y1, hY1⟩ : ∃ Y1, Y1 = y + 1 := ⟨_, rfl⟩
              have e1 : (x : Int) + 1 = (X1 : Int) := by omega
              have e2 : (y : Int) + 1 = (Y1 : Int) := by omega
              have e3 : IntKind.i64.wrap (X1 : Int) = (X1 : Int) := IntWalk.i64_in _ (by omega)
              have e4 : IntKind.i64.wrap (Y1 : Int) = (Y1 : Int) := IntWalk.i64_in _ (by omega)
              have e5 : (X1 : Int) < 8 := by omega
              have e6 : (Y1 : Int) < 8 := by omega
              have e7 : X1 < 8 := by omega
              have e8 : Y1 < 8 := by omega
              rw [← hX1, ← hY1] at htab
              obtain ⟨tt, htt⟩ : ∃ tt, tt = tabN (7 * x + y) := ⟨_, rfl⟩
              unfold ToS at HY3
              rw [← htt] at htab HTB HMP HY3
              obtain ⟨v1, hv1⟩ : ∃ v1, v1 = withG (tg tt (8 * X1 + y)) (tg tt (8 * x + y)) 97 := ⟨_, rfl⟩
              obtain ⟨v2, hv2⟩ : ∃ v2, v2 = withG (tg tt (8 * x + Y1)) (tg tt (8 * x + y)) 98 := ⟨_, rfl⟩
              rw [← hv1, ← hv2] at htab
              have hne : tg (tt.set (8 * X1 + y) v1) (8 * x + Y1) = tg tt (8 * x + Y1) := by
                unfold tg; simp only [List.getD_eq_getElem?_getD]; rw [List.getElem?_set_ne (by omega)]
              have hb0 := HTB.out.2 (8 * x + y)
              have hb1 := HTB.out.2 (8 * X1 + y)
              have hb2 := HTB.out.2 (8 * x + Y1)
              have HW1 := Lib.hid (with_any (tg tt (8 * X1 + y)).1 (tg tt (8 * x + y)).1 (tg tt (8 * X1 + y)).2 (tg tt (8 * x + y)).2 97 hb1.1 hb0.1 hb1.2 hb0.2)
              have HW2 := Lib.hid (with_any (tg tt (8 * x + Y1)).1 (tg tt (8 * x + y)).1 (tg tt (8 * x + Y1)).2 (tg tt (8 * x + y)).2 98 hb2.1 hb0.1 hb2.2 hb0.2)
              rw [show withG ((tg tt (8 * X1 + y)).1, (tg tt (8 * X1 + y)).2) ((tg tt (8 * x + y)).1, (tg tt (8 * x + y)).2) 97 = v1 from hv1.symm, ← HMP.out.1, ← HMP.out.2] at HW1
              rw [show withG ((tg tt (8 * x + Y1)).1, (tg tt (8 * x + Y1)).2) ((tg tt (8 * x + y)).1, (tg tt (8 * x + y)).2) 98 = v2 from hv2.symm, ← HMP.out.1, ← HMP.out.2] at HW2
              have HTab := Lib.hid htab
              have HNE := Lib.hid hne
              have HL1 : Hid (tt.length = 64) := Lib.hid HTB.out.1
              have HL2 : Hid ((tt.set (8 * X1 + y) v1).length = 64) := Lib.hid (by rw [List.length_set]; exact HTB.out.1)
              have hY4 : Hid (ToT w tt w2 ∧ OrAt w2 go m0 p0 ∧ w.heap.size + 1 < go) := Lib.hid HY3.out
              have HX1 := Lib.hid (And.intro hX1 hY1)
              clear htab hv1 hv2 hne hb0 hb1 hb2 HTB HMP htt hw0 HY3 hX1 hY1
              rw [show sideS 0 = ⟨#[]⟩ from rfl]
              obtain ⟨m1, hm1⟩ : ∃ m1, m1 = (tg tt (8 * X1 + y)).1 := ⟨_, rfl⟩
              obtain ⟨p1, hp1⟩ : ∃ p1, p1 = (tg tt (8 * X1 + y)).2 := ⟨_, rfl⟩
              obtain ⟨m2, hm2⟩ : ∃ m2, m2 = (tg tt (8 * x + Y1)).1 := ⟨_, rfl⟩
              obtain ⟨p2, hp2⟩ : ∃ p2, p2 = (tg tt (8 * x + Y1)).2 := ⟨_, rfl⟩
              rw [← hm1, ← hp1] at HW1
              rw [← hm2, ← hp2] at HW2
              have HM := Lib.hid (And.intro hm1 (And.intro hp1 (And.intro hm2 hp2))); clear hm1 hp1 hm2 hp2
              go_wp2_with fail
              refine wp_region_held_drew (S := fun w' => w'.cell? ⟨go, 0, none⟩ = some (.int .i64 (m0 : Int)) ∧ w'.cell? ⟨go, 1, none⟩ = some (.string ⟨p0.toArray⟩)) (by kernel_rfl) ⟨hY4.out.2.1.cells.1, hY4.out.2.1.cells.2.1⟩ (fun hHeld => ?_)
              (refine wpAnyH_take (i := 0) (v := ?_) rfl (by kernel_rfl) (by kernel_rfl) (by kernel_rfl) (fun _ _ _ h => h) (Or.inl ⟨by kernel_rfl, ?_⟩) (by assumption) ?_; rotate_left; focus (intro w hSw; (try dsimp only at hSw); go_simp; try with_reducible rfl); (try simp only [List.getElem_toArray, List.getElem_cons_succ, List.getElem_cons_zero, Act.put, List.setIfInBounds_toArray, List.set_cons_zero, List.set_cons_succ])); (refine wpAnyH_take (i := 1) (v := ?_) rfl (by kernel_rfl) (by kernel_rfl) (by kernel_rfl) (fun _ _ _ h => h) (Or.inl ⟨by kernel_rfl, ?_⟩) (by assumption) ?_; rotate_left; focus (intro w hSw; (try dsimp only at hSw); go_simp; try with_reducible rfl); (try simp only [List.getElem_toArray, List.getElem_cons_succ, List.getElem_cons_zero, Act.put, List.setIfInBounds_toArray, List.set_cons_zero, List.set_cons_succ])); (refine wpAnyH_take (i := 2) (v := ?_) rfl (by kernel_rfl) (by kernel_rfl) (by kernel_rfl) (fun _ _ _ h => h) (Or.inl ⟨by kernel_rfl, ?_⟩) (by assumption) ?_; rotate_left; focus (intro w hSw; (try dsimp only at hSw); go_simp; try with_reducible rfl); (try simp only [List.getElem_toArray, List.getElem_cons_succ, List.getElem_cons_zero, Act.put, List.setIfInBounds_toArray, List.set_cons_zero, List.set_cons_succ])); (refine wpAnyH_take (i := 3) (v := ?_) rfl (by kernel_rfl) (by kernel_rfl) (by kernel_rfl) (fun _ _ _ h => h) (Or.inl ⟨by kernel_rfl, ?_⟩) (by assumption) ?_; rotate_left; focus (intro w hSw; (try dsimp only at hSw); go_simp; try with_reducible rfl); (try simp only [List.getElem_toArray, List.getElem_cons_succ, List.getElem_cons_zero, Act.put, List.setIfInBounds_toArray, List.set_cons_zero, List.set_cons_succ])); (refine wpAnyH_take (i := 4) (v := ?_) rfl (by kernel_rfl) (by kernel_rfl) (by kernel_rfl) (fun _ _ _ h => h) (Or.inl ⟨by kernel_rfl, ?_⟩) (by assumption) ?_; rotate_left; focus (intro w hSw; (try dsimp only at hSw); go_simp; try with_reducible rfl); (try simp only [List.getElem_toArray, List.getElem_cons_succ, List.getElem_cons_zero, Act.put, List.setIfInBounds_toArray, List.set_cons_zero, List.set_cons_succ])); (refine wpAnyH_take (i := 5) (v := ?_) rfl (by kernel_rfl) (by kernel_rfl) (by kernel_rfl) (fun _ _ _ h => h) (Or.inl ⟨by kernel_rfl, ?_⟩) (by assumption) ?_; rotate_left; focus (intro w hSw; (try dsimp only at hSw); go_simp; try with_reducible rfl); (try simp only [List.getElem_toArray, List.getElem_cons_succ, List.getElem_cons_zero, Act.put, List.setIfInBounds_toArray, List.set_cons_zero, List.set_cons_succ])); (refine wpAnyH_take (i := 6) (v := ?_) rfl (by kernel_rfl) (by kernel_rfl) (by kernel_rfl) (fun _ _ _ h => h) (Or.inl ⟨by kernel_rfl, ?_⟩) (by assumption) ?_; rotate_left; focus (intro w hSw; (try dsimp only at hSw); go_simp; try with_reducible rfl); (try simp only [List.getElem_toArray, List.getElem_cons_succ, List.getElem_cons_zero, Act.put, List.setIfInBounds_toArray, List.set_cons_zero, List.set_cons_succ])); (refine wpAnyH_take (i := 7) (v := ?_) rfl (by kernel_rfl) (by kernel_rfl) (by kernel_rfl) (fun _ _ _ h => h) (Or.inl ⟨by kernel_rfl, ?_⟩) (by assumption) ?_; rotate_left; focus (intro w hSw; (try dsimp only at hSw); go_simp; try with_reducible rfl); (try simp only [List.getElem_toArray, List.getElem_cons_succ, List.getElem_cons_zero, Act.put, List.setIfInBounds_toArray, List.set_cons_zero, List.set_cons_succ])); (refine wpAnyH_take (i := 9) (v := ?_) rfl (by kernel_rfl) (by kernel_rfl) (by kernel_rfl) (fun _ _ _ h => h) (Or.inl ⟨by kernel_rfl, ?_⟩) (by assumption) ?_; rotate_left; focus (intro w hSw; (try dsimp only at hSw); go_simp; try with_reducible rfl); (try simp only [List.getElem_toArray, List.getElem_cons_succ, List.getElem_cons_zero, Act.put, List.setIfInBounds_toArray, List.set_cons_zero, List.set_cons_succ])); (refine wpAnyH_take (i := 11) (v := ?_) rfl (by kernel_rfl) (by kernel_rfl) (by kernel_rfl) (fun _ _ _ h => h) (Or.inl ⟨by kernel_rfl, ?_⟩) (by assumption) ?_; rotate_left; focus (intro w hSw; (try dsimp only at hSw); go_simp; try with_reducible rfl); (try simp only [List.getElem_toArray, List.getElem_cons_succ, List.getElem_cons_zero, Act.put, List.setIfInBounds_toArray, List.set_cons_zero, List.set_cons_succ]))
              obtain ⟨f0, f1, -, -⟩ := (show TabAt w2.drew (w.heap.size + 1) _ from hY4.out.1.2.1).at HL1.out (x := X1) (y := y) (by omega) (by omega)
              rw [← HM.out.1] at f0
              rw [← HM.out.2.1] at f1
              refine wpAnyH_ready (rs := [8]) (by kernel_rfl) (by simp) ?_; refine AllReadyH.cons rfl (fun K hK => ?_) AllReadyH.nil
              go_simp
              clear f0 f1
              refine hK.out _ _ hHeld (fun hHeld => ?_)
              clear hK K
              (try simp only [List.getElem_toArray, List.getElem_cons_succ, List.getElem_cons_zero, Act.put, List.setIfInBounds_toArray, List.set_cons_zero, List.set_cons_succ])
              refine wpAnyH_ready (rs := [10]) (by kernel_rfl) (by simp) ?_; refine AllReadyH.cons rfl (fun K hK => ?_) AllReadyH.nil
              go_simp
              go_at_call 31
              refine (HW1.out _).mono ?_; rintro e w5 ⟨rfl, bb⟩
              have HA1 : Hid (ToT w tt w5 ∧ OrAt w5 go m0 p0 ∧ w.heap.size + 1 < go) := Lib.hid ⟨⟨(show OrAt w2.drew w.heap.size 0 [] from hY4.out.1.1).keep bb, (show TabAt w2.drew (w.heap.size + 1) _ from hY4.out.1.2.1).keep bb, (hY4.out.1.2.2.drew).trans (bb.mono (hY4.out.1.2.2.drew).size)⟩, (show OrAt w2.drew go m0 p0 from hY4.out.2.1).keep bb, hY4.out.2.2⟩
              clear hY4 bb hHeld
              go_wp2_with fail
              refine hK.out _ _ ⟨HA1.out.2.1.cells.1, HA1.out.2.1.cells.2.1⟩ (fun hHeld => ?_)
              clear hK K
              (try simp only [List.getElem_toArray, List.getElem_cons_succ, List.getElem_cons_zero, Act.put, List.setIfInBounds_toArray, List.set_cons_zero, List.set_cons_succ])
              (refine wpAnyH_take (i := 12) (v := ?_) rfl (by kernel_rfl) (by kernel_rfl) (by kernel_rfl) (fun _ _ _ h => h) (Or.inl ⟨by kernel_rfl, ?_⟩) (by assumption) ?_; rotate_left; focus (intro w hSw; (try dsimp only at hSw); go_simp; try with_reducible rfl); (try simp only [List.getElem_toArray, List.getElem_cons_succ, List.getElem_cons_zero, Act.put, List.setIfInBounds_toArray, List.set_cons_zero, List.set_cons_succ]))
              have H13 : Hid (ToT w (tt.set (8 * X1 + y) v1) ((w5.setCell ⟨w.heap.size + 1, X1 * 16 + y * 2, none⟩ (.int .i64 ((v1).1 : Int))).setCell ⟨w.heap.size + 1, X1 * 16 + y * 2 + 1, none⟩ (.string ⟨(v1).2.toArray⟩)) ∧ OrAt ((w5.setCell ⟨w.heap.size + 1, X1 * 16 + y * 2, none⟩ (.int .i64 ((v1).1 : Int))).setCell ⟨w.heap.size + 1, X1 * 16 + y * 2 + 1, none⟩ (.string ⟨(v1).2.toArray⟩)) go m0 p0 ∧ w.heap.size + 1 < go) := Lib.hid ⟨⟨(HA1.out.1.1.other (by omega) _).other (by omega) _, HA1.out.1.2.1.put2 X1 y (v1), (HA1.out.1.2.2.setCell (p := ⟨w.heap.size + 1, X1 * 16 + y * 2, none⟩) (by simp only; omega) _).setCell (p := ⟨w.heap.size + 1, X1 * 16 + y * 2 + 1, none⟩) (by simp only; omega) _⟩, (HA1.out.2.1.other (by have := HA1.out.2.2; omega) _).other (by have := HA1.out.2.2; omega) _, HA1.out.2.2⟩
              obtain ⟨f0, f1, f2, f3⟩ := HA1.out.1.2.1.at HL1.out (x := X1) (y := y) (by omega) (by omega)
              clear hHeld
              refine wpAnyH_ready (rs := [13]) (by kernel_rfl) (by simp) ?_; refine AllReadyH.cons rfl (fun K hK => ?_) AllReadyH.nil
              go_simp
              clear f0 f1 f2 f3
              refine hK.out _ _ ⟨H13.out.2.1.cells.1, H13.out.2.1.cells.2.1⟩ (fun hHeld => ?_)
              clear hK K hHeld HA1
              (try simp only [List.getElem_toArray, List.getElem_cons_succ, List.getElem_cons_zero, Act.put, List.setIfInBounds_toArray, List.set_cons_zero, List.set_cons_succ])
              refine wpAnyH_done (by kernel_rfl) ?_ _
              generalize (w5.setCell ⟨w.heap.size + 1, X1 * 16 + y * 2, none⟩ (.int .i64 ((v1).1 : Int))).setCell ⟨w.heap.size + 1, X1 * 16 + y * 2 + 1, none⟩ (.string ⟨(v1).2.toArray⟩) = W3 at *
              go_wp2_with fail
              refine wp_region_held_drew (S := fun w' => w'.cell? ⟨go, 0, none⟩ = some (.int .i64 (m0 : Int)) ∧ w'.cell? ⟨go, 1, none⟩ = some (.string ⟨p0.toArray⟩)) (by kernel_rfl) ⟨H13.out.2.1.cells.1, H13.out.2.1.cells.2.1⟩ (fun hHeld => ?_)
              (refine wpAnyH_take (i := 0) (v := ?_) rfl (by kernel_rfl) (by kernel_rfl) (by kernel_rfl) (fun _ _ _ h => h) (Or.inl ⟨by kernel_rfl, ?_⟩) (by assumption) ?_; rotate_left; focus (intro w hSw; (try dsimp only at hSw); go_simp; try with_reducible rfl); (try simp only [List.getElem_toArray, List.getElem_cons_succ, List.getElem_cons_zero, Act.put, List.setIfInBounds_toArray, List.set_cons_zero, List.set_cons_succ])); (refine wpAnyH_take (i := 1) (v := ?_) rfl (by kernel_rfl) (by kernel_rfl) (by kernel_rfl) (fun _ _ _ h => h) (Or.inl ⟨by kernel_rfl, ?_⟩) (by assumption) ?_; rotate_left; focus (intro w hSw; (try dsimp only at hSw); go_simp; try with_reducible rfl); (try simp only [List.getElem_toArray, List.getElem_cons_succ, List.getElem_cons_zero, Act.put, List.setIfInBounds_toArray, List.set_cons_zero, List.set_cons_succ])); (refine wpAnyH_take (i := 2) (v := ?_) rfl (by kernel_rfl) (by kernel_rfl) (by kernel_rfl) (fun _ _ _ h => h) (Or.inl ⟨by kernel_rfl, ?_⟩) (by assumption) ?_; rotate_left; focus (intro w hSw; (try dsimp only at hSw); go_simp; try with_reducible rfl); (try simp only [List.getElem_toArray, List.getElem_cons_succ, List.getElem_cons_zero, Act.put, List.setIfInBounds_toArray, List.set_cons_zero, List.set_cons_succ])); (refine wpAnyH_take (i := 3) (v := ?_) rfl (by kernel_rfl) (by kernel_rfl) (by kernel_rfl) (fun _ _ _ h => h) (Or.inl ⟨by kernel_rfl, ?_⟩) (by assumption) ?_; rotate_left; focus (intro w hSw; (try dsimp only at hSw); go_simp; try with_reducible rfl); (try simp only [List.getElem_toArray, List.getElem_cons_succ, List.getElem_cons_zero, Act.put, List.setIfInBounds_toArray, List.set_cons_zero, List.set_cons_succ])); (refine wpAnyH_take (i := 4) (v := ?_) rfl (by kernel_rfl) (by kernel_rfl) (by kernel_rfl) (fun _ _ _ h => h) (Or.inl ⟨by kernel_rfl, ?_⟩) (by assumption) ?_; rotate_left; focus (intro w hSw; (try dsimp only at hSw); go_simp; try with_reducible rfl); (try simp only [List.getElem_toArray, List.getElem_cons_succ, List.getElem_cons_zero, Act.put, List.setIfInBounds_toArray, List.set_cons_zero, List.set_cons_succ])); (refine wpAnyH_take (i := 5) (v := ?_) rfl (by kernel_rfl) (by kernel_rfl) (by kernel_rfl) (fun _ _ _ h => h) (Or.inl ⟨by kernel_rfl, ?_⟩) (by assumption) ?_; rotate_left; focus (intro w hSw; (try dsimp only at hSw); go_simp; try with_reducible rfl); (try simp only [List.getElem_toArray, List.getElem_cons_succ, List.getElem_cons_zero, Act.put, List.setIfInBounds_toArray, List.set_cons_zero, List.set_cons_succ])); (refine wpAnyH_take (i := 6) (v := ?_) rfl (by kernel_rfl) (by kernel_rfl) (by kernel_rfl) (fun _ _ _ h => h) (Or.inl ⟨by kernel_rfl, ?_⟩) (by assumption) ?_; rotate_left; focus (intro w hSw; (try dsimp only at hSw); go_simp; try with_reducible rfl); (try simp only [List.getElem_toArray, List.getElem_cons_succ, List.getElem_cons_zero, Act.put, List.setIfInBounds_toArray, List.set_cons_zero, List.set_cons_succ])); (refine wpAnyH_take (i := 7) (v := ?_) rfl (by kernel_rfl) (by kernel_rfl) (by kernel_rfl) (fun _ _ _ h => h) (Or.inl ⟨by kernel_rfl, ?_⟩) (by assumption) ?_; rotate_left; focus (intro w hSw; (try dsimp only at hSw); go_simp; try with_reducible rfl); (try simp only [List.getElem_toArray, List.getElem_cons_succ, List.getElem_cons_zero, Act.put, List.setIfInBounds_toArray, List.set_cons_zero, List.set_cons_succ])); (refine wpAnyH_take (i := 9) (v := ?_) rfl (by kernel_rfl) (by kernel_rfl) (by kernel_rfl) (fun _ _ _ h => h) (Or.inl ⟨by kernel_rfl, ?_⟩) (by assumption) ?_; rotate_left; focus (intro w hSw; (try dsimp only at hSw); go_simp; try with_reducible rfl); (try simp only [List.getElem_toArray, List.getElem_cons_succ, List.getElem_cons_zero, Act.put, List.setIfInBounds_toArray, List.set_cons_zero, List.set_cons_succ])); (refine wpAnyH_take (i := 11) (v := ?_) rfl (by kernel_rfl) (by kernel_rfl) (by kernel_rfl) (fun _ _ _ h => h) (Or.inl ⟨by kernel_rfl, ?_⟩) (by assumption) ?_; rotate_left; focus (intro w hSw; (try dsimp only at hSw); go_simp; try with_reducible rfl); (try simp only [List.getElem_toArray, List.getElem_cons_succ, List.getElem_cons_zero, Act.put, List.setIfInBounds_toArray, List.set_cons_zero, List.set_cons_succ]))
              obtain ⟨f0, f1, -, -⟩ := (show TabAt W3.drew (w.heap.size + 1) _ from H13.out.1.2.1).at HL2.out (x := x) (y := Y1) (by omega) (by omega)
              rw [HNE.out, ← HM.out.2.2.1] at f0
              rw [HNE.out, ← HM.out.2.2.2] at f1
              refine wpAnyH_ready (rs := [8]) (by kernel_rfl) (by simp) ?_; refine AllReadyH.cons rfl (fun K hK => ?_) AllReadyH.nil
              go_simp
              clear f0 f1
              refine hK.out _ _ hHeld (fun hHeld => ?_)
              clear hK K
              (try simp only [List.getElem_toArray, List.getElem_cons_succ, List.getElem_cons_zero, Act.put, List.setIfInBounds_toArray, List.set_cons_zero, List.set_cons_succ])
              refine wpAnyH_ready (rs := [10]) (by kernel_rfl) (by simp) ?_; refine AllReadyH.cons rfl (fun K hK => ?_) AllReadyH.nil
              go_simp
              go_at_call 31
              refine (HW2.out _).mono ?_; rintro e w6 ⟨rfl, bb⟩
              have HA2 : Hid (ToT w (tt.set (8 * X1 + y) v1) w6 ∧ OrAt w6 go m0 p0 ∧ w.heap.size + 1 < go) := Lib.hid ⟨⟨(show OrAt W3.drew w.heap.size 0 [] from H13.out.1.1).keep bb, (show TabAt W3.drew (w.heap.size + 1) _ from H13.out.1.2.1).keep bb, (H13.out.1.2.2.drew).trans (bb.mono (H13.out.1.2.2.drew).size)⟩, (show OrAt W3.drew go m0 p0 from H13.out.2.1).keep bb, H13.out.2.2⟩
              clear H13 bb hHeld
              go_wp2_with fail
              refine hK.out _ _ ⟨HA2.out.2.1.cells.1, HA2.out.2.1.cells.2.1⟩ (fun hHeld => ?_)
              clear hK K
              (try simp only [List.getElem_toArray, List.getElem_cons_succ, List.getElem_cons_zero, Act.put, List.setIfInBounds_toArray, List.set_cons_zero, List.set_cons_succ])
              (refine wpAnyH_take (i := 12) (v := ?_) rfl (by kernel_rfl) (by kernel_rfl) (by kernel_rfl) (fun _ _ _ h => h) (Or.inl ⟨by kernel_rfl, ?_⟩) (by assumption) ?_; rotate_left; focus (intro w hSw; (try dsimp only at hSw); go_simp; try with_reducible rfl); (try simp only [List.getElem_toArray, List.getElem_cons_succ, List.getElem_cons_zero, Act.put, List.setIfInBounds_toArray, List.set_cons_zero, List.set_cons_succ]))
              have H14 : Hid (ToT w ((tt.set (8 * X1 + y) v1).set (8 * x + Y1) v2) ((w6.setCell ⟨w.heap.size + 1, x * 16 + Y1 * 2, none⟩ (.int .i64 ((v2).1 : Int))).setCell ⟨w.heap.size + 1, x * 16 + Y1 * 2 + 1, none⟩ (.string ⟨(v2).2.toArray⟩)) ∧ OrAt ((w6.setCell ⟨w.heap.size + 1, x * 16 + Y1 * 2, none⟩ (.int .i64 ((v2).1 : Int))).setCell ⟨w.heap.size + 1, x * 16 + Y1 * 2 + 1, none⟩ (.string ⟨(v2).2.toArray⟩)) go m0 p0 ∧ w.heap.size + 1 < go) := Lib.hid ⟨⟨(HA2.out.1.1.other (by omega) _).other (by omega) _, HA2.out.1.2.1.put2 x Y1 (v2), (HA2.out.1.2.2.setCell (p := ⟨w.heap.size + 1, x * 16 + Y1 * 2, none⟩) (by simp only; omega) _).setCell (p := ⟨w.heap.size + 1, x * 16 + Y1 * 2 + 1, none⟩) (by simp only; omega) _⟩, (HA2.out.2.1.other (by have := HA2.out.2.2; omega) _).other (by have := HA2.out.2.2; omega) _, HA2.out.2.2⟩
              obtain ⟨f0, f1, f2, f3⟩ := HA2.out.1.2.1.at HL2.out (x := x) (y := Y1) (by omega) (by omega)
              clear hHeld
              refine wpAnyH_ready (rs := [13]) (by kernel_rfl) (by simp) ?_; refine AllReadyH.cons rfl (fun K hK => ?_) AllReadyH.nil
              go_simp
              clear f0 f1 f2 f3
              refine hK.out _ _ ⟨H14.out.2.1.cells.1, H14.out.2.1.cells.2.1⟩ (fun hHeld => ?_)
              clear hK K hHeld HA2
              (try simp only [List.getElem_toArray, List.getElem_cons_succ, List.getElem_cons_zero, Act.put, List.setIfInBounds_toArray, List.set_cons_zero, List.set_cons_succ])
              refine wpAnyH_done (by kernel_rfl) ?_ _
              generalize (w6.setCell ⟨w.heap.size + 1, x * 16 + Y1 * 2, none⟩ (.int .i64 ((v2).1 : Int))).setCell ⟨w.heap.size + 1, x * 16 + Y1 * 2 + 1, none⟩ (.string ⟨(v2).2.toArray⟩) = W4 at *
              have HEnd : Hid (ToS w (w.heap.size + 1) (7 * x + (y + 1)) W4) := Lib.hid (by unfold ToS; rw [← Nat.add_assoc, HTab.out]; exact H14.out.1)
              clear H14
              go_wp2_with fail
              go_roundw
              case rel => exact ⟨y + 1, by go_num, by omega, HEnd⟩
              case measure => simp [intOf]; omega
            · have htab := tab_succ (x := x) hyl
              unfold tstep at htab
              rw [if_neg (by rw [hw0]; decide)] at htab
              have HY4 : Hid (ToS w (w.heap.size + 1) (7 * x + (y + 1)) w2) := Lib.hid (by unfold ToS; rw [← Nat.add_assoc, htab]; exact HY3.out.1)
              clear htab hw0 HY3 HTB HMP
              rw [show sideS 1 = ⟨#[97]⟩ from rfl]
              go_wp2_with fail
              go_roundw
              case rel => exact ⟨y + 1, by go_num, by omega, HY4⟩
              case measure => simp [intOf]; omega
            · have htab := tab_succ (x := x) hyl
              unfold tstep at htab
              rw [if_neg (by rw [hw0]; decide)] at htab
              have HY4 : Hid (ToS w (w.heap.size + 1) (7 * x + (y + 1)) w2) := Lib.hid (by unfold ToS; rw [← Nat.add_assoc, htab]; exact HY3.out.1)
              clear htab hw0 HY3 HTB HMP
              rw [show sideS 2 = ⟨#[98]⟩ from rfl]
              go_wp2_with fail
              go_roundw
              case rel => exact ⟨y + 1, by go_num, by omega, HY4⟩
              case measure => simp [intOf]; omega
          · obtain rfl : y = 7 := by omega
            have HY4 : Hid (ToS w (w.heap.size + 1) (7 * (x + 1)) wr) := Lib.hid (by rw [show 7 * (x + 1) = 7 * x + 7 from by omega]; exact hY.out)
            clear hY
            go_wp2_with fail
            go_roundw
            case rel => exact ⟨x + 1, by go_num, by omega, HY4⟩
            case measure => simp [intOf]; omega
      · obtain rfl : x = 7 := by omega
        have hf := hX.out
        rw [show 7 * 7 = 49 from rfl] at hf
        obtain ⟨tl, tb⟩ := tab_ok (n := 49) (by omega)
        obtain ⟨c0, c1, -, -⟩ := hf.2.1.at tl (x := a) (y := b) (by omega) (by omega)
        obtain ⟨r0, r1, r2, r3⟩ := hf.1.cells
        have b3 : (a : Int) < 8 := by omega
        have b4 : (b : Int) < 8 := by omega
        obtain ⟨M, hM⟩ : ∃ M, M = (tg (tabN 49) (8 * a + b)).1 := ⟨_, rfl⟩
        obtain ⟨P, hP⟩ : ∃ P, P = (tg (tabN 49) (8 * a + b)).2 := ⟨_, rfl⟩
        rw [← hM] at c0
        rw [← hP] at c1
        have HMP := Lib.hid (And.intro hM hP); clear hM hP
        have HZ := Lib.hid (And.intro ((hf.1.many M).first P) ((hf.2.2.setCell (p := ⟨w.heap.size, 0, none⟩) (Nat.le_refl _) (.int .i64 M)).setCell (p := ⟨w.heap.size, 1, none⟩) (Nat.le_refl _) (.string ⟨P.toArray⟩)))
        obtain ⟨z0, z1, -, -⟩ := HZ.out.1.cells
        clear hf hX tl tb
        go_wp2_with fail
        refine bodyPost_ret (v := .tuple #[gV M P, .bool true]) (by simp [results, Try.results25, go_sem, z0, z1]) rfl ⟨by rw [HMP.out.1, HMP.out.2], HZ.out.2⟩
end Go.Proofs.Ytaplkciomagmiab
