/-
  Tennis: who has won a match of sets: the program.
-/
import Derived.Test.YtbgdngfjeikheabDoorTnMat
namespace Go.Proofs.YtbgdngfjeikheabDoor
open Go.RowKit
set_option linter.unusedVariables false
set_option linter.unusedSimpArgs false

/-- What the loop keeps: the counts in their box, and what lay before. -/
def MtS (w : World) (x y : Int) (wi : World) : Prop :=
  ObAt wi w.heap.size 63 #[.int .i64 x, .int .i64 y] ∧ Below w.heap.size w wi
theorem MtS.keep {w : World} {x y : Int} {wi wj : World} (h : MtS w x y wi) (hb : Below wi.heap.size wi wj) : MtS w x y wj := ⟨h.1.keep hb, h.2.trans (hb.mono h.2.size)⟩
theorem MtS.put {w : World} {x y : Int} {wi : World} (h : MtS w x y wi) (x' y' : Int) : MtS w x' y' ((wi.setCell ⟨w.heap.size, 0, none⟩ (.int .i64 x')).setCell ⟨w.heap.size, 1, none⟩ (.int .i64 y')) :=
  ⟨(h.1.put 0 _).put 1 _, (h.2.setCell (p := ⟨w.heap.size, 0, none⟩) (Nat.le_refl _) _).setCell (p := ⟨w.heap.size, 1, none⟩) (Nat.le_refl _) _⟩
theorem winB_a {wins : Int} {x y : Nat} (h : (x : Int) = wins) : winB wins x y = ⟨#[97]⟩ := by unfold winB; rw [if_pos h]
theorem winB_b {wins : Int} {x y : Nat} (h0 : ¬ (x : Int) = wins) (h : (y : Int) = wins) : winB wins x y = ⟨#[98]⟩ := by unfold winB; rw [if_neg h0, if_pos h]
theorem winB_n {wins : Int} {x y : Nat} (h0 : ¬ (x : Int) = wins) (h : ¬ (y : Int) = wins) : winB wins x y = ⟨#[45]⟩ := by unfold winB; rw [if_neg h0, if_neg h]

set_option maxHeartbeats 6400000 in
set_option maxRecDepth 100000 in
theorem winnerOfMatch_any (l : List ByteArray) (wins : Int) (ad : Option Addr) (c : Nat) (p0 p1 : Addr) (w : World) (hl : l.length ≤ 5) (hw : 1 ≤ wins) (hsz : ∀ s ∈ l, (s.size : Int) ≤ 1048576) (he : Laid w p0 p1) (hr : Reads w ad (strs l)) :
    Calls Tryd.prog 69 #[.slice ad l.length c, .int .i64 wins, .func (.func 24) #[] #[]] w fun e w' => e = .returned (.tuple #[.string (outM wins (runM wins l 0 0)), .bool (runM wins l 0 0).isSome]) ∧ Below w.heap.size w w' := by
  have HR := Lib.hid (And.intro hr (And.intro hsz he)); clear hr hsz he
  have bn := Below.ofNew (w := w) (.cells #[.int .i64 0, .int .i64 0] 63)
  have H0 : Hid (MtS w ((0 : Nat) : Int) ((0 : Nat) : Int) (w.alloc (.cells #[.int .i64 0, .int .i64 0] 63))) := ⟨ObAt.new _ _ _, bn⟩
  clear bn
  generalize hRR : runM wins l 0 0 = R at *
  have HRR := Lib.hid hRR; clear hRR
  have hwb : (⟨#[45]⟩ : ByteArray) = winB wins 0 0 := (winB_n (by omega) (by omega)).symm
  have HWB := Lib.hid hwb; clear hwb
  go_enter Tryd.func69, Tryd.ntmps69
  go_wp2_with fail
  go_loopw [9, 16] (fun v i wr => ∃ k x y : Nat, i = .int .i64 k ∧ v = .string (winB wins x y) ∧ k ≤ l.length ∧ x ≤ k ∧ y ≤ k ∧ Hid (runM wins (l.drop k) x y = R) ∧ Hid (MtS w x y wr)) (fun _ i _ => l.length - (intOf i).toNat)
  case atStart => exact ⟨0, 0, 0, rfl, by rw [← HWB.out], Nat.zero_le _, Nat.le_refl _, Nat.le_refl _, HRR, H0⟩
  case round =>
    clear H0 HRR HWB
    obtain ⟨k, x, y, rfl, rfl, hk, hx, hy, hrun, hH⟩ := hrel
    by_cases hlt : k < l.length
    · have b1 : (k : Int) < (l.length : Int) := by omega
      obtain ⟨b, off, ha, _, hc⟩ := scells_of_reads (HR.out.1.old hH.out.2) (by omega)
      subst ha
      have c0 := hc k hlt
      clear hc
      have hmem : l.getD k ⟨#[]⟩ ∈ l := by simp [hlt]
      have hz := HR.out.2.1 _ hmem
      have hd := hrun.out
      rw [sdrop hlt] at hd
      clear hmem hrun
      generalize l.getD k ⟨#[]⟩ = s at *
      have HC := Lib.hid (implSetWinner_any s p0 p1 wr (by omega) (HR.out.2.2.keep hH.out.2))
      rcases wS_cases s with ⟨h1, h2, h3⟩ | ⟨h1, h2, h3, -⟩ | ⟨h1, h2, h3, -⟩ | ⟨h1, h2, h3, -⟩
      · rw [run_none (.inr (.inr h2))] at hd
        subst hd
        rw [h1, h3] at HC
        generalize winB wins x y = V at *
        clear h1 h2 h3
        go_wp2_with fail
        refine HC.out.mono ?_; rintro e w3 ⟨rfl, b3⟩
        have HB3 := Lib.hid ((hH.out.keep b3).2); clear b3
        go_wp2_with fail
        refine bodyPost_ret (v := .tuple #[.string ⟨#[]⟩, .bool false]) (by simp [results, Tryd.results69, go_sem]) rfl ⟨rfl, HB3.out⟩
      · rw [run_none (.inr (.inr h2))] at hd
        subst hd
        rw [h1, h3] at HC
        generalize winB wins x y = V at *
        clear h1 h2 h3
        go_wp2_with fail
        refine HC.out.mono ?_; rintro e w3 ⟨rfl, b3⟩
        have HB3 := Lib.hid ((hH.out.keep b3).2); clear b3
        go_wp2_with fail
        refine bodyPost_ret (v := .tuple #[.string ⟨#[]⟩, .bool false]) (by simp [results, Tryd.results69, go_sem]) rfl ⟨rfl, HB3.out⟩
      · rw [h1, h3] at HC
        clear h1 h3
        by_cases hxw : (x : Int) = wins
        · rw [run_none (.inl hxw)] at hd
          subst hd
          rw [winB_a hxw]
          clear h2 hxw
          go_wp2_with fail
          refine HC.out.mono ?_; rintro e w3 ⟨rfl, b3⟩
          have HB3 := Lib.hid ((hH.out.keep b3).2); clear b3
          go_wp2_with fail
          refine bodyPost_ret (v := .tuple #[.string ⟨#[]⟩, .bool false]) (by simp [results, Tryd.results69, go_sem]) rfl ⟨rfl, HB3.out⟩
        by_cases hyw : (y : Int) = wins
        · rw [run_none (.inr (.inl hyw))] at hd
          subst hd
          rw [winB_b hxw hyw]
          clear h2 hxw hyw
          go_wp2_with fail
          refine HC.out.mono ?_; rintro e w3 ⟨rfl, b3⟩
          have HB3 := Lib.hid ((hH.out.keep b3).2); clear b3
          go_wp2_with fail
          refine bodyPost_ret (v := .tuple #[.string ⟨#[]⟩, .bool false]) (by simp [results, Tryd.results69, go_sem]) rfl ⟨rfl, HB3.out⟩
        rw [run_a hxw hyw h2] at hd
        have HD := Lib.hid hd; clear h2 hd
        rw [winB_n hxw hyw]
        have HPL := Lib.hid (fun W => plus_any (x : Int) (y : Int) 97 W (by omega) (by omega) (by omega) (by omega))
        rw [show (x : Int) + upA 97 = ((x + 1 : Nat) : Int) from by simp [upA], show (y : Int) + upB 97 = ((y : Nat) : Int) from by simp [upB]] at HPL
        have HOF := Lib.hid (fun W => of_any ((x + 1 : Nat) : Int) ((y : Nat) : Int) 97 W)
        rw [show ofC ((x + 1 : Nat) : Int) ((y : Nat) : Int) 97 = ((x + 1 : Nat) : Int) from by simp [ofC]] at HOF
        go_wp2_with fail
        refine HC.out.mono ?_; rintro e w3 ⟨rfl, b3⟩
        have HB3 := Lib.hid (hH.out.keep b3); clear b3 HC
        obtain ⟨q0, q1, f0, f1⟩ := And.intro (HB3.out.1.cell 0) (And.intro (HB3.out.1.cell 1) (And.intro (HB3.out.1.free 0) (HB3.out.1.free 1)))
        go_wp2_with fail
        refine (HPL.out _).mono ?_; rintro e w4 ⟨rfl, b4⟩
        have HB4 := Lib.hid (HB3.out.keep b4); clear b4 HB3 q0 q1 f0 f1 HPL
        obtain ⟨q0, q1, f0, f1⟩ := And.intro (HB4.out.1.cell 0) (And.intro (HB4.out.1.cell 1) (And.intro (HB4.out.1.free 0) (HB4.out.1.free 1)))
        have HB5 := Lib.hid (HB4.out.put ((x + 1 : Nat) : Int) ((y : Nat) : Int))
        go_wp2_with fail
        refine (HOF.out _).mono ?_; rintro e w6 ⟨rfl, b6⟩
        have HB6 := Lib.hid (HB5.out.keep b6); clear b6 HB5 HB4 q0 q1 f0 f1 HOF
        by_cases hn : ((x + 1 : Nat) : Int) = wins
        · have hv : (⟨#[97]⟩ : ByteArray) = winB wins (x + 1) (y) := (winB_a hn).symm
          have HV := Lib.hid hv; clear hv
          have d1 : (((x + 1 : Nat) : Int) == wins) = true := by simpa using hn
          go_wp2_with fail
          go_roundw
          case rel => exact ⟨k + 1, x + 1, y, by go_num, by rw [← HV.out], by omega, by omega, by omega, HD, HB6⟩
          case measure => simp [intOf]; omega
        · have hv : (⟨#[45]⟩ : ByteArray) = winB wins (x + 1) (y) := (winB_n hn hyw).symm
          have HV := Lib.hid hv; clear hv
          have d1 : (((x + 1 : Nat) : Int) == wins) = false := by simpa using hn
          go_wp2_with fail
          go_roundw
          case rel => exact ⟨k + 1, x + 1, y, by go_num, by rw [← HV.out], by omega, by omega, by omega, HD, HB6⟩
          case measure => simp [intOf]; omega
      · rw [h1, h3] at HC
        clear h1 h3
        by_cases hxw : (x : Int) = wins
        · rw [run_none (.inl hxw)] at hd
          subst hd
          rw [winB_a hxw]
          clear h2 hxw
          go_wp2_with fail
          refine HC.out.mono ?_; rintro e w3 ⟨rfl, b3⟩
          have HB3 := Lib.hid ((hH.out.keep b3).2); clear b3
          go_wp2_with fail
          refine bodyPost_ret (v := .tuple #[.string ⟨#[]⟩, .bool false]) (by simp [results, Tryd.results69, go_sem]) rfl ⟨rfl, HB3.out⟩
        by_cases hyw : (y : Int) = wins
        · rw [run_none (.inr (.inl hyw))] at hd
          subst hd
          rw [winB_b hxw hyw]
          clear h2 hxw hyw
          go_wp2_with fail
          refine HC.out.mono ?_; rintro e w3 ⟨rfl, b3⟩
          have HB3 := Lib.hid ((hH.out.keep b3).2); clear b3
          go_wp2_with fail
          refine bodyPost_ret (v := .tuple #[.string ⟨#[]⟩, .bool false]) (by simp [results, Tryd.results69, go_sem]) rfl ⟨rfl, HB3.out⟩
        rw [run_b hxw hyw h2] at hd
        have HD := Lib.hid hd; clear h2 hd
        rw [winB_n hxw hyw]
        have HPL := Lib.hid (fun W => plus_any (x : Int) (y : Int) 98 W (by omega) (by omega) (by omega) (by omega))
        rw [show (x : Int) + upA 98 = ((x : Nat) : Int) from by simp [upA], show (y : Int) + upB 98 = ((y + 1 : Nat) : Int) from by simp [upB]] at HPL
        have HOF := Lib.hid (fun W => of_any ((x : Nat) : Int) ((y + 1 : Nat) : Int) 98 W)
        rw [show ofC ((x : Nat) : Int) ((y + 1 : Nat) : Int) 98 = ((y + 1 : Nat) : Int) from by simp [ofC]] at HOF
        go_wp2_with fail
        refine HC.out.mono ?_; rintro e w3 ⟨rfl, b3⟩
        have HB3 := Lib.hid (hH.out.keep b3); clear b3 HC
        obtain ⟨q0, q1, f0, f1⟩ := And.intro (HB3.out.1.cell 0) (And.intro (HB3.out.1.cell 1) (And.intro (HB3.out.1.free 0) (HB3.out.1.free 1)))
        go_wp2_with fail
        refine (HPL.out _).mono ?_; rintro e w4 ⟨rfl, b4⟩
        have HB4 := Lib.hid (HB3.out.keep b4); clear b4 HB3 q0 q1 f0 f1 HPL
        obtain ⟨q0, q1, f0, f1⟩ := And.intro (HB4.out.1.cell 0) (And.intro (HB4.out.1.cell 1) (And.intro (HB4.out.1.free 0) (HB4.out.1.free 1)))
        have HB5 := Lib.hid (HB4.out.put ((x : Nat) : Int) ((y + 1 : Nat) : Int))
        go_wp2_with fail
        refine (HOF.out _).mono ?_; rintro e w6 ⟨rfl, b6⟩
        have HB6 := Lib.hid (HB5.out.keep b6); clear b6 HB5 HB4 q0 q1 f0 f1 HOF
        by_cases hn : ((y + 1 : Nat) : Int) = wins
        · have hv : (⟨#[98]⟩ : ByteArray) = winB wins (x) (y + 1) := (winB_b hxw hn).symm
          have HV := Lib.hid hv; clear hv
          have d1 : (((y + 1 : Nat) : Int) == wins) = true := by simpa using hn
          go_wp2_with fail
          go_roundw
          case rel => exact ⟨k + 1, x, y + 1, by go_num, by rw [← HV.out], by omega, by omega, by omega, HD, HB6⟩
          case measure => simp [intOf]; omega
        · have hv : (⟨#[45]⟩ : ByteArray) = winB wins (x) (y + 1) := (winB_n hxw hn).symm
          have HV := Lib.hid hv; clear hv
          have d1 : (((y + 1 : Nat) : Int) == wins) = false := by simpa using hn
          go_wp2_with fail
          go_roundw
          case rel => exact ⟨k + 1, x, y + 1, by go_num, by rw [← HV.out], by omega, by omega, by omega, HD, HB6⟩
          case measure => simp [intOf]; omega
    · obtain rfl : k = l.length := by omega
      have hd := hrun.out
      rw [List.drop_length, runM] at hd
      subst hd
      clear hrun
      obtain ⟨V, hV⟩ : ∃ V, V = winB wins x y := ⟨_, rfl⟩
      rw [← hV]
      have HV := Lib.hid hV; clear hV
      go_wp2_with fail
      refine bodyPost_ret (v := .tuple #[.string V, .bool true]) (by simp [results, Tryd.results69, go_sem]) rfl ⟨by rw [HV.out]; rfl, hH.out.2⟩

set_option maxHeartbeats 3200000 in
theorem implMatchSets_any (l : List ByteArray) (wins : Int) (ad : Option Addr) (c : Nat) (p0 p1 : Addr) (w : World) (hl : (l.length : Int) ≤ 1048576) (hsz : ∀ s ∈ l, (s.size : Int) ≤ 1048576) (he : Laid w p0 p1) (hr : Reads w ad (strs l)) :
    Calls Tryd.prog 34 #[.slice ad l.length c, .int .i64 wins] w fun e w' => e = .returned (.tuple #[.string (outM wins (rM l wins)), .bool (rM l wins).isSome]) ∧ Below w.heap.size w w' := by
  by_cases hok : okM l wins = true
  · have hR : rM l wins = runM wins l 0 0 := by unfold rM; rw [if_pos hok]
    rw [hR]; clear hR
    simp only [okM, inR, Bool.and_eq_true, decide_eq_true_eq] at hok
    obtain ⟨hl9, hin1, hin2⟩ := hok
    have HWM := Lib.hid (winnerOfMatch_any l wins ad c p0 p1 w hl9 hin1 hsz he hr)
    clear he hr hsz
    generalize outM wins (runM wins l 0 0) = T at *
    generalize (runM wins l 0 0).isSome = o at *
    have hl9' : (l.length : Int) ≤ 5 := by omega
    go_enter Tryd.func34, Tryd.ntmps34
    go_wp2_with fail
    refine HWM.out.mono ?_; rintro e w2 ⟨rfl, b2⟩
    have HB2 := Lib.hid b2; clear b2
    go_wp2_with fail
    refine bodyPost_ret (v := .tuple #[.string T, .bool o]) (by simp [results, Tryd.results34, go_sem]) rfl ⟨rfl, HB2.out⟩
  · have hR : rM l wins = none := by unfold rM; rw [if_neg hok]
    rw [hR]; clear hR
    simp only [okM, inR, Bool.and_eq_true, decide_eq_true_eq, not_and] at hok
    have hcs : ((5 : Int) < (l.length : Int)) ∨ ((l.length : Int) ≤ 5 ∧ wins < 1) ∨ ((l.length : Int) ≤ 5 ∧ 1 ≤ wins ∧ 3 < wins) := by
      by_cases h9 : l.length ≤ 5
      · have hok := hok h9
        by_cases h1 : 1 ≤ wins
        · exact .inr (.inr ⟨by omega, h1, by have := hok h1; omega⟩)
        · exact .inr (.inl ⟨by omega, by omega⟩)
      · exact .inl (by omega)
    clear hok he hr hsz
    rcases hcs with h9 | ⟨h9, h1⟩ | ⟨h9, h1, h2⟩
    all_goals
      go_enter Tryd.func34, Tryd.ntmps34
      go_wp2_with fail
      refine bodyPost_ret (v := .tuple #[.string ⟨#[]⟩, .bool false]) (by simp [results, Tryd.results34, go_sem]) rfl ⟨rfl, Below.refl _ _⟩
end Go.Proofs.YtbgdngfjeikheabDoor
