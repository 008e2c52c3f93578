/-
  Tennis: who has won a match of sets: the model.
-/
import Derived.Test.YtbgdngfjeikheabDoorTnSetA
import Derived.Test.YtbgdngfjeikheabDoorSliceStr
import Derived.Test.YtbgdngfjeikheabDoorObAt
namespace Go.Proofs.YtbgdngfjeikheabDoor
open Go.RowKit
set_option linter.unusedVariables false
set_option linter.unusedSimpArgs false

set_option maxHeartbeats 400000 in
theorem l1In_any (n a b : Int) (w : World) :
    Calls Tryd.prog 68 #[.int .i64 n, .int .i64 a, .int .i64 b] w fun e w' => e = .returned (.bool (inR n a b)) ∧ w = w' := by
  by_cases h1 : a ≤ n <;> by_cases h2 : n ≤ b
  all_goals
    go_enter Tryd.func68, Tryd.ntmps68
    go_wp2
    go_ret
    exact ⟨ret_bool (by simp [inR, *]), rfl⟩

/-- The side that a set is won by: 1, 2, or 0 for none. -/
def wS (s : ByteArray) : Nat := if goodB s then (if overB (cntA (gamesL s)) (cntB (gamesL s)) then (if cntB (gamesL s) < cntA (gamesL s) then 1 else 2) else 0) else 0
theorem wS_cases (s : ByteArray) :
    (goodB s = false ∧ wS s = 0 ∧ winR s = ⟨#[]⟩) ∨ (goodB s = true ∧ wS s = 0 ∧ winR s = ⟨#[45]⟩ ∧ winW (cntA (gamesL s)) (cntB (gamesL s)) = ⟨#[45]⟩) ∨ (goodB s = true ∧ wS s = 1 ∧ winR s = ⟨#[97]⟩ ∧ winW (cntA (gamesL s)) (cntB (gamesL s)) = ⟨#[97]⟩) ∨ (goodB s = true ∧ wS s = 2 ∧ winR s = ⟨#[98]⟩ ∧ winW (cntA (gamesL s)) (cntB (gamesL s)) = ⟨#[98]⟩) := by
  cases h : goodB s
  · exact .inl ⟨rfl, by simp [wS, h], by simp [winR, h]⟩
  · cases ho : overB (cntA (gamesL s)) (cntB (gamesL s))
    · exact .inr (.inl ⟨rfl, by simp [wS, h, ho], by simp [winR, winW, h, ho], by simp [winW, ho]⟩)
    · by_cases hab : cntB (gamesL s) < cntA (gamesL s)
      · exact .inr (.inr (.inl ⟨rfl, by simp [wS, h, ho, hab], by simp [winR, winW, h, ho, hab], by simp [winW, ho, hab]⟩))
      · exact .inr (.inr (.inr ⟨rfl, by simp [wS, h, ho, hab], by simp [winR, winW, h, ho, hab], by simp [winW, ho, hab]⟩))
def runM (wins : Int) : List ByteArray → Nat → Nat → Option (Nat × Nat)
  | [], a, b => some (a, b)
  | s :: r, a, b => if (a : Int) = wins ∨ (b : Int) = wins ∨ wS s = 0 then none else if wS s = 1 then runM wins r (a + 1) b else runM wins r a (b + 1)
theorem run_none {wins : Int} {s : ByteArray} {r : List ByteArray} {a b : Nat} (h : (a : Int) = wins ∨ (b : Int) = wins ∨ wS s = 0) : runM wins (s :: r) a b = none := by rw [runM, if_pos h]
theorem run_a {wins : Int} {s : ByteArray} {r : List ByteArray} {a b : Nat} (h1 : ¬ (a : Int) = wins) (h2 : ¬ (b : Int) = wins) (h : wS s = 1) : runM wins (s :: r) a b = runM wins r (a + 1) b := by
  rw [runM, if_neg (by rw [h]; omega), if_pos h]
theorem run_b {wins : Int} {s : ByteArray} {r : List ByteArray} {a b : Nat} (h1 : ¬ (a : Int) = wins) (h2 : ¬ (b : Int) = wins) (h : wS s = 2) : runM wins (s :: r) a b = runM wins r a (b + 1) := by
  rw [runM, if_neg (by rw [h]; omega), if_neg (by omega)]
def winB (wins : Int) (a b : Nat) : ByteArray := if (a : Int) = wins then ⟨#[97]⟩ else if (b : Int) = wins then ⟨#[98]⟩ else ⟨#[45]⟩
def outM (wins : Int) : Option (Nat × Nat) → ByteArray
  | none => ⟨#[]⟩
  | some p => winB wins p.1 p.2
def okM (l : List ByteArray) (wins : Int) : Bool := decide (l.length ≤ 5) && inR wins 1 3
def rM (l : List ByteArray) (wins : Int) : Option (Nat × Nat) := if okM l wins then runM wins l 0 0 else none

/-- The winner of points that are of a set, as the model reckons it. -/
theorem winG_any (s : ByteArray) (w : World) :
    Calls Tryd.prog 62 #[.int .i64 (cntA (gamesL s)), .int .i64 (cntB (gamesL s))] w fun e w' => e = .returned (.string (winW (cntA (gamesL s)) (cntB (gamesL s)))) ∧ w = w' := by
  have hb := near_bd (games_inv s).1
  exact tnWinner_any _ _ w (by omega) (by omega) (by omega) (by omega)

set_option maxHeartbeats 6400000 in
set_option maxRecDepth 100000 in
theorem specMatchSets_any (l : List ByteArray) (wins : Int) (ad : Option Addr) (c : Nat) (w : World) (hl : (l.length : Int) ≤ 1048576) (hsz : ∀ s ∈ l, (s.size : Int) ≤ 1048576) (hr : Reads w ad (strs l)) :
    Calls Tryd.prog 32 #[.slice ad l.length c, .int .i64 wins] w fun e w' => e = .returned (.tuple #[.string (outM wins (rM l wins)), .bool (rM l wins).isSome]) ∧ Below w.heap.size w w' := by
  have HIN := Lib.hid (fun W => l1In_any wins 1 3 W)
  by_cases hok : okM l wins = true
  · have hR : rM l wins = runM wins l 0 0 := by unfold rM; rw [if_pos hok]
    rw [hR]; clear hR
    simp only [okM, Bool.and_eq_true, decide_eq_true_eq] at hok
    obtain ⟨hl9, hin⟩ := hok
    rw [hin] at HIN
    clear hin
    generalize hR : runM wins l 0 0 = R at *
    have HRR := Lib.hid hR; clear hR
    have hl9' : (l.length : Int) ≤ 5 := by omega
    have HR := Lib.hid (And.intro hr hsz); clear hr hsz
    go_enter Tryd.func32, Tryd.ntmps32
    go_wp2_with fail
    refine (HIN.out _).mono ?_; rintro e w2 ⟨rfl, rfl⟩
    go_wp2_with fail
    clear HIN
    go_loopw [6, 7, 24] (fun a b i wr => ∃ k x y : Nat, i = .int .i64 k ∧ a = .int .i64 x ∧ b = .int .i64 y ∧ k ≤ l.length ∧ x ≤ k ∧ y ≤ k ∧ Hid (runM wins (l.drop k) x y = R) ∧ Hid (Below w.heap.size w wr)) (fun _ _ i _ => l.length - (intOf i).toNat)
    case atStart => exact ⟨0, 0, 0, rfl, rfl, rfl, Nat.zero_le _, Nat.le_refl _, Nat.le_refl _, HRR, Lib.hid (Below.refl _ _)⟩
    case round =>
      clear HRR
      obtain ⟨k, x, y, rfl, rfl, rfl, hk, hx, hy, hrun, hH⟩ := hrel
      by_cases hlt : k < l.length
      · have b1 : (k : Int) < (l.length : Int) := by omega
        obtain ⟨b, off, ha, _, hc⟩ := scells_of_reads (HR.out.1.old hH.out) (by omega)
        subst ha
        have c0 := hc k hlt
        clear hc
        have hmem : l.getD k ⟨#[]⟩ ∈ l := by simp [hlt]
        have hz := HR.out.2 _ hmem
        have hd := hrun.out
        rw [sdrop hlt] at hd
        clear hmem hrun
        generalize l.getD k ⟨#[]⟩ = s at *
        have HI := Lib.hid (fun W => tnGood_any s W (by omega))
        by_cases hxw : (x : Int) = wins
        · rw [run_none (.inl hxw)] at hd
          subst hd
          subst hxw
          go_wp2_with fail
          refine bodyPost_ret (v := .tuple #[.string ⟨#[]⟩, .bool false]) (by simp [results, Tryd.results32, go_sem]) rfl ⟨rfl, hH.out⟩
        by_cases hyw : (y : Int) = wins
        · rw [run_none (.inr (.inl hyw))] at hd
          subst hd
          subst hyw
          go_wp2_with fail
          refine bodyPost_ret (v := .tuple #[.string ⟨#[]⟩, .bool false]) (by simp [results, Tryd.results32, go_sem]) rfl ⟨rfl, hH.out⟩
        have d1 : ((x : Int) == wins) = false := by simpa using hxw
        have d2 : ((y : Int) == wins) = false := by simpa using hyw
        rcases wS_cases s with ⟨h1, h2, -⟩ | ⟨h1, h2, -, h3⟩ | ⟨h1, h2, -, h3⟩ | ⟨h1, h2, -, h3⟩
        · rw [run_none (.inr (.inr h2))] at hd
          subst hd
          rw [h1] at HI
          clear h1 h2
          go_wp2_with fail
          refine (HI.out _).mono ?_; rintro e w3 ⟨rfl, b3⟩
          have HB3 := Lib.hid (hH.out.trans (b3.mono hH.out.size)); clear b3
          go_wp2_with fail
          refine bodyPost_ret (v := .tuple #[.string ⟨#[]⟩, .bool false]) (by simp [results, Tryd.results32, go_sem]) rfl ⟨rfl, HB3.out⟩
        all_goals
          have HST := Lib.hid (fun W => tnSet_good s W h1)
          have HWN := Lib.hid (fun W => wonG_any s W)
          have HSD := Lib.hid (fun W => winG_any s W)
          rw [h3] at HSD
          rw [h1] at HI
          clear h1 h3
          generalize gamesL s = G at *
          generalize wayS s = Y at *
        · rw [run_none (.inr (.inr h2))] at hd
          subst hd
          clear h2
          go_wp2_with fail
          refine (HI.out _).mono ?_; rintro e w3 ⟨rfl, b3⟩
          have HB3 := Lib.hid (hH.out.trans (b3.mono hH.out.size)); clear b3
          go_wp2_with fail
          refine (HST.out _).mono ?_; rintro e w4 ⟨rfl, b4⟩
          have HB4 := Lib.hid (HB3.out.trans (b4.mono HB3.out.size)); clear b4
          go_wp2_with fail
          refine (HWN.out _).mono ?_; rintro e w5 ⟨rfl, rfl⟩
          go_wp2_with fail
          refine (HSD.out _).mono ?_; rintro e w6 ⟨rfl, rfl⟩
          go_wp2_with fail
          refine bodyPost_ret (v := .tuple #[.string ⟨#[]⟩, .bool false]) (by simp [results, Tryd.results32, go_sem]) rfl ⟨rfl, HB4.out⟩
        · rw [run_a hxw hyw h2] at hd
          have HD := Lib.hid hd; clear h2 hd
          go_wp2_with fail
          refine (HI.out _).mono ?_; rintro e w3 ⟨rfl, b3⟩
          have HB3 := Lib.hid (hH.out.trans (b3.mono hH.out.size)); clear b3
          go_wp2_with fail
          refine (HST.out _).mono ?_; rintro e w4 ⟨rfl, b4⟩
          have HB4 := Lib.hid (HB3.out.trans (b4.mono HB3.out.size)); clear b4
          go_wp2_with fail
          refine (HWN.out _).mono ?_; rintro e w5 ⟨rfl, rfl⟩
          go_wp2_with fail
          refine (HSD.out _).mono ?_; rintro e w6 ⟨rfl, rfl⟩
          go_wp2_with fail
          go_roundw
          case rel => exact ⟨k + 1, x + 1, y, by go_num, by go_num, rfl, by omega, by omega, by omega, HD, HB4⟩
          case measure => simp [intOf]; omega
        · rw [run_b hxw hyw h2] at hd
          have HD := Lib.hid hd; clear h2 hd
          go_wp2_with fail
          refine (HI.out _).mono ?_; rintro e w3 ⟨rfl, b3⟩
          have HB3 := Lib.hid (hH.out.trans (b3.mono hH.out.size)); clear b3
          go_wp2_with fail
          refine (HST.out _).mono ?_; rintro e w4 ⟨rfl, b4⟩
          have HB4 := Lib.hid (HB3.out.trans (b4.mono HB3.out.size)); clear b4
          go_wp2_with fail
          refine (HWN.out _).mono ?_; rintro e w5 ⟨rfl, rfl⟩
          go_wp2_with fail
          refine (HSD.out _).mono ?_; rintro e w6 ⟨rfl, rfl⟩
          go_wp2_with fail
          go_roundw
          case rel => exact ⟨k + 1, x, y + 1, by go_num, rfl, by go_num, by omega, by omega, by omega, HD, HB4⟩
          case measure => simp [intOf]; omega
      · obtain rfl : k = l.length := by omega
        have hd := hrun.out
        rw [List.drop_length, runM] at hd
        subst hd
        clear hrun
        by_cases hxw : (x : Int) = wins
        · have e1 : outM wins (some (x, y)) = ⟨#[97]⟩ := by simp [outM, winB, hxw]
          have HE1 := Lib.hid e1; clear e1
          subst hxw
          go_wp2_with fail
          refine bodyPost_ret (v := .tuple #[.string ⟨#[97]⟩, .bool true]) (by simp [results, Tryd.results32, go_sem]) rfl ⟨by rw [HE1.out]; rfl, hH.out⟩
        by_cases hyw : (y : Int) = wins
        · have e1 : outM wins (some (x, y)) = ⟨#[98]⟩ := by simp [outM, winB, hxw, hyw]
          have HE1 := Lib.hid e1; clear e1
          have d1 : ((x : Int) == wins) = false := by simp; omega
          have d1' : ¬ ((x : Int) = wins) := by omega
          have d3 : ((y : Int) == wins) = true := by simp; omega
          have d3' : (y : Int) = wins := hyw
          have HD3 := Lib.hid d3'; clear d3' 
          go_wp2_with fail
          refine bodyPost_ret (v := .tuple #[.string ⟨#[98]⟩, .bool true]) (by simp [results, Tryd.results32, go_sem]) rfl ⟨by rw [HE1.out]; rfl, hH.out⟩
        · have e1 : outM wins (some (x, y)) = ⟨#[45]⟩ := by simp [outM, winB, hxw, hyw]
          have HE1 := Lib.hid e1; clear e1
          have d1 : ((x : Int) == wins) = false := by simp; omega
          have d1' : ¬ ((x : Int) = wins) := by omega
          have d2 : ((y : Int) == wins) = false := by simp; omega
          have d2' : ¬ ((y : Int) = wins) := by omega
          go_wp2_with fail
          refine bodyPost_ret (v := .tuple #[.string ⟨#[45]⟩, .bool true]) (by simp [results, Tryd.results32, go_sem]) rfl ⟨by rw [HE1.out]; rfl, hH.out⟩
  · have hR : rM l wins = none := by unfold rM; rw [if_neg hok]
    rw [hR]; clear hR
    simp only [okM, Bool.and_eq_true, decide_eq_true_eq, not_and] at hok
    by_cases hl9 : l.length ≤ 5
    · have hin : inR wins 1 3 = false := by have := hok hl9; cases h : inR wins 1 3 <;> simp_all
      rw [hin] at HIN
      have hl9' : (l.length : Int) ≤ 5 := by omega
      clear hin hok
      go_enter Tryd.func32, Tryd.ntmps32
      go_wp2_with fail
      refine (HIN.out _).mono ?_; rintro e w2 ⟨rfl, rfl⟩
      go_wp2_with fail
      refine bodyPost_ret (v := .tuple #[.string ⟨#[]⟩, .bool false]) (by simp [results, Tryd.results32, go_sem]) rfl ⟨rfl, Below.refl _ _⟩
    · have hl9' : (5 : Int) < (l.length : Int) := by omega
      clear hok
      go_enter Tryd.func32, Tryd.ntmps32
      go_wp2_with fail
      refine bodyPost_ret (v := .tuple #[.string ⟨#[]⟩, .bool false]) (by simp [results, Tryd.results32, go_sem]) rfl ⟨rfl, Below.refl _ _⟩
end Go.Proofs.YtbgdngfjeikheabDoor
