/-
  Races: who has won a match: the model and the program.
-/
import Derived.Test.YthlkndloggmehaaDoorRaWin
import Derived.Test.YthlkndloggmehaaDoorSliceStr
import Derived.Test.YthlkndloggmehaaDoorObAt
namespace Go.Proofs.YthlkndloggmehaaDoor
open Go.RowKit
set_option linter.unusedVariables false
set_option linter.unusedSimpArgs false

/-- The side that a play is won by: 1, 2, or 0 for none. -/
def wT (tq ld : Int) (s : ByteArray) : Nat := if isP tq ld s then wonN tq ld (cntA s.data.toList) (cntB s.data.toList) else 0
theorem wT_cases (tq ld : Int) (s : ByteArray) :
    (isP tq ld s = false ∧ wT tq ld s = 0 ∧ winT tq ld s = ⟨#[]⟩) ∨ (isP tq ld s = true ∧ wT tq ld s = 0 ∧ winT tq ld s = ⟨#[45]⟩ ∧ sideT (wonN tq ld (cntA s.data.toList) (cntB s.data.toList)) = ⟨#[45]⟩) ∨ (isP tq ld s = true ∧ wT tq ld s = 1 ∧ winT tq ld s = ⟨#[97]⟩ ∧ sideT (wonN tq ld (cntA s.data.toList) (cntB s.data.toList)) = ⟨#[97]⟩) ∨ (isP tq ld s = true ∧ wT tq ld s = 2 ∧ winT tq ld s = ⟨#[98]⟩ ∧ sideT (wonN tq ld (cntA s.data.toList) (cntB s.data.toList)) = ⟨#[98]⟩) := by
  cases h : isP tq ld s
  · exact .inl ⟨rfl, by unfold wT; rw [h]; rfl, winT_bad h⟩
  · rw [winT_ok h]
    have hw : wT tq ld s = wonN tq ld (cntA s.data.toList) (cntB s.data.toList) := by unfold wT; rw [h]; rfl
    rw [hw]
    rcases wonI_eq tq ld (cntA s.data.toList) (cntB s.data.toList) with ⟨g, -⟩ | ⟨g, -⟩ | ⟨g, -⟩
    · rw [g]; exact .inr (.inl ⟨rfl, rfl, rfl, rfl⟩)
    · rw [g]; exact .inr (.inr (.inl ⟨rfl, rfl, rfl, rfl⟩))
    · rw [g]; exact .inr (.inr (.inr ⟨rfl, rfl, rfl, rfl⟩))

def runM (tq ld wins : Int) : List ByteArray → Nat → Nat → Option (Nat × Nat)
  | [], a, b => some (a, b)
  | s :: r, a, b => if (a : Int) = wins ∨ (b : Int) = wins ∨ wT tq ld s = 0 then none else if wT tq ld s = 1 then runM tq ld wins r (a + 1) b else runM tq ld wins r a (b + 1)
theorem run_none {tq ld wins : Int} {s : ByteArray} {r : List ByteArray} {a b : Nat} (h : (a : Int) = wins ∨ (b : Int) = wins ∨ wT tq ld s = 0) : runM tq ld wins (s :: r) a b = none := by rw [runM, if_pos h]
theorem run_a {tq ld wins : Int} {s : ByteArray} {r : List ByteArray} {a b : Nat} (h1 : ¬ (a : Int) = wins) (h2 : ¬ (b : Int) = wins) (h : wT tq ld s = 1) : runM tq ld wins (s :: r) a b = runM tq ld wins r (a + 1) b := by
  rw [runM, if_neg (by rw [h]; omega), if_pos h]
theorem run_b {tq ld wins : Int} {s : ByteArray} {r : List ByteArray} {a b : Nat} (h1 : ¬ (a : Int) = wins) (h2 : ¬ (b : Int) = wins) (h : wT tq ld s = 2) : runM tq ld wins (s :: r) a b = runM tq ld wins r a (b + 1) := by
  rw [runM, if_neg (by rw [h]; omega), if_neg (by omega)]
def winB (wins : Int) (a b : Nat) : ByteArray := if (a : Int) = wins then ⟨#[97]⟩ else if (b : Int) = wins then ⟨#[98]⟩ else ⟨#[45]⟩
def outM (wins : Int) : Option (Nat × Nat) → ByteArray
  | none => ⟨#[]⟩
  | some p => winB wins p.1 p.2
def okM (tq ld : Int) (l : List ByteArray) (wins : Int) : Bool := goodR tq ld && (decide (l.length ≤ 9) && inR wins 1 5)
def rM (tq ld : Int) (l : List ByteArray) (wins : Int) : Option (Nat × Nat) := if okM tq ld l wins then runM tq ld wins l 0 0 else none

set_option maxHeartbeats 6400000 in
set_option maxRecDepth 100000 in
theorem specMatchOf_any (tq ld : Int) (l : List ByteArray) (wins : Int) (ad : Option Addr) (c : Nat) (w : World) (hl : (l.length : Int) ≤ 1048576) (hsz : ∀ s ∈ l, (s.size : Int) ≤ 1048576) (hr : Reads w ad (strs l)) :
    Calls Tryd.prog 20 #[.agg #[.int .i64 tq, .int .i64 ld], .slice ad l.length c, .int .i64 wins] w fun e w' => e = .returned (.tuple #[.string (outM wins (rM tq ld l wins)), .bool (rM tq ld l wins).isSome]) ∧ Below w.heap.size w w' := by
  have HRG := Lib.hid (fun W => raGood_any tq ld W)
  have HB0 := Lib.hid (And.intro (ObAt.new w 37 #[.int .i64 tq, .int .i64 ld]) (Below.ofNew (w := w) (.cells #[.int .i64 tq, .int .i64 ld] 37)))
  have HIN := Lib.hid (fun W => l1In_any wins 1 5 W)
  by_cases hok : okM tq ld l wins = true
  · have hR : rM tq ld l wins = runM tq ld wins l 0 0 := by unfold rM; rw [if_pos hok]
    rw [hR]; clear hR
    simp only [okM, Bool.and_eq_true, decide_eq_true_eq] at hok
    obtain ⟨hg, hl9, hin⟩ := hok
    rw [hg] at HRG
    rw [hin] at HIN
    clear hg hin
    generalize hR : runM tq ld wins l 0 0 = R at *
    have HRR := Lib.hid hR; clear hR
    have hl9' : (l.length : Int) ≤ 9 := by omega
    have HR := Lib.hid (And.intro hr hsz); clear hr hsz
    obtain ⟨p0, p1⟩ := And.intro (HB0.out.1.cell 0) (HB0.out.1.cell 1)
    go_enter Tryd.func20, Tryd.ntmps20
    go_wp2_with fail
    refine (HRG.out _).mono ?_; rintro e w1 ⟨rfl, b1⟩
    have HB1 := Lib.hid (And.intro (HB0.out.1.keep b1) (HB0.out.2.trans (b1.mono HB0.out.2.size))); clear b1 HB0 p0 p1
    go_wp2_with fail
    refine (HIN.out _).mono ?_; rintro e w2 ⟨rfl, rfl⟩
    go_wp2_with fail
    clear HRG HIN
    go_loopw [8, 9, 27] (fun a b i wr => ∃ k x y : Nat, i = .int .i64 k ∧ a = .int .i64 x ∧ b = .int .i64 y ∧ k ≤ l.length ∧ x ≤ k ∧ y ≤ k ∧ Hid (runM tq ld wins (l.drop k) x y = R) ∧ Hid (ObAt wr w.heap.size 37 #[.int .i64 tq, .int .i64 ld] ∧ Below w.heap.size w wr)) (fun _ _ i _ => l.length - (intOf i).toNat)
    case atStart => exact ⟨0, 0, 0, rfl, rfl, rfl, Nat.zero_le _, Nat.le_refl _, Nat.le_refl _, HRR, HB1⟩
    case round =>
      clear HB1 HRR
      obtain ⟨k, x, y, rfl, rfl, rfl, hk, hx, hy, hrun, hH⟩ := hrel
      by_cases hlt : k < l.length
      · have b1 : (k : Int) < (l.length : Int) := by omega
        obtain ⟨b, off, ha, _, hc⟩ := scells_of_reads (HR.out.1.old hH.out.2) (by omega)
        subst ha
        have c0 := hc k hlt
        clear hc
        have hmem : l.getD k ⟨#[]⟩ ∈ l := by simp [hlt]
        have hz := HR.out.2 _ hmem
        have hd := hrun.out
        rw [sdrop hlt] at hd
        clear hmem hrun
        generalize l.getD k ⟨#[]⟩ = s at *
        have HI := Lib.hid (fun W => raIs_any tq ld s W (by omega))
        obtain ⟨p0, p1⟩ := And.intro (hH.out.1.cell 0) (hH.out.1.cell 1)
        by_cases hxw : (x : Int) = wins
        · rw [run_none (.inl hxw)] at hd
          subst hd
          subst hxw
          go_wp2_with fail
          refine bodyPost_ret (v := .tuple #[.string ⟨#[]⟩, .bool false]) (by simp [results, Tryd.results20, go_sem]) rfl ⟨rfl, hH.out.2⟩
        by_cases hyw : (y : Int) = wins
        · rw [run_none (.inr (.inl hyw))] at hd
          subst hd
          subst hyw
          go_wp2_with fail
          refine bodyPost_ret (v := .tuple #[.string ⟨#[]⟩, .bool false]) (by simp [results, Tryd.results20, go_sem]) rfl ⟨rfl, hH.out.2⟩
        have d1 : ((x : Int) == wins) = false := by simpa using hxw
        have d2 : ((y : Int) == wins) = false := by simpa using hyw
        rcases wT_cases tq ld s with ⟨h1, h2, -⟩ | ⟨h1, h2, -, h3⟩ | ⟨h1, h2, -, h3⟩ | ⟨h1, h2, -, h3⟩
        · rw [run_none (.inr (.inr h2))] at hd
          subst hd
          rw [h1] at HI
          clear h1 h2
          go_wp2_with fail
          refine (HI.out _).mono ?_; rintro e w3 ⟨rfl, b3⟩
          have HB3 := Lib.hid (hH.out.2.trans (b3.mono hH.out.2.size)); clear b3
          go_wp2_with fail
          refine bodyPost_ret (v := .tuple #[.string ⟨#[]⟩, .bool false]) (by simp [results, Tryd.results20, go_sem]) rfl ⟨rfl, HB3.out⟩
        all_goals
          have HSD := Lib.hid (fun W => raSide_any tq ld s W h1)
          rw [h3] at HSD
          rw [h1] at HI
          clear h1 h3
        · rw [run_none (.inr (.inr h2))] at hd
          subst hd
          clear h2
          go_wp2_with fail
          refine (HI.out _).mono ?_; rintro e w3 ⟨rfl, b3⟩
          have HB3 := Lib.hid (And.intro (hH.out.1.keep b3) (hH.out.2.trans (b3.mono hH.out.2.size))); clear b3 p0 p1
          obtain ⟨p0, p1⟩ := And.intro (HB3.out.1.cell 0) (HB3.out.1.cell 1)
          go_wp2_with fail
          refine (HSD.out _).mono ?_; rintro e w4 ⟨rfl, b4⟩
          have HB4 := Lib.hid (HB3.out.2.trans (b4.mono HB3.out.2.size)); clear b4 p0 p1
          go_wp2_with fail
          refine bodyPost_ret (v := .tuple #[.string ⟨#[]⟩, .bool false]) (by simp [results, Tryd.results20, go_sem]) rfl ⟨rfl, HB4.out⟩
        · rw [run_a hxw hyw h2] at hd
          have HD := Lib.hid hd; clear h2 hd
          go_wp2_with fail
          refine (HI.out _).mono ?_; rintro e w3 ⟨rfl, b3⟩
          have HB3 := Lib.hid (And.intro (hH.out.1.keep b3) (hH.out.2.trans (b3.mono hH.out.2.size))); clear b3 p0 p1
          obtain ⟨p0, p1⟩ := And.intro (HB3.out.1.cell 0) (HB3.out.1.cell 1)
          go_wp2_with fail
          refine (HSD.out _).mono ?_; rintro e w4 ⟨rfl, b4⟩
          have HB4 := Lib.hid (And.intro (HB3.out.1.keep b4) (HB3.out.2.trans (b4.mono HB3.out.2.size))); clear b4 p0 p1
          go_wp2_with fail
          go_roundw
          case rel => exact ⟨k + 1, x + 1, y, by go_num, by go_num, rfl, by omega, by omega, by omega, HD, HB4⟩
          case measure => simp [intOf]; omega
        · rw [run_b hxw hyw h2] at hd
          have HD := Lib.hid hd; clear h2 hd
          go_wp2_with fail
          refine (HI.out _).mono ?_; rintro e w3 ⟨rfl, b3⟩
          have HB3 := Lib.hid (And.intro (hH.out.1.keep b3) (hH.out.2.trans (b3.mono hH.out.2.size))); clear b3 p0 p1
          obtain ⟨p0, p1⟩ := And.intro (HB3.out.1.cell 0) (HB3.out.1.cell 1)
          go_wp2_with fail
          refine (HSD.out _).mono ?_; rintro e w4 ⟨rfl, b4⟩
          have HB4 := Lib.hid (And.intro (HB3.out.1.keep b4) (HB3.out.2.trans (b4.mono HB3.out.2.size))); clear b4 p0 p1
          go_wp2_with fail
          go_roundw
          case rel => exact ⟨k + 1, x, y + 1, by go_num, rfl, by go_num, by omega, by omega, by omega, HD, HB4⟩
          case measure => simp [intOf]; omega
      · obtain rfl : k = l.length := by omega
        have hd := hrun.out
        rw [List.drop_length, runM] at hd
        subst hd
        clear hrun
        by_cases hxw : (x : Int) = wins
        · have e1 : outM wins (some (x, y)) = ⟨#[97]⟩ := by simp [outM, winB, hxw]
          have HE1 := Lib.hid e1; clear e1
          subst hxw
          go_wp2_with fail
          refine bodyPost_ret (v := .tuple #[.string ⟨#[97]⟩, .bool true]) (by simp [results, Tryd.results20, go_sem]) rfl ⟨by rw [HE1.out]; rfl, hH.out.2⟩
        by_cases hyw : (y : Int) = wins
        · have e1 : outM wins (some (x, y)) = ⟨#[98]⟩ := by simp [outM, winB, hxw, hyw]
          have HE1 := Lib.hid e1; clear e1
          have d1 : (wins == (x : Int)) = false := by simp; omega
          have d1' : ¬ (wins = (x : Int)) := by omega
          have d3 : (wins == (y : Int)) = true := by simp; omega
          have d3' : wins = (y : Int) := hyw.symm
          have HD3 := Lib.hid d3'; clear d3' 
          go_wp2_with fail
          refine bodyPost_ret (v := .tuple #[.string ⟨#[98]⟩, .bool true]) (by simp [results, Tryd.results20, go_sem]) rfl ⟨by rw [HE1.out]; rfl, hH.out.2⟩
        · have e1 : outM wins (some (x, y)) = ⟨#[45]⟩ := by simp [outM, winB, hxw, hyw]
          have HE1 := Lib.hid e1; clear e1
          have d1 : (wins == (x : Int)) = false := by simp; omega
          have d1' : ¬ (wins = (x : Int)) := by omega
          have d2 : (wins == (y : Int)) = false := by simp; omega
          have d2' : ¬ (wins = (y : Int)) := by omega
          go_wp2_with fail
          refine bodyPost_ret (v := .tuple #[.string ⟨#[45]⟩, .bool true]) (by simp [results, Tryd.results20, go_sem]) rfl ⟨by rw [HE1.out]; rfl, hH.out.2⟩
  · have hR : rM tq ld l wins = none := by unfold rM; rw [if_neg hok]
    rw [hR]; clear hR
    obtain ⟨p0, p1⟩ := And.intro (HB0.out.1.cell 0) (HB0.out.1.cell 1)
    simp only [okM, Bool.and_eq_true, decide_eq_true_eq, not_and] at hok
    cases hg : goodR tq ld
    · rw [hg] at HRG
      clear hg hok
      go_enter Tryd.func20, Tryd.ntmps20
      go_wp2_with fail
      refine (HRG.out _).mono ?_; rintro e w1 ⟨rfl, b1⟩
      have HB1 := Lib.hid (HB0.out.2.trans (b1.mono HB0.out.2.size)); clear b1
      go_wp2_with fail
      refine bodyPost_ret (v := .tuple #[.string ⟨#[]⟩, .bool false]) (by simp [results, Tryd.results20, go_sem]) rfl ⟨rfl, HB1.out⟩
    · have hok := hok hg
      rw [hg] at HRG
      clear hg
      by_cases hl9 : l.length ≤ 9
      · have hin : inR wins 1 5 = false := by have := hok hl9; cases h : inR wins 1 5 <;> simp_all
        rw [hin] at HIN
        have hl9' : (l.length : Int) ≤ 9 := by omega
        clear hin hok
        go_enter Tryd.func20, Tryd.ntmps20
        go_wp2_with fail
        refine (HRG.out _).mono ?_; rintro e w1 ⟨rfl, b1⟩
        have HB1 := Lib.hid (HB0.out.2.trans (b1.mono HB0.out.2.size)); clear b1
        go_wp2_with fail
        refine (HIN.out _).mono ?_; rintro e w2 ⟨rfl, rfl⟩
        go_wp2_with fail
        refine bodyPost_ret (v := .tuple #[.string ⟨#[]⟩, .bool false]) (by simp [results, Tryd.results20, go_sem]) rfl ⟨rfl, HB1.out⟩
      · have hl9' : (9 : Int) < (l.length : Int) := by omega
        clear hok
        go_enter Tryd.func20, Tryd.ntmps20
        go_wp2_with fail
        refine (HRG.out _).mono ?_; rintro e w1 ⟨rfl, b1⟩
        have HB1 := Lib.hid (HB0.out.2.trans (b1.mono HB0.out.2.size)); clear b1
        go_wp2_with fail
        refine bodyPost_ret (v := .tuple #[.string ⟨#[]⟩, .bool false]) (by simp [results, Tryd.results20, go_sem]) rfl ⟨rfl, HB1.out⟩
end Go.Proofs.YthlkndloggmehaaDoor
