/-
  Goals: GoalsAhead: the model's and the program's.
-/
import Derived.Test.YthbhhcpkilckkaaGoTurn
namespace Go.Proofs.Ythbhhcpkilckkaa
open Go.RowKit
set_option linter.unusedVariables false
set_option linter.unusedSimpArgs false

def cntS (p : Int × Int → Bool) (n : Int) (s : Int × Int) : Int := if p s = true then n + 1 else n
def pA (s : Int × Int) : Bool := decide (0 < s.1 - s.2)
def pB (s : Int × Int) : Bool := decide (0 < s.2 - s.1)
def aheadG (p : Int × Int → Bool) : Option (List (Int × Int)) → Int
  | none => 0
  | some L => (scoresG L).foldl (cntS p) 0

set_option maxHeartbeats 3200000 in
theorem specAhead_any (ks : List Int) (game : ByteArray) (a : Option Addr) (c : Nat) (w : World) (hl : (ks.length : Int) ≤ 1000000000000) (hs : (game.size : Int) ≤ 1048576) (h : Reads w a (ints ks)) :
    Calls Try.prog 53 #[.slice a ks.length c, .string game] w fun e w' => e = .returned (.tuple #[.int .i64 (aheadG pA (playG ks game.data.toList)), .int .i64 (aheadG pB (playG ks game.data.toList)), .bool (playG ks game.data.toList).isSome]) ∧ Below w.heap.size w w' := by
  have HB := Lib.hid (goBoth_any ks game a c w hl hs h)
  cases hp : playG ks game.data.toList with
  | none =>
    have HP := Lib.hid hp; clear hp h
    go_enter Try.func53, Try.ntmps53
    go_wp2_with fail
    refine HB.out.mono ?_; rintro e w1 ⟨rfl, b1⟩
    rw [HP.out]
    simp only [Option.isSome]
    go_wp2_with fail
    refine bodyPost_ret (v := .tuple #[.int .i64 0, .int .i64 0, .bool false]) (by simp [results, Try.results53, go_sem]) rfl ⟨rfl, b1⟩
  | some L =>
    obtain ⟨hg, hgm, hL60⟩ := playG_some hp
    have HS := Lib.hid (fun w' (hr : Reads w' a (ints ks)) => goScores_any ks hg game L hgm a c w' hr)
    have HBD := Lib.hid (fun k hk => scoresG_bd hg hgm (k := k) hk)
    have HP := Lib.hid hp; clear hp
    have HR := Lib.hid h; clear h
    have hsl := scoresG_len L
    have hv : aheadG pA (some L) = (scoresG L).foldl (cntS pA) 0 := rfl
    have hv2 : aheadG pB (some L) = (scoresG L).foldl (cntS pB) 0 := rfl
    rw [hv, hv2]; clear hv hv2
    generalize scoresG L = sc at *
    have HSL := Lib.hid hsl
    generalize hn : L.length + 1 = n at *
    have HNL := Lib.hid hn; clear hn
    have hn61 : (n : Int) ≤ 61 := by have := HNL.out; omega
    go_enter Try.func53, Try.ntmps53
    go_wp2_with fail
    refine HB.out.mono ?_; rintro e w1 ⟨rfl, b1⟩
    rw [HP.out]
    simp only [Option.isSome]
    have B1 := Lib.hid b1; clear b1
    go_wp2_with fail
    refine (HS.out _ (HR.out.old B1.out)).mono ?_; rintro e w2 ⟨v, rfl, hpd, b2⟩
    have HPD := Lib.hid (And.intro hpd (B1.out.trans (b2.mono B1.out.size))); clear b2 hpd
    obtain ⟨go, cap, gr0, cr0, rfl, -⟩ := HPD.out.1.row (j := 0) (by rw [HSL.out]; have := HNL.out; omega)
    rw [hsl]
    clear hsl
    go_wp2_with fail
    go_loopw [7, 8, 19] (fun q p i wr => ∃ (k : Nat) (m d : Int), i = .int .i64 k ∧ q = .int .i64 m ∧ p = .int .i64 d ∧ k ≤ n ∧ 0 ≤ m ∧ m ≤ k ∧ 0 ≤ d ∧ d ≤ k ∧ Hid ((sc.drop k).foldl (cntS pA) m = sc.foldl (cntS pA) 0) ∧ Hid ((sc.drop k).foldl (cntS pB) d = sc.foldl (cntS pB) 0) ∧ Hid (Below w2.heap.size w2 wr)) (fun _ _ i _ => n - (intOf i).toNat)
    case atStart => exact ⟨0, 0, 0, rfl, rfl, rfl, Nat.zero_le _, by omega, by omega, by omega, by omega, Lib.hid rfl, Lib.hid rfl, Lib.hid (Below.refl _ _)⟩
    case round =>
      obtain ⟨k, m, d, rfl, rfl, rfl, hk, m0, m1, d0, d1, hF, hG, hB⟩ := hrel
      by_cases hlt : k < n
      · have b1 : (k : Int) < (n : Int) := by omega
        obtain ⟨go', cap', g, cc, hv', c0, c1, c2⟩ := (HPD.out.1.keep hB.out).row (j := k) (by rw [HSL.out]; exact hlt)
        cases hv'
        obtain ⟨x1, x2, x3, x4⟩ := HBD.out k (by have := HNL.out; omega)
        have hfd := drop_pair (l := sc) (k := k) (by rw [HSL.out]; exact hlt)
        have hF2 := hF.out
        have hG2 := hG.out
        rw [hfd, List.foldl_cons] at hF2 hG2
        have HF2 := Lib.hid hF2
        have HG2 := Lib.hid hG2; clear hF hG hfd hF2 hG2
        generalize sc.getD k (0, 0) = s at *
        obtain ⟨x, y⟩ := s
        simp only at x1 x2 x3 x4 c1 c2
        have hwr : IntKind.i64.wrap (x - y) = x - y := IntWalk.i64_in _ (by omega)
        have hsg := sgn_cases (x - y)
        have HSG := Lib.hid (fun W => l1Sign_any (x - y) W)
        rcases hsg with ⟨e1, e2⟩ | ⟨e1, e2⟩ | ⟨e1, e2⟩
        · have ea : cntS pA m (x, y) = m + 1 := by unfold cntS pA; rw [if_pos (by simpa using e2)]
          have eb : cntS pB d (x, y) = d := by unfold cntS pB; rw [if_neg (by simp; omega)]
          rw [ea] at HF2
          rw [eb] at HG2
          rw [e1] at HSG
          clear ea eb e1 e2
          go_wp2_with fail
          go_quiet ((go_at_call 79; exact calmCall (fun W => HSG.out W)))
          go_wp2_with fail
          go_roundw
          case rel => exact ⟨k + 1, m + 1, d, by go_num, rfl, rfl, by omega, by omega, by omega, by omega, by omega, HF2, HG2, Lib.hid (below_drewN hB.out _)⟩
          case measure => simp [intOf]; omega
        · have ea : cntS pA m (x, y) = m := by unfold cntS pA; rw [if_neg (by simp; omega)]
          have eb : cntS pB d (x, y) = d + 1 := by unfold cntS pB; rw [if_pos (by simp; omega)]
          rw [ea] at HF2
          rw [eb] at HG2
          rw [e1] at HSG
          clear ea eb e1 e2
          go_wp2_with fail
          go_quiet ((go_at_call 79; exact calmCall (fun W => HSG.out W)))
          go_wp2_with fail
          go_roundw
          case rel => exact ⟨k + 1, m, d + 1, by go_num, rfl, rfl, by omega, by omega, by omega, by omega, by omega, HF2, HG2, Lib.hid (below_drewN hB.out _)⟩
          case measure => simp [intOf]; omega
        · have ea : cntS pA m (x, y) = m := by unfold cntS pA; rw [if_neg (by simp; omega)]
          have eb : cntS pB d (x, y) = d := by unfold cntS pB; rw [if_neg (by simp; omega)]
          rw [ea] at HF2
          rw [eb] at HG2
          rw [e1] at HSG
          clear ea eb e1 e2
          go_wp2_with fail
          go_quiet ((go_at_call 79; exact calmCall (fun W => HSG.out W)))
          go_wp2_with fail
          go_roundw
          case rel => exact ⟨k + 1, m, d, by go_num, rfl, rfl, by omega, by omega, by omega, by omega, by omega, HF2, HG2, Lib.hid (below_drewN hB.out _)⟩
          case measure => simp [intOf]; omega
      · obtain rfl : k = n := by omega
        have hend : m = sc.foldl (cntS pA) 0 := by rw [← hF.out, List.drop_of_length_le (by rw [HSL.out]; exact Nat.le_refl _)]; rfl
        have hend2 : d = sc.foldl (cntS pB) 0 := by rw [← hG.out, List.drop_of_length_le (by rw [HSL.out]; exact Nat.le_refl _)]; rfl
        have HE := Lib.hid (And.intro hend hend2); clear hend hend2
        go_wp2_with fail
        refine bodyPost_ret (v := .tuple #[.int .i64 m, .int .i64 d, .bool true]) (by simp [results, Try.results53, go_sem]) rfl ⟨by rw [← HE.out.1, ← HE.out.2]; rfl, HPD.out.2.trans (hB.out.mono HPD.out.2.size)⟩

/-- Whether a side leads, by its letter. -/
def pC (c : UInt8) (s : Int × Int) : Bool := decide (0 < 2 * ofC s.1 s.2 c - s.1 - s.2)
theorem pC_a (s : Int × Int) : pC 97 s = pA s := by unfold pC pA; rw [lead_a]
theorem pC_b (s : Int × Int) : pC 98 s = pB s := by unfold pC pB; rw [lead_b]

set_option maxHeartbeats 1600000 in
theorem ahead1_any (x y : Int) (ch : UInt8) (gs : Nat) (w : World) (h1 : 0 ≤ x) (h2 : x ≤ 1200) (h3 : 0 ≤ y) (h4 : y ≤ 1200) (hg : gs < w.heap.size) (hc : w.cell? ⟨gs, 0, none⟩ = some (.string ⟨#[ch]⟩)) :
    Calls Try.prog 94 #[.agg #[.int .i64 x, .int .i64 y], .pointer (some ⟨gs, 0, none⟩)] w fun e w' => e = .returned (.int .i64 (if pC ch (x, y) = true then 1 else 0)) ∧ Below w.heap.size w w' := by
  have HLE := Lib.hid (fun W => leadOf_any x y ch W h1 (by omega) h3 (by omega))
  have hpc : pC ch (x, y) = decide (0 < 2 * ofC x y ch - x - y) := rfl
  have ho : 0 ≤ ofC x y ch ∧ ofC x y ch ≤ 1200 := by unfold ofC; split <;> omega
  generalize hE : 2 * ofC x y ch - x - y = E at *
  have hEb : -3000 ≤ E ∧ E ≤ 3000 := by omega
  clear hE ho
  obtain ⟨r0, r1⟩ := two_new w (.int .i64 x) (.int .i64 y) 62
  have hc2 : (w.alloc (.cells #[.int .i64 x, .int .i64 y] 62)).cell? ⟨gs, 0, none⟩ = some (.string ⟨#[ch]⟩) := by
    rw [(below_new w (.cells #[.int .i64 x, .int .i64 y] 62)).cell (p := ⟨gs, 0, none⟩) hg]; exact hc
  have hb := below_new w (.cells #[.int .i64 x, .int .i64 y] 62)
  have HB := Lib.hid hb; clear hb
  by_cases q : 0 < E
  · have e : pC ch (x, y) = true := by rw [hpc]; simpa using q
    rw [e, if_pos rfl]
    clear e hpc
    go_enter Try.func94, Try.ntmps94
    go_wp2_with fail
    refine (HLE.out _).mono ?_; rintro r w3 ⟨rfl, b3⟩
    have HB3 := Lib.hid (HB.out.trans (b3.mono HB.out.size)); clear b3
    go_wp2_with fail
    go_ret
    exact ⟨rfl, HB3.out⟩
  · have e : pC ch (x, y) = false := by rw [hpc]; simpa using q
    rw [e, if_neg (by simp)]
    clear e hpc
    go_enter Try.func94, Try.ntmps94
    go_wp2_with fail
    refine (HLE.out _).mono ?_; rintro r w3 ⟨rfl, b3⟩
    have HB3 := Lib.hid (HB.out.trans (b3.mono HB.out.size)); clear b3
    go_wp2_with fail
    go_ret
    exact ⟨rfl, HB3.out⟩
end Go.Proofs.Ythbhhcpkilckkaa
