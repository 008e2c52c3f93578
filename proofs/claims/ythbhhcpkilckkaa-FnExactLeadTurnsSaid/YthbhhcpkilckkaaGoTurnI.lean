/-
  Goals: LeadTurns: the program's.
-/
import Derived.Test.YthbhhcpkilckkaaGoTurn
namespace Go.Proofs.Ythbhhcpkilckkaa
open Go.RowKit
set_option linter.unusedVariables false
set_option linter.unusedSimpArgs false

set_option maxHeartbeats 3200000 in
theorem implTurn_any (ks : List Int) (game : ByteArray) (a : Option Addr) (c : Nat) (w : World) (hl : (ks.length : Int) ≤ 1000000000000) (hs : (game.size : Int) ≤ 1048576) (h : Reads w a (ints ks)) :
    Calls Try.prog 50 #[.slice a ks.length c, .string game] w fun e w' => e = .returned (.tuple #[.int .i64 (turnsG (playG ks game.data.toList)), .bool (playG ks game.data.toList).isSome]) ∧ Below w.heap.size w w' := by
  have HS := Lib.hid (scoresOf_any ks game a c w hl hs h); clear h
  cases hp : playG ks game.data.toList with
  | none =>
    have HP := Lib.hid hp; clear hp
    go_enter Try.func50, Try.ntmps50
    go_wp2_with fail
    refine HS.out.mono ?_; rintro e w1 ⟨-, hn, b1⟩
    obtain rfl := hn HP.out
    clear hn
    go_wp2_with fail
    refine wp_loop_rounds 1 ?_
    rw [rounds_succ]
    go_wp2_with fail
    go_ret2
    exact ⟨rfl, b1⟩
  | some L =>
    obtain ⟨hg, hgm, hL60⟩ := playG_some hp
    have HBD := Lib.hid (fun k hk => scoresG_bd hg hgm (k := k) hk)
    have HP := Lib.hid hp; clear hp
    have hsl := scoresG_len L
    have hv : turnsG (some L) = ((scoresG L).foldl ltS (0, 0)).1 := rfl
    rw [hv]; clear hv
    have hrows := fun w' e => (show ScoresR (some L) w e w' → ∃ v, e = .returned (.tuple #[v, .bool true]) ∧ w'.ownsRow w.heap.size 62 2 v (L.length + 1) (prs (scoresG L)) ∧ Below w.heap.size w w' from fun ⟨h1, _, h3⟩ => by obtain ⟨v, e1, e2⟩ := h1 L rfl; exact ⟨v, e1, e2, h3⟩)
    rw [HP.out] at HS
    have HRW := Lib.hid hrows; clear hrows hgm hg
    generalize scoresG L = sc at *
    have HSL := Lib.hid hsl
    generalize hn : L.length + 1 = n at *
    have HNL := Lib.hid hn; clear hn hsl
    have hn61 : (n : Int) ≤ 61 := by have := HNL.out; omega
    have hn1 : 0 < n := by have := HNL.out; omega
    go_enter Try.func50, Try.ntmps50
    go_wp2_with fail
    refine HS.out.mono ?_; rintro e w1 hsr
    obtain ⟨v, rfl, hrow, b1⟩ := HRW.out _ _ hsr
    clear hsr
    obtain ⟨g, cap, rfl, hlt, hc⟩ := prs_cells hrow HSL.out hn1
    have HC := Lib.hid (And.intro hlt (And.intro hc b1)); clear hc b1 hrow hlt
    go_wp2_with fail
    go_loopw [8, 9, 21] (fun q p i wr => ∃ (k : Nat) (m d : Int), i = .int .i64 k ∧ q = .int .i64 m ∧ p = .int .i64 d ∧ k ≤ n ∧ 0 ≤ m ∧ m ≤ k ∧ -1200 ≤ d ∧ d ≤ 1200 ∧ Hid ((sc.drop k).foldl ltS (m, sgn d) = sc.foldl ltS (0, 0)) ∧ Hid (Below w1.heap.size w1 wr)) (fun _ _ i _ => n - (intOf i).toNat)
    case atStart => exact ⟨0, 0, 0, rfl, rfl, rfl, Nat.zero_le _, by omega, by omega, by omega, by omega, Lib.hid rfl, Lib.hid (Below.refl _ _)⟩
    case round =>
      obtain ⟨k, m, d, rfl, rfl, rfl, hk, m0, m1, d0, d1, hF, hB⟩ := hrel
      by_cases hkn : k < n
      · have b1 : (k : Int) < (n : Int) := by omega
        obtain ⟨c0, c1⟩ := HC.out.2.1 k hkn
        rw [← hB.out.cell (p := ⟨g, k * 2, none⟩) HC.out.1] at c0
        rw [← hB.out.cell (p := ⟨g, k * 2 + 1, none⟩) HC.out.1] at c1
        obtain ⟨x1, x2, x3, x4⟩ := HBD.out k (by have := HNL.out; omega)
        have hfd := drop_pair (l := sc) (k := k) (by rw [HSL.out]; exact hkn)
        have hF2 := hF.out
        rw [hfd, List.foldl_cons] at hF2
        have HF2 := Lib.hid hF2; clear hF hfd hF2
        generalize sc.getD k (0, 0) = s at *
        obtain ⟨x, y⟩ := s
        simp only at x1 x2 x3 x4 c0 c1
        have hst : ltS (m, sgn d) (x, y) = (if sgn (x - y) ≠ 0 ∧ sgn d ≠ 0 ∧ sgn (x - y) ≠ sgn d then m + 1 else m, if sgn (x - y) ≠ 0 then sgn (x - y) else sgn d) := rfl
        rw [hst] at HF2
        clear hst
        have hz := hB.out.size
        have HLE := Lib.hid (fun W => leadOf_any x y 97 W x1 (by omega) x3 (by omega))
        have hla := lead_a (x, y)
        simp only at hla
        rw [hla] at HLE
        clear hla
        have hms := mul_sgn (x - y) d
        obtain ⟨p1, p2⟩ := mul_bd (x := x - y) (y := d) (by omega) (by omega) d0 d1
        have hsc := sgn_cases (x - y)
        have he1 : -1200 ≤ x - y := by omega
        have he2 : x - y ≤ 1200 := by omega
        generalize x - y = e at *
        have hB2 := hB.out.alloc hz (.cells #[.int .i64 x, .int .i64 y] 62)
        obtain ⟨r0, r1⟩ := two_new wr (.int .i64 x) (.int .i64 y) 62
        have HB2 := Lib.hid hB2; clear hB2
        by_cases q1 : e = 0
        · have e1 : (e != 0) = false := by simp [q1]
          have e0 : sgn e = 0 := by rw [q1]; rfl
          rw [e0] at HF2
          simp only [ne_eq, not_true_eq_false, false_and, if_false] at HF2
          have p3 : ¬ e * d < 0 := by rw [q1]; simp
          clear q1 e0
          clear hms hsc
          go_wp2_with fail
          refine (HLE.out _).mono ?_; rintro r w3 ⟨rfl, b3⟩
          have HB3 := Lib.hid (HB2.out.trans (b3.mono HB2.out.size)); clear b3
          go_wp2_with fail
          go_roundw
          case rel => exact ⟨k + 1, m, d, by go_num, rfl, rfl, by omega, by omega, by omega, by omega, by omega, HF2, Lib.hid HB3.out⟩
          case measure => simp [intOf]; omega
        · have e1 : (e != 0) = true := by rw [bne_iff_ne]; exact q1
          have e0 : sgn e ≠ 0 := by omega
          rw [if_pos (c := sgn e ≠ 0) e0] at HF2
          clear q1
          by_cases q2 : e * d < 0
          · rw [if_pos (hms.1 q2)] at HF2
            clear e0
            clear hms hsc
            go_wp2_with fail
            refine (HLE.out _).mono ?_; rintro r w3 ⟨rfl, b3⟩
            have HB3 := Lib.hid (HB2.out.trans (b3.mono HB2.out.size)); clear b3
            go_wp2_with fail
            go_roundw
            case rel => exact ⟨k + 1, m + 1, e, by go_num, rfl, rfl, by omega, by omega, by omega, by omega, by omega, HF2, Lib.hid HB3.out⟩
            case measure => simp [intOf]; omega
          · rw [if_neg (fun h => q2 (hms.2 h))] at HF2
            have q2' : ¬ e * d < 0 := q2
            clear e0 q2
            clear hms hsc
            go_wp2_with fail
            refine (HLE.out _).mono ?_; rintro r w3 ⟨rfl, b3⟩
            have HB3 := Lib.hid (HB2.out.trans (b3.mono HB2.out.size)); clear b3
            go_wp2_with fail
            go_roundw
            case rel => exact ⟨k + 1, m, e, by go_num, rfl, rfl, by omega, by omega, by omega, by omega, by omega, HF2, Lib.hid HB3.out⟩
            case measure => simp [intOf]; omega
      · obtain rfl : k = n := by omega
        have hend : m = (sc.foldl ltS (0, 0)).1 := by rw [← hF.out, List.drop_of_length_le (by rw [HSL.out]; exact Nat.le_refl _)]; rfl
        have HE := Lib.hid hend; clear hend
        go_wp2_with fail
        go_ret2
        exact ⟨by rw [← HE.out]; rfl, HC.out.2.2.trans (hB.out.mono HC.out.2.2.size)⟩
end Go.Proofs.Ythbhhcpkilckkaa
