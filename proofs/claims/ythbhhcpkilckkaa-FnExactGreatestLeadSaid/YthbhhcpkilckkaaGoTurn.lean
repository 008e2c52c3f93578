/-
  Goals: LeadTurns: the model's and the program's.
-/
import Derived.Test.YthbhhcpkilckkaaGoRes
namespace Go.Proofs.Ythbhhcpkilckkaa
open Go.RowKit
set_option linter.unusedVariables false
set_option linter.unusedSimpArgs false

def ltS (st : Int × Int) (s : Int × Int) : Int × Int :=
  (if sgn (s.1 - s.2) ≠ 0 ∧ st.2 ≠ 0 ∧ sgn (s.1 - s.2) ≠ st.2 then st.1 + 1 else st.1, if sgn (s.1 - s.2) ≠ 0 then sgn (s.1 - s.2) else st.2)
def turnsG : Option (List (Int × Int)) → Int
  | none => 0
  | some L => ((scoresG L).foldl ltS (0, 0)).1
theorem sgn_cases (x : Int) : (sgn x = 1 ∧ 0 < x) ∨ (sgn x = -1 ∧ x < 0) ∨ (sgn x = 0 ∧ x = 0) := by
  unfold sgn
  by_cases h1 : 0 < x
  · rw [if_pos h1]; exact .inl ⟨rfl, h1⟩
  · rw [if_neg h1]
    by_cases h2 : x < 0
    · rw [if_pos h2]; exact .inr (.inl ⟨rfl, h2⟩)
    · rw [if_neg h2]; exact .inr (.inr ⟨rfl, by omega⟩)
theorem mul_sgn (x y : Int) : x * y < 0 ↔ sgn x ≠ 0 ∧ sgn y ≠ 0 ∧ sgn x ≠ sgn y := by
  rcases sgn_cases x with ⟨e1, h1⟩ | ⟨e1, h1⟩ | ⟨e1, h1⟩ <;> rcases sgn_cases y with ⟨e2, h2⟩ | ⟨e2, h2⟩ | ⟨e2, h2⟩ <;> rw [e1, e2]
  · have := Int.mul_pos h1 h2; simp; omega
  · have := Int.mul_neg_of_pos_of_neg h1 h2; simp; omega
  · subst h2; simp
  · have := Int.mul_neg_of_neg_of_pos h1 h2; simp; omega
  · have := Int.mul_pos_of_neg_of_neg h1 h2; simp; omega
  · subst h2; simp
  · subst h1; simp
  · subst h1; simp
  · subst h1; simp
theorem mul_bd {x y : Int} (h1 : -1200 ≤ x) (h2 : x ≤ 1200) (h3 : -1200 ≤ y) (h4 : y ≤ 1200) : -1440000 ≤ x * y ∧ x * y ≤ 1440000 := by
  have hx : x.natAbs ≤ 1200 := by omega
  have hy : y.natAbs ≤ 1200 := by omega
  have h := Nat.mul_le_mul hx hy
  rw [← Int.natAbs_mul] at h
  omega
theorem drop_pair {l : List (Int × Int)} {k : Nat} (hk : k < l.length) : l.drop k = l.getD k (0, 0) :: l.drop (k + 1) := by
  rw [List.drop_eq_getElem_cons hk]; simp [hk]

set_option maxHeartbeats 3200000 in
theorem specTurn_any (ks : List Int) (game : ByteArray) (a : Option Addr) (c : Nat) (w : World) (hl : (ks.length : Int) ≤ 1000000000000) (hs : (game.size : Int) ≤ 1048576) (h : Reads w a (ints ks)) :
    Calls Try.prog 49 #[.slice a ks.length c, .string game] w fun e w' => e = .returned (.tuple #[.int .i64 (turnsG (playG ks game.data.toList)), .bool (playG ks game.data.toList).isSome]) ∧ Below w.heap.size w w' := by
  have HB := Lib.hid (goBoth_any ks game a c w hl hs h)
  cases hp : playG ks game.data.toList with
  | none =>
    have HP := Lib.hid hp; clear hp h
    go_enter Try.func49, Try.ntmps49
    go_wp2_with fail
    refine HB.out.mono ?_; rintro e w1 ⟨rfl, b1⟩
    rw [HP.out]
    simp only [Option.isSome]
    go_wp2_with fail
    go_ret2
    exact ⟨rfl, b1⟩
  | some L =>
    obtain ⟨hg, hgm, hL60⟩ := playG_some hp
    have HS := Lib.hid (fun w' (hr : Reads w' a (ints ks)) => goScores_any ks hg game L hgm a c w' hr)
    have HBD := Lib.hid (fun k hk => scoresG_bd hg hgm (k := k) hk)
    have HP := Lib.hid hp; clear hp
    have HR := Lib.hid h; clear h
    have hsl := scoresG_len L
    have hv : turnsG (some L) = ((scoresG L).foldl ltS (0, 0)).1 := rfl
    rw [hv]; clear hv
    generalize scoresG L = sc at *
    have HSL := Lib.hid hsl
    generalize hn : L.length + 1 = n at *
    have HNL := Lib.hid hn; clear hn
    have hn61 : (n : Int) ≤ 61 := by have := HNL.out; omega
    go_enter Try.func49, Try.ntmps49
    go_wp2_with fail
    refine HB.out.mono ?_; rintro e w1 ⟨rfl, b1⟩
    rw [HP.out]
    simp only [Option.isSome]
    have B1 := Lib.hid b1; clear b1
    go_wp2_with fail
    refine (HS.out _ (HR.out.old B1.out)).mono ?_; rintro e w2 ⟨v, rfl, hpd, b2⟩
    have HPD := Lib.hid (And.intro hpd (B1.out.trans (b2.mono B1.out.size))); clear b2 hpd
    obtain ⟨go, cap, gr0, cr0, rfl, -⟩ := HPD.out.1.row (j := 0) (by rw [HSL.out]; have := HNL.out; omega)
    rw [hsl]
    clear hsl
    go_wp2_with fail
    go_loopw [6, 7, 19] (fun q p i wr => ∃ (k : Nat) (m d : Int), i = .int .i64 k ∧ q = .int .i64 m ∧ p = .int .i64 d ∧ k ≤ n ∧ 0 ≤ m ∧ m ≤ k ∧ -1 ≤ d ∧ d ≤ 1 ∧ Hid ((sc.drop k).foldl ltS (m, d) = sc.foldl ltS (0, 0)) ∧ Hid (Below w2.heap.size w2 wr)) (fun _ _ i _ => n - (intOf i).toNat)
    case atStart => exact ⟨0, 0, 0, rfl, rfl, rfl, Nat.zero_le _, by omega, by omega, by omega, by omega, Lib.hid rfl, Lib.hid (Below.refl _ _)⟩
    case round =>
      obtain ⟨k, m, d, rfl, rfl, rfl, hk, m0, m1, d0, d1, hF, hB⟩ := hrel
      by_cases hlt : k < n
      · have b1 : (k : Int) < (n : Int) := by omega
        obtain ⟨go', cap', g, cc, hv', c0, c1, c2⟩ := (HPD.out.1.keep hB.out).row (j := k) (by rw [HSL.out]; exact hlt)
        cases hv'
        obtain ⟨x1, x2, x3, x4⟩ := HBD.out k (by have := HNL.out; omega)
        have hfd := drop_pair (l := sc) (k := k) (by rw [HSL.out]; exact hlt)
        have hF2 := hF.out
        rw [hfd, List.foldl_cons] at hF2
        have HF2 := Lib.hid hF2; clear hF hfd hF2
        generalize sc.getD k (0, 0) = s at *
        obtain ⟨x, y⟩ := s
        simp only at x1 x2 x3 x4 c1 c2
        have hst : ltS (m, d) (x, y) = (if sgn (x - y) ≠ 0 ∧ d ≠ 0 ∧ sgn (x - y) ≠ d then m + 1 else m, if sgn (x - y) ≠ 0 then sgn (x - y) else d) := rfl
        rw [hst] at HF2
        have hwr : IntKind.i64.wrap (x - y) = x - y := IntWalk.i64_in _ (by omega)
        have hsg := sgn_cases (x - y)
        have HSG := Lib.hid (fun W => l1Sign_any (x - y) W)
        have hs1 : -1 ≤ sgn (x - y) ∧ sgn (x - y) ≤ 1 := by omega
        obtain ⟨s1, s2⟩ := hs1
        clear hst hsg
        generalize sgn (x - y) = t at *
        by_cases q1 : t = 0
        · have e1 : (t != 0) = false := by simp [q1]
          rw [if_neg (fun h => h.1 q1), if_neg (fun h => h q1)] at HF2
          clear q1
          go_wp2_with fail
          go_quiet ((go_at_call 79; exact calmCall (fun W => HSG.out W)))
          go_wp2_with fail
          go_roundw
          case rel => exact ⟨k + 1, m, d, by go_num, rfl, rfl, by omega, m0, by omega, d0, d1, HF2, Lib.hid (below_drewN hB.out _)⟩
          case measure => simp [intOf]; omega
        · have e1 : (t != 0) = true := by rw [bne_iff_ne]; exact q1
          rw [if_pos (c := t ≠ 0) q1] at HF2
          by_cases q2 : d = 0
          · have e2 : (d != 0) = false := by simp [q2]
            rw [if_neg (fun h => h.2.1 q2)] at HF2
            clear q1 q2
            go_wp2_with fail
            go_quiet ((go_at_call 79; exact calmCall (fun W => HSG.out W)))
            go_wp2_with fail
            go_roundw
            case rel => exact ⟨k + 1, m, t, by go_num, rfl, rfl, by omega, m0, by omega, s1, s2, HF2, Lib.hid (below_drewN hB.out _)⟩
            case measure => simp [intOf]; omega
          · have e2 : (d != 0) = true := by rw [bne_iff_ne]; exact q2
            by_cases q3 : t = d
            · have e3 : (t != d) = false := by simp [q3]
              rw [if_neg (fun h => h.2.2 q3)] at HF2
              clear q1 q2 q3
              go_wp2_with fail
              go_quiet ((go_at_call 79; exact calmCall (fun W => HSG.out W)))
              go_wp2_with fail
              go_roundw
              case rel => exact ⟨k + 1, m, t, by go_num, rfl, rfl, by omega, m0, by omega, s1, s2, HF2, Lib.hid (below_drewN hB.out _)⟩
              case measure => simp [intOf]; omega
            · have e3 : (t != d) = true := by rw [bne_iff_ne]; exact q3
              rw [if_pos ⟨q1, q2, q3⟩] at HF2
              clear q1 q2 q3
              go_wp2_with fail
              go_quiet ((go_at_call 79; exact calmCall (fun W => HSG.out W)))
              go_wp2_with fail
              go_roundw
              case rel => exact ⟨k + 1, m + 1, t, by go_num, rfl, rfl, by omega, by omega, by omega, s1, s2, HF2, Lib.hid (below_drewN hB.out _)⟩
              case measure => simp [intOf]; omega
      · obtain rfl : k = n := by omega
        have hend : m = (sc.foldl ltS (0, 0)).1 := by rw [← hF.out, List.drop_of_length_le (by rw [HSL.out]; exact Nat.le_refl _)]; rfl
        have HE := Lib.hid hend; clear hend
        go_wp2_with fail
        go_ret2
        exact ⟨by rw [← HE.out]; rfl, HPD.out.2.trans (hB.out.mono HPD.out.2.size)⟩
end Go.Proofs.Ythbhhcpkilckkaa
