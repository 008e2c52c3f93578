/-
  Goals: GreatestLead: the model's.
-/
import Derived.Test.YthbhhcpkilckkaaGoTurn
namespace Go.Proofs.Ythbhhcpkilckkaa
open Go.RowKit
set_option linter.unusedVariables false
set_option linter.unusedSimpArgs false

def mlA (m : Int) (s : Int × Int) : Int := mostI m (s.1 - s.2)
def mlB (m : Int) (s : Int × Int) : Int := mostI m (s.2 - s.1)
def leadG (f : Int → Int × Int → Int) : Option (List (Int × Int)) → Int
  | none => 0
  | some L => (scoresG L).foldl f 0
theorem calmCall2 {P : Program} {f : FuncId} {args : Array Value} {w : World} {n q : Nat} {v : Value} (c : ∀ W : World, Calls P f args W fun e w' => e = .returned v ∧ W = w') :
    Calls P f args (w.drewN (n + q)) fun e w' => e = .returned v ∧ ∃ m, w' = w.drewN (n + m) := (c _).mono fun _ _ h => ⟨h.1, q, h.2.symm⟩
theorem mostI_bd {m e : Int} (h1 : 0 ≤ m) (h2 : m ≤ 1200) (h3 : -1200 ≤ e) (h4 : e ≤ 1200) : 0 ≤ mostI m e ∧ mostI m e ≤ 1200 := by unfold mostI; split <;> omega

set_option maxHeartbeats 3200000 in
theorem specGl_any (ks : List Int) (game : ByteArray) (a : Option Addr) (c : Nat) (w : World) (hl : (ks.length : Int) ≤ 1000000000000) (hs : (game.size : Int) ≤ 1048576) (h : Reads w a (ints ks)) :
    Calls Try.prog 51 #[.slice a ks.length c, .string game] w fun e w' => e = .returned (.tuple #[.int .i64 (leadG mlA (playG ks game.data.toList)), .int .i64 (leadG mlB (playG ks game.data.toList)), .bool (playG ks game.data.toList).isSome]) ∧ Below w.heap.size w w' := by
  have HB := Lib.hid (goBoth_any ks game a c w hl hs h)
  cases hp : playG ks game.data.toList with
  | none =>
    have HP := Lib.hid hp; clear hp h
    go_enter Try.func51, Try.ntmps51
    go_wp2_with fail
    refine HB.out.mono ?_; rintro e w1 ⟨rfl, b1⟩
    rw [HP.out]
    simp only [Option.isSome]
    go_wp2_with fail
    refine bodyPost_ret (v := .tuple #[.int .i64 0, .int .i64 0, .bool false]) (by simp [results, Try.results51, go_sem]) rfl ⟨rfl, b1⟩
  | some L =>
    obtain ⟨hg, hgm, hL60⟩ := playG_some hp
    have HS := Lib.hid (fun w' (hr : Reads w' a (ints ks)) => goScores_any ks hg game L hgm a c w' hr)
    have HBD := Lib.hid (fun k hk => scoresG_bd hg hgm (k := k) hk)
    have HP := Lib.hid hp; clear hp
    have HR := Lib.hid h; clear h
    have hsl := scoresG_len L
    have hv : leadG mlA (some L) = (scoresG L).foldl mlA 0 := rfl
    have hv2 : leadG mlB (some L) = (scoresG L).foldl mlB 0 := rfl
    rw [hv, hv2]; clear hv hv2
    generalize scoresG L = sc at *
    have HSL := Lib.hid hsl
    generalize hn : L.length + 1 = n at *
    have HNL := Lib.hid hn; clear hn
    have hn61 : (n : Int) ≤ 61 := by have := HNL.out; omega
    go_enter Try.func51, Try.ntmps51
    go_wp2_with fail
    refine HB.out.mono ?_; rintro e w1 ⟨rfl, b1⟩
    rw [HP.out]
    simp only [Option.isSome]
    have B1 := Lib.hid b1; clear b1
    go_wp2_with fail
    refine (HS.out _ (HR.out.old B1.out)).mono ?_; rintro e w2 ⟨v, rfl, hpd, b2⟩
    have HPD := Lib.hid (And.intro hpd (B1.out.trans (b2.mono B1.out.size))); clear b2 hpd
    obtain ⟨go, cap, gr0, cr0, rfl, -⟩ := HPD.out.1.row (j := 0) (by rw [HSL.out]; have := HNL.out; omega)
    rw [hsl]
    clear hsl
    go_wp2_with fail
    go_loopw [7, 8, 19] (fun q p i wr => ∃ (k : Nat) (m d : Int), i = .int .i64 k ∧ q = .int .i64 m ∧ p = .int .i64 d ∧ k ≤ n ∧ 0 ≤ m ∧ m ≤ 1200 ∧ 0 ≤ d ∧ d ≤ 1200 ∧ Hid ((sc.drop k).foldl mlA m = sc.foldl mlA 0) ∧ Hid ((sc.drop k).foldl mlB d = sc.foldl mlB 0) ∧ Hid (Below w2.heap.size w2 wr)) (fun _ _ i _ => n - (intOf i).toNat)
    case atStart => exact ⟨0, 0, 0, rfl, rfl, rfl, Nat.zero_le _, by omega, by omega, by omega, by omega, Lib.hid rfl, Lib.hid rfl, Lib.hid (Below.refl _ _)⟩
    case round =>
      obtain ⟨k, m, d, rfl, rfl, rfl, hk, m0, m1, d0, d1, hF, hG, hB⟩ := hrel
      by_cases hlt : k < n
      · have b1 : (k : Int) < (n : Int) := by omega
        obtain ⟨go', cap', g, cc, hv', c0, c1, c2⟩ := (HPD.out.1.keep hB.out).row (j := k) (by rw [HSL.out]; exact hlt)
        cases hv'
        obtain ⟨x1, x2, x3, x4⟩ := HBD.out k (by have := HNL.out; omega)
        have hfd := drop_pair (l := sc) (k := k) (by rw [HSL.out]; exact hlt)
        have hF2 := hF.out
        have hG2 := hG.out
        rw [hfd, List.foldl_cons] at hF2 hG2
        generalize sc.getD k (0, 0) = s at *
        obtain ⟨x, y⟩ := s
        simp only at x1 x2 x3 x4 c1 c2
        have HF2 : Hid (List.foldl mlA (mostI m (x - y)) (sc.drop (k + 1)) = sc.foldl mlA 0) := hF2
        have HG2 : Hid (List.foldl mlB (mostI d (y - x)) (sc.drop (k + 1)) = sc.foldl mlB 0) := hG2
        clear hF hG hfd hF2 hG2
        have hwr : IntKind.i64.wrap (x - y) = x - y := IntWalk.i64_in _ (by omega)
        have hwr2 : IntKind.i64.wrap (y - x) = y - x := IntWalk.i64_in _ (by omega)
        have HSG := Lib.hid (fun W => l1Most_any m (x - y) W)
        have HSG2 := Lib.hid (fun W => l1Most_any d (y - x) W)
        obtain ⟨o1, o2⟩ := mostI_bd m0 m1 (e := x - y) (by omega) (by omega)
        obtain ⟨o3, o4⟩ := mostI_bd d0 d1 (e := y - x) (by omega) (by omega)
        generalize mostI m (x - y) = m' at *
        generalize mostI d (y - x) = d' at *
        go_wp2_with fail
        go_quiet ((go_at_call 81; exact calmCall (fun W => HSG.out W)))
        go_wp2_with fail
        go_quiet ((go_at_call 81; exact calmCall2 (fun W => HSG2.out W)))
        go_wp2_with fail
        go_roundw
        case rel => exact ⟨k + 1, m', d', by go_num, rfl, rfl, by omega, by omega, by omega, by omega, by omega, HF2, HG2, Lib.hid (below_drewN hB.out _)⟩
        case measure => simp [intOf]; omega
      · obtain rfl : k = n := by omega
        have hend : m = sc.foldl mlA 0 := by rw [← hF.out, List.drop_of_length_le (by rw [HSL.out]; exact Nat.le_refl _)]; rfl
        have hend2 : d = sc.foldl mlB 0 := by rw [← hG.out, List.drop_of_length_le (by rw [HSL.out]; exact Nat.le_refl _)]; rfl
        have HE := Lib.hid (And.intro hend hend2); clear hend hend2
        go_wp2_with fail
        refine bodyPost_ret (v := .tuple #[.int .i64 m, .int .i64 d, .bool true]) (by simp [results, Try.results51, go_sem]) rfl ⟨by rw [← HE.out.1, ← HE.out.2]; rfl, HPD.out.2.trans (hB.out.mono HPD.out.2.size)⟩
end Go.Proofs.Ythbhhcpkilckkaa
