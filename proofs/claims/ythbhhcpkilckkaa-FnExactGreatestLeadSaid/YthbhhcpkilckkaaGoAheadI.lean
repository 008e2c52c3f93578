/-
  Goals: GoalsAhead: the program's.
-/
import Derived.Test.YthbhhcpkilckkaaGoAhead
namespace Go.Proofs.Ythbhhcpkilckkaa
open Go.RowKit
set_option linter.unusedVariables false
set_option linter.unusedSimpArgs false

/-- A row of scores that is read. -/
def ScRow (w : World) (v : Value) (n : Nat) (sc : List (Int × Int)) : Prop :=
  sc.length = n ∧ ∃ g cap, v = .slice (some ⟨g, 0, none⟩) n cap ∧ g < w.heap.size ∧ ∀ j, j < n → w.cell? ⟨g, j * 2, none⟩ = some (.int .i64 (sc.getD j (0, 0)).1) ∧ w.cell? ⟨g, j * 2 + 1, none⟩ = some (.int .i64 (sc.getD j (0, 0)).2)
theorem ScRow.keep {w w' : World} {v : Value} {n : Nat} {sc : List (Int × Int)} (h : ScRow w v n sc) (hb : Below w.heap.size w w') : ScRow w' v n sc := by
  obtain ⟨h1, g, cap, rfl, hg, hc⟩ := h
  have := hb.size
  exact ⟨h1, g, cap, rfl, by omega, fun j hj => by rw [hb.cell (p := ⟨g, j * 2, none⟩) hg, hb.cell (p := ⟨g, j * 2 + 1, none⟩) hg]; exact hc j hj⟩

set_option maxHeartbeats 3200000 in
theorem sumSides_any (sc : List (Int × Int)) (n : Nat) (hn : n ≤ 61) (hbd : ∀ k, k < n → 0 ≤ (sc.getD k (0, 0)).1 ∧ (sc.getD k (0, 0)).1 ≤ 1200 ∧ 0 ≤ (sc.getD k (0, 0)).2 ∧ (sc.getD k (0, 0)).2 ≤ 1200) (v : Value) (ch : UInt8) (gs : Nat) (w : World) (hr : ScRow w v n sc) (hg : gs < w.heap.size) (hs : w.cell? ⟨gs, 0, none⟩ = some (.string ⟨#[ch]⟩)) :
    Calls Try.prog 93 #[v, .func (.func 94) #[] #[.pointer (some ⟨gs, 0, none⟩)]] w fun e w' => e = .returned (.int .i64 (sc.foldl (cntS (pC ch)) 0)) ∧ Below w.heap.size w w' := by
  have HSC := Lib.hid (And.intro hr (And.intro hg hs))
  obtain ⟨hsl, g, cap, rfl, hlt, hc⟩ := hr
  have HC := Lib.hid (And.intro hlt (And.intro hc (And.intro hsl hbd))); clear hc hlt hs hg hbd hsl
  have hn61 : (n : Int) ≤ 61 := by omega
  go_enter Try.func93, Try.ntmps93
  go_wp2_with fail
  go_loopw [5, 10] (fun q i wr => ∃ (k : Nat) (m : Int), i = .int .i64 k ∧ q = .int .i64 m ∧ k ≤ n ∧ 0 ≤ m ∧ m ≤ k ∧ Hid ((sc.drop k).foldl (cntS (pC ch)) m = sc.foldl (cntS (pC ch)) 0) ∧ Hid (Below w.heap.size w wr)) (fun _ i _ => n - (intOf i).toNat)
  case atStart => exact ⟨0, 0, rfl, rfl, Nat.zero_le _, by omega, by omega, Lib.hid rfl, Lib.hid (Below.refl _ _)⟩
  case round =>
    obtain ⟨k, m, rfl, rfl, hk, m0, m1, hF, hB⟩ := hrel
    by_cases hkn : k < n
    · have b1 : (k : Int) < (n : Int) := by omega
      obtain ⟨c0, c1⟩ := HC.out.2.1 k hkn
      rw [← hB.out.cell (p := ⟨g, k * 2, none⟩) HC.out.1] at c0
      rw [← hB.out.cell (p := ⟨g, k * 2 + 1, none⟩) HC.out.1] at c1
      obtain ⟨x1, x2, x3, x4⟩ := HC.out.2.2.2 k hkn
      have hfd := drop_pair (l := sc) (k := k) (by rw [HC.out.2.2.1]; exact hkn)
      have hF2 := hF.out
      rw [hfd, List.foldl_cons] at hF2
      have HF2 := Lib.hid hF2; clear hF hfd hF2
      generalize sc.getD k (0, 0) = s at *
      obtain ⟨x, y⟩ := s
      simp only at x1 x2 x3 x4 c0 c1
      have hz := hB.out.size
      have hB2 := hB.out.alloc hz (.cells #[.int .i64 x, .int .i64 y] 62)
      obtain ⟨r0, r1⟩ := two_new wr (.int .i64 x) (.int .i64 y) 62
      have hz2 := hB2.size
      have hcall := ahead1_any x y ch gs (wr.alloc (.cells #[.int .i64 x, .int .i64 y] 62)) x1 x2 x3 x4 (by have := HSC.out.2.1; omega) (by rw [hB2.cell (p := ⟨gs, 0, none⟩) HSC.out.2.1]; exact HSC.out.2.2)
      have HCA := Lib.hid hcall
      have HB2 := Lib.hid hB2; clear hB2 hcall hz2
      have hm : cntS (pC ch) m (x, y) = m + (if pC ch (x, y) = true then 1 else 0) := by unfold cntS; split <;> simp_all
      have hd : 0 ≤ (if pC ch (x, y) = true then (1 : Int) else 0) ∧ (if pC ch (x, y) = true then (1 : Int) else 0) ≤ 1 := by split <;> omega
      rw [hm] at HF2
      clear hm
      generalize (if pC ch (x, y) = true then (1 : Int) else 0) = d at *
      go_wp2_with fail
      refine HCA.out.mono ?_; rintro r w3 ⟨rfl, b3⟩
      have HB3 := Lib.hid (HB2.out.trans (b3.mono HB2.out.size)); clear b3
      go_wp2_with fail
      go_roundw
      case rel => exact ⟨k + 1, m + d, by go_num, rfl, by omega, by omega, by omega, HF2, HB3⟩
      case measure => simp [intOf]; omega
    · obtain rfl : k = n := by omega
      have hend : m = sc.foldl (cntS (pC ch)) 0 := by rw [← hF.out, List.drop_of_length_le (by rw [HC.out.2.2.1]; exact Nat.le_refl _)]; rfl
      have HE := Lib.hid hend; clear hend
      go_wp2_with fail
      go_ret
      exact ⟨ret_int HE.out, hB.out⟩
theorem sumSides_nil (ch : UInt8) (gs : Nat) (w : World) :
    Calls Try.prog 93 #[.slice none 0 0, .func (.func 94) #[] #[.pointer (some ⟨gs, 0, none⟩)]] w fun e w' => e = .returned (.int .i64 0) ∧ Below w.heap.size w w' := by
  go_enter Try.func93, Try.ntmps93
  go_wp2_with fail
  refine wp_loop_rounds 1 ?_
  rw [rounds_succ]
  go_wp2_with fail
  go_ret
  exact ⟨rfl, Below.refl _ _⟩

set_option maxHeartbeats 800000 in
theorem scoresAhead_any (sc : List (Int × Int)) (n : Nat) (hn : n ≤ 61) (hbd : ∀ k, k < n → 0 ≤ (sc.getD k (0, 0)).1 ∧ (sc.getD k (0, 0)).1 ≤ 1200 ∧ 0 ≤ (sc.getD k (0, 0)).2 ∧ (sc.getD k (0, 0)).2 ≤ 1200) (v : Value) (ch : UInt8) (w : World) (hr : ScRow w v n sc) :
    Calls Try.prog 82 #[v, .string ⟨#[ch]⟩] w fun e w' => e = .returned (.int .i64 (sc.foldl (cntS (pC ch)) 0)) ∧ Below w.heap.size w w' := by
  have hb := below_new w (.cells #[.string ⟨#[ch]⟩] 9)
  have hcell : (w.alloc (.cells #[.string ⟨#[ch]⟩] 9)).cell? ⟨w.heap.size, 0, none⟩ = some (.string ⟨#[ch]⟩) := cell_of_row _ _ 0 _ _ _ (heap_alloc_last w _)
  have HS := Lib.hid (sumSides_any sc n hn hbd v ch w.heap.size (w.alloc (.cells #[.string ⟨#[ch]⟩] 9)) (hr.keep hb) (by simp) hcell)
  have HB := Lib.hid hb; clear hb hcell hr hbd
  go_enter Try.func82, Try.ntmps82
  go_wp2_with fail
  refine HS.out.mono ?_; rintro r w3 ⟨rfl, b3⟩
  have HB3 := Lib.hid (HB.out.trans (b3.mono HB.out.size)); clear b3
  go_wp2_with fail
  go_ret
  exact ⟨rfl, HB3.out⟩
theorem scoresAhead_nil (ch : UInt8) (w : World) :
    Calls Try.prog 82 #[.slice none 0 0, .string ⟨#[ch]⟩] w fun e w' => e = .returned (.int .i64 0) ∧ Below w.heap.size w w' := by
  have hb := below_new w (.cells #[.string ⟨#[ch]⟩] 9)
  have HS := Lib.hid (sumSides_nil ch w.heap.size (w.alloc (.cells #[.string ⟨#[ch]⟩] 9)))
  have HB := Lib.hid hb; clear hb
  go_enter Try.func82, Try.ntmps82
  go_wp2_with fail
  refine HS.out.mono ?_; rintro r w3 ⟨rfl, b3⟩
  have HB3 := Lib.hid (HB.out.trans (b3.mono HB.out.size)); clear b3
  go_wp2_with fail
  go_ret
  exact ⟨rfl, HB3.out⟩

set_option maxHeartbeats 1600000 in
theorem implAhead_any (ks : List Int) (game : ByteArray) (a : Option Addr) (c : Nat) (w : World) (hl : (ks.length : Int) ≤ 1000000000000) (hs : (game.size : Int) ≤ 1048576) (h : Reads w a (ints ks)) :
    Calls Try.prog 54 #[.slice a ks.length c, .string game] w fun e w' => e = .returned (.tuple #[.int .i64 (aheadG pA (playG ks game.data.toList)), .int .i64 (aheadG pB (playG ks game.data.toList)), .bool (playG ks game.data.toList).isSome]) ∧ Below w.heap.size w w' := by
  have HS := Lib.hid (scoresOf_any ks game a c w hl hs h); clear h
  cases hp : playG ks game.data.toList with
  | none =>
    have HP := Lib.hid hp; clear hp
    go_enter Try.func54, Try.ntmps54
    go_wp2_with fail
    refine HS.out.mono ?_; rintro e w1 ⟨-, hn, b1⟩
    obtain rfl := hn HP.out
    have B1 := Lib.hid b1; clear hn b1
    go_wp2_with fail
    refine (scoresAhead_nil 97 _).mono ?_; rintro e w2 ⟨rfl, b2⟩
    have B2 := Lib.hid (B1.out.trans (b2.mono B1.out.size)); clear b2
    go_wp2_with fail
    refine (scoresAhead_nil 98 _).mono ?_; rintro e w3 ⟨rfl, b3⟩
    have B3 := Lib.hid (B2.out.trans (b3.mono B2.out.size)); clear b3
    go_wp2_with fail
    refine bodyPost_ret (v := .tuple #[.int .i64 0, .int .i64 0, .bool false]) (by simp [results, Try.results54, go_sem]) rfl ⟨rfl, B3.out⟩
  | some L =>
    obtain ⟨hg, hgm, hL60⟩ := playG_some hp
    have hbd := fun k (hk : k < L.length + 1) => scoresG_bd hg hgm (k := k) (by omega)
    have HP := Lib.hid hp; clear hp
    have hv : aheadG pA (some L) = (scoresG L).foldl (cntS (pC 97)) 0 := by
      show (scoresG L).foldl (cntS pA) 0 = _
      rw [show pC 97 = pA from funext pC_a]
    have hv2 : aheadG pB (some L) = (scoresG L).foldl (cntS (pC 98)) 0 := by
      show (scoresG L).foldl (cntS pB) 0 = _
      rw [show pC 98 = pB from funext pC_b]
    rw [hv, hv2]; clear hv hv2
    have hca := fun v ch w' (hr : ScRow w' v (L.length + 1) (scoresG L)) => scoresAhead_any (scoresG L) (L.length + 1) (by omega) hbd v ch w' hr
    have HCA := Lib.hid hca; clear hca hbd hgm hg
    go_enter Try.func54, Try.ntmps54
    go_wp2_with fail
    refine HS.out.mono ?_; rintro e w1 ⟨hn, -, b1⟩
    obtain ⟨v, rfl, hrow⟩ := hn L HP.out
    clear hn
    have R1 : Hid (ScRow w1 v (L.length + 1) (scoresG L)) := ⟨scoresG_len L, prs_cells hrow (scoresG_len L) (by omega)⟩
    have B1 := Lib.hid b1; clear b1 hrow
    go_wp2_with fail
    refine (HCA.out v 97 _ R1.out).mono ?_; rintro e w2 ⟨rfl, b2⟩
    have R2 := Lib.hid (R1.out.keep b2)
    have B2 := Lib.hid (B1.out.trans (b2.mono B1.out.size)); clear b2
    go_wp2_with fail
    refine (HCA.out v 98 _ R2.out).mono ?_; rintro e w3 ⟨rfl, b3⟩
    have B3 := Lib.hid (B2.out.trans (b3.mono B2.out.size)); clear b3
    go_wp2_with fail
    refine bodyPost_ret (v := .tuple #[.int .i64 ((scoresG L).foldl (cntS (pC 97)) 0), .int .i64 ((scoresG L).foldl (cntS (pC 98)) 0), .bool true]) (by simp [results, Try.results54, go_sem]) rfl ⟨rfl, B3.out⟩
end Go.Proofs.Ythbhhcpkilckkaa
