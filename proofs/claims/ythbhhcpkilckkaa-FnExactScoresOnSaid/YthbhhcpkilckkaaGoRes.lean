/-
  Goals: scores one by one; ResultOf: the model's and the program's.
-/
import Derived.Test.YthbhhcpkilckkaaGoLead
namespace Go.Proofs.Ythbhhcpkilckkaa
open Go.RowKit
set_option linter.unusedVariables false
set_option linter.unusedSimpArgs false

theorem lead_a (s : Int × Int) : 2 * ofC s.1 s.2 97 - s.1 - s.2 = s.1 - s.2 := by simp [ofC]; omega
theorem lead_b (s : Int × Int) : 2 * ofC s.1 s.2 98 - s.1 - s.2 = s.2 - s.1 := by simp [ofC]; omega

def sgn (x : Int) : Int := if 0 < x then 1 else if x < 0 then -1 else 0
theorem l1Sign_any (x : Int) (w : World) : Calls Try.prog 79 #[.int .i64 x] w fun e w' => e = .returned (.int .i64 (sgn x)) ∧ w = w' := by
  by_cases h1 : 0 < x
  · have e : sgn x = 1 := by unfold sgn; rw [if_pos h1]
    rw [e]; clear e
    go_enter Try.func79, Try.ntmps79
    go_wp2
    go_ret
    exact ⟨rfl, rfl⟩
  · by_cases h2 : x < 0
    · have e : sgn x = -1 := by unfold sgn; rw [if_neg h1, if_pos h2]
      rw [e]; clear e
      go_enter Try.func79, Try.ntmps79
      go_wp2
      go_ret
      exact ⟨rfl, rfl⟩
    · have e : sgn x = 0 := by unfold sgn; rw [if_neg h1, if_neg h2]
      rw [e]; clear e
      go_enter Try.func79, Try.ntmps79
      go_wp2
      go_ret
      exact ⟨rfl, rfl⟩
def mostI (a b : Int) : Int := if b < a then a else b
theorem l1Most_any (a b : Int) (w : World) : Calls Try.prog 81 #[.int .i64 a, .int .i64 b] w fun e w' => e = .returned (.int .i64 (mostI a b)) ∧ w = w' := by
  by_cases h1 : b < a
  · have e : mostI a b = a := by unfold mostI; rw [if_pos h1]
    rw [e]; clear e
    go_enter Try.func81, Try.ntmps81
    go_wp2
    go_ret
    exact ⟨rfl, rfl⟩
  · have e : mostI a b = b := by unfold mostI; rw [if_neg h1]
    rw [e]; clear e
    go_enter Try.func81, Try.ntmps81
    go_wp2
    go_ret
    exact ⟨rfl, rfl⟩

/-- The k-th score. -/
theorem runG_get : ∀ (s : Int × Int) (l : List (Int × Int)) (k : Nat), k ≤ l.length → (runG s l).getD k (0, 0) = sumG s (l.take k)
  | s, [], k, h => by
    obtain rfl : k = 0 := by simpa using h
    rfl
  | s, x :: r, 0, h => rfl
  | s, x :: r, k + 1, h => by
    have := runG_get (s.1 + x.1, s.2 + x.2) r k (by simpa using h)
    rw [runG, List.getD_cons_succ, this, List.take_succ_cons, sumG]
theorem scoresG_len (L : List (Int × Int)) : (scoresG L).length = L.length + 1 := runG_len _ _
theorem scoresG_bd {ks : List Int} {g : List UInt8} {L : List (Int × Int)} (hg : goodK ks = true) (h : gameG ks g = some L) {k : Nat} (hk : k ≤ L.length) :
    0 ≤ ((scoresG L).getD k (0, 0)).1 ∧ ((scoresG L).getD k (0, 0)).1 ≤ 1200 ∧ 0 ≤ ((scoresG L).getD k (0, 0)).2 ∧ ((scoresG L).getD k (0, 0)).2 ≤ 1200 := by
  obtain ⟨h1, h2⟩ := gameG_some h
  have hb := goalsG_bd (good_mem hg) h2
  have hl := goalsG_len h2
  unfold scoresG
  rw [runG_get _ _ _ hk]
  have := sumG_bd (n := 0) (0, 0) (L.take k) (fun x hx => hb x (List.mem_of_mem_take hx)) (by simp) (by simp) (by simp) (by simp)
  rw [show (L.take k).length = k by rw [List.length_take]; omega] at this
  omega
theorem playG_some {ks : List Int} {g : List UInt8} {L : List (Int × Int)} (h : playG ks g = some L) : goodK ks = true ∧ gameG ks g = some L ∧ L.length ≤ 60 := by
  unfold playG at h
  split at h
  · rename_i hg
    obtain ⟨h1, h2⟩ := gameG_some h
    exact ⟨hg, h, by rw [goalsG_len h2]; exact h1⟩
  · cases h
/-- A row of pairs of its own, cell by cell. -/
theorem prs_cells {w : World} {base : Nat} {T : TypeId} {v : Value} {n : Nat} {l : List (Int × Int)} (h : w.ownsRow base T 2 v n (prs l)) (hn : l.length = n) (hp : 0 < n) :
    ∃ g cap, v = .slice (some ⟨g, 0, none⟩) n cap ∧ g < w.heap.size ∧ ∀ j, j < n → w.cell? ⟨g, j * 2, none⟩ = some (.int .i64 (l.getD j (0, 0)).1) ∧ w.cell? ⟨g, j * 2 + 1, none⟩ = some (.int .i64 (l.getD j (0, 0)).2) := by
  obtain ⟨hl, h | ⟨g, cap, cur, rfl, hg, hh, hn', hcap, hcs, htk⟩⟩ := h
  · have := h.2; omega
  · refine ⟨g, cap, rfl, (Array.getElem?_eq_some_iff.1 hh).1, fun j hj => ?_⟩
    obtain ⟨p0, p1⟩ := prs_get l j (by omega)
    have e0 : cur[j * 2]? = (cur.toList.take (n * 2))[j * 2]? := by rw [List.getElem?_take_of_lt (by omega)]; simp
    have e1 : cur[j * 2 + 1]? = (cur.toList.take (n * 2))[j * 2 + 1]? := by rw [List.getElem?_take_of_lt (by omega)]; simp
    exact ⟨by rw [cell_of_row w g _ cur T _ hh, e0, htk, p0], by rw [cell_of_row w g _ cur T _ hh, e1, htk, p1]⟩

def resG : Option (List (Int × Int)) → Int × Int
  | none => (0, 0)
  | some L => sumG (0, 0) L

set_option maxHeartbeats 1600000 in
theorem specRes_any (ks : List Int) (game : ByteArray) (a : Option Addr) (c : Nat) (w : World) (hl : (ks.length : Int) ≤ 1000000000000) (hs : (game.size : Int) ≤ 1048576) (h : Reads w a (ints ks)) :
    Calls Try.prog 42 #[.slice a ks.length c, .string game] w fun e w' => e = .returned (.tuple #[.int .i64 (resG (playG ks game.data.toList)).1, .int .i64 (resG (playG ks game.data.toList)).2, .bool (playG ks game.data.toList).isSome]) ∧ Below w.heap.size w w' := by
  have HB := Lib.hid (goBoth_any ks game a c w hl hs h)
  cases hp : playG ks game.data.toList with
  | none =>
    have HP := Lib.hid hp; clear hp h
    go_enter Try.func42, Try.ntmps42
    go_wp2_with fail
    refine HB.out.mono ?_; rintro e w1 ⟨rfl, b1⟩
    rw [HP.out]
    simp only [Option.isSome]
    go_wp2_with fail
    refine bodyPost_ret (v := .tuple #[.int .i64 0, .int .i64 0, .bool false]) (by simp [results, Try.results42, go_sem]) rfl ⟨rfl, b1⟩
  | some L =>
    obtain ⟨hg, hgm, hL60⟩ := playG_some hp
    have HS := Lib.hid (fun w' (hr : Reads w' a (ints ks)) => goScores_any ks hg game L hgm a c w' hr)
    have HP := Lib.hid hp; clear hp
    have HR := Lib.hid h; clear h
    have hlast := runG_get (0, 0) L L.length (Nat.le_refl _)
    rw [List.take_length] at hlast
    have HLA : Hid ((scoresG L).getD L.length (0, 0) = sumG (0, 0) L) := hlast
    clear hlast
    have hsl := scoresG_len L
    have HSL := Lib.hid hsl; clear hsl
    have hRS : resG (some L) = sumG (0, 0) L := rfl
    rw [hRS]; clear hRS
    generalize sumG (0, 0) L = s at *
    have hq : ((L.length + 1 : Nat) : Int) - 1 = (L.length : Int) := by omega
    have hq2 : (L.length : Int) + 1 - 1 = (L.length : Int) := by omega
    have b3 : (L.length : Int) < (L.length : Int) + 1 := by omega
    go_enter Try.func42, Try.ntmps42
    go_wp2_with fail
    refine HB.out.mono ?_; rintro e w1 ⟨rfl, b1⟩
    rw [HP.out]
    simp only [Option.isSome]
    have B1 := Lib.hid b1; clear b1
    go_wp2_with fail
    refine (HS.out _ (HR.out.old B1.out)).mono ?_; rintro e w2 ⟨v, rfl, hpd, b2⟩
    have B2 := Lib.hid (B1.out.trans (b2.mono B1.out.size)); clear b2
    obtain ⟨go, cap, gr, cr, rfl, c0, c1, c2⟩ := hpd.row (j := L.length) (by rw [HSL.out]; omega)
    rw [HLA.out] at c1 c2
    rw [HSL.out]
    clear hpd
    go_wp2_with fail
    go_quiet (fail)
    go_wp2_with fail
    refine bodyPost_ret (v := .tuple #[.int .i64 s.1, .int .i64 s.2, .bool true]) (by simp [results, Try.results42, go_sem]) rfl ⟨rfl, below_drewN B2.out _⟩

set_option maxHeartbeats 1600000 in
theorem implRes_any (ks : List Int) (game : ByteArray) (a : Option Addr) (c : Nat) (w : World) (hl : (ks.length : Int) ≤ 1000000000000) (hs : (game.size : Int) ≤ 1048576) (h : Reads w a (ints ks)) :
    Calls Try.prog 43 #[.slice a ks.length c, .string game] w fun e w' => e = .returned (.tuple #[.int .i64 (resG (playG ks game.data.toList)).1, .int .i64 (resG (playG ks game.data.toList)).2, .bool (playG ks game.data.toList).isSome]) ∧ Below w.heap.size w w' := by
  have HS := Lib.hid (scoresOf_any ks game a c w hl hs h); clear h
  cases hp : playG ks game.data.toList with
  | none =>
    have HP := Lib.hid hp; clear hp
    go_enter Try.func43, Try.ntmps43
    go_wp2_with fail
    refine HS.out.mono ?_; rintro e w1 ⟨-, hn, b1⟩
    obtain rfl := hn HP.out
    clear hn
    go_wp2_with fail
    refine bodyPost_ret (v := .tuple #[.int .i64 0, .int .i64 0, .bool false]) (by simp [results, Try.results43, go_sem]) rfl ⟨rfl, b1⟩
  | some L =>
    obtain ⟨hg, hgm, hL60⟩ := playG_some hp
    have HP := Lib.hid hp; clear hp
    have hlast := runG_get (0, 0) L L.length (Nat.le_refl _)
    rw [List.take_length] at hlast
    have HLA : Hid ((scoresG L).getD L.length (0, 0) = sumG (0, 0) L) := hlast
    clear hlast hgm hg
    have hRS : resG (some L) = sumG (0, 0) L := rfl
    rw [hRS]; clear hRS
    generalize sumG (0, 0) L = s at *
    have hq : ((L.length + 1 : Nat) : Int) - 1 = (L.length : Int) := by omega
    have hq2 : (L.length : Int) + 1 - 1 = (L.length : Int) := by omega
    have b3 : (L.length : Int) < (L.length : Int) + 1 := by omega
    go_enter Try.func43, Try.ntmps43
    go_wp2_with fail
    refine HS.out.mono ?_; rintro e w1 ⟨hn, -, b1⟩
    obtain ⟨v, rfl, hrow⟩ := hn L HP.out
    clear hn
    have B1 := Lib.hid b1; clear b1
    obtain ⟨g, cap, rfl, hlt, hc⟩ := prs_cells hrow (scoresG_len L) (by omega)
    obtain ⟨c0, c1⟩ := hc L.length (by omega)
    rw [HLA.out] at c0 c1
    clear hrow hc
    have hz1 := B1.out.size
    obtain ⟨r0, r1⟩ := two_new w1 (.int .i64 s.1) (.int .i64 s.2) 62
    have HB := Lib.hid (B1.out.alloc hz1 (.cells #[.int .i64 s.1, .int .i64 s.2] 62))
    go_wp2_with fail
    go_quiet (fail)
    go_wp2_with fail
    refine bodyPost_ret (v := .tuple #[.int .i64 s.1, .int .i64 s.2, .bool true]) (by simp [results, Try.results43, go_sem]) rfl ⟨rfl, below_drewN HB.out _⟩
end Go.Proofs.Ythbhhcpkilckkaa
