/-
  Pins: BestRoll.
-/
import Derived.Test.YteippgbaaipiiaaPnLawS
namespace Go.Proofs.Yteippgbaaipiiaa
open Go.RowKit
set_option linter.unusedVariables false
set_option linter.unusedSimpArgs false

def mvF (f : Int) (rolls : List Int) (p : Nat) : Int := endV pickAll (goodR f (rolls ++ [(p : Int)])) f.toNat
def bestN (f : Int) (rolls : List Int) (t : Int) : Option Nat :=
  if standO (goodR f rolls) f.toNat && inR t 0 300 then (List.range ((standV (goodR f rolls) f.toNat).toNat + 1)).find? (fun p => decide (t ≤ mvF f rolls p)) else none
def optV : Option Nat → Int
  | none => 0
  | some p => (p : Int)
theorem find_hit {m : Nat → Int} {t : Int} {n k : Nat} (hk : k < n) (h : t ≤ m k) (hq : ∀ q, q < k → m q < t) : (List.range n).find? (fun p => decide (t ≤ m p)) = some k := by
  rw [List.find?_range_eq_some]
  exact ⟨by simpa using h, List.mem_range.2 hk, fun j hj => by simpa using hq j hj⟩
theorem find_miss {m : Nat → Int} {t : Int} {n : Nat} (hq : ∀ q, q < n → m q < t) : (List.range n).find? (fun p => decide (t ≤ m p)) = none :=
  List.find?_eq_none.2 (fun x hx => by simpa using hq x (List.mem_range.1 hx))
theorem stand_nat (f : Int) (rolls : List Int) : ∃ n : Nat, n ≤ 10 ∧ standV (goodR f rolls) f.toNat = (n : Int) := by
  cases hq : goodR f rolls with
  | none => exact ⟨0, by omega, rfl⟩
  | some s =>
    have := leftP_bd s.2
    cases ho : overG f.toNat s
    · exact ⟨(leftP s.2).toNat, by omega, by simp [standV, ho]; omega⟩
    · exact ⟨0, by omega, by simp [standV, ho]⟩
theorem isTotal_any (t : Int) (w : World) :
    Calls Try.prog 84 #[.int .i64 t] w fun e w' => e = .returned (.bool (inR t 0 300)) ∧ w = w' := by
  by_cases h1 : 0 ≤ t <;> by_cases h2 : t ≤ 300
  all_goals
    go_enter Try.func84, Try.ntmps84
    go_wp2
    go_ret
    exact ⟨ret_bool (by simp [inR, *]), rfl⟩
theorem own_some {w : World} {a : Option Addr} {l : List Int} {p : Int} (h : Reads w a (ints (l ++ [p]))) : a = none → l ++ [p] = [] := by
  intro e
  subst e
  rcases h with h | ⟨_, _, e, _⟩
  · have := congrArg List.length h; simp [ints] at this
  · cases e

set_option maxHeartbeats 3200000 in
theorem implBestRoll_any (f : Int) (rolls : List Int) (t : Int) (a : Option Addr) (c : Nat) (hc : rolls.length ≤ c) (hn : a = none → rolls = []) (ha : ∀ x, a = some x → x.spot = none) (w : World) (hl : (rolls.length : Int) ≤ 1048576) (h : Reads w a (ints rolls)) :
    Calls Try.prog 57 #[.int .i64 f, .slice a rolls.length c, .int .i64 t] w fun e w' => e = .returned (.tuple #[.int .i64 (optV (bestN f rolls t)), .bool (bestN f rolls t).isSome]) ∧ Below w.heap.size w w' := by
  have hs := implStandingPins_any f rolls a c w (by omega) h
  obtain ⟨n, hn10, hst⟩ := stand_nat f rolls
  rw [hst] at hs
  cases hso : standO (goodR f rolls) f.toNat
  · have hb : bestN f rolls t = none := by simp [bestN, hso]
    rw [hb]
    rw [hso] at hs
    have HS := Lib.hid hs; clear hs hso hst hb h hn ha
    go_enter Try.func57, Try.ntmps57
    go_wp2_with fail
    refine HS.out.mono ?_; rintro e w1 ⟨rfl, b1⟩
    go_wp2_with fail
    refine bodyPost_ret (v := .tuple #[.int .i64 0, .bool false]) (by simp [results, Try.results57, go_sem]) rfl ⟨rfl, b1⟩
  · rw [hso] at hs
    cases hin : inR t 0 300
    · have hb : bestN f rolls t = none := by simp [bestN, hin]
      rw [hb]
      have HIN := Lib.hid hin; clear hin
      have HS := Lib.hid hs; clear hs hso hst hb h hn ha
      go_enter Try.func57, Try.ntmps57
      go_wp2_with fail
      refine HS.out.mono ?_; rintro e w1 ⟨rfl, b1⟩
      have B1 := Lib.hid b1; clear b1
      go_wp2_with fail
      refine (isTotal_any _ _).mono ?_; rintro e w2 ⟨rfl, rfl⟩
      rw [HIN.out]
      go_wp2_with fail
      refine bodyPost_ret (v := .tuple #[.int .i64 0, .bool false]) (by simp [results, Try.results57, go_sem]) rfl ⟨rfl, B1.out⟩
    · have hb : bestN f rolls t = (List.range (n + 1)).find? (fun p => decide (t ≤ mvF f rolls p)) := by
        unfold bestN; rw [hso, hin, hst]; simp
      have hm := fun (k : Nat) a2 c2 (w' : World) (hc2 : (rolls ++ [(k : Int)]).length ≤ c2) (ha2 : ∀ x, a2 = some x → x.spot = none) (hr : Reads w' a2 (ints (rolls ++ [(k : Int)]))) => (implMostTotal_any f (rolls ++ [(k : Int)]) a2 c2 hc2 (own_some hr) ha2 w' (by simp; omega) hr).mono (fun e w'' hh => (show e = .returned (.tuple #[.int .i64 (mvF f rolls k), .bool (goodR f (rolls ++ [(k : Int)])).isSome]) ∧ Below w'.heap.size w' w'' from hh))
      have hm : ∀ (k : Nat) a2 c2 (w' : World), rolls.length + 1 ≤ c2 → (∀ x, a2 = some x → x.spot = none) → Reads w' a2 (ints (rolls ++ [(k : Int)])) → Calls Try.prog 39 #[.int .i64 f, .slice a2 (rolls.length + 1) c2] w' fun e w'' => e = .returned (.tuple #[.int .i64 (mvF f rolls k), .bool (goodR f (rolls ++ [(k : Int)])).isSome]) ∧ Below w'.heap.size w' w'' := by
        intro k a2 c2 w' hc2 ha2 hr
        have := hm k a2 c2 w' (by simpa using hc2) ha2 hr
        rw [show (rolls ++ [(k : Int)]).length = rolls.length + 1 from by simp] at this
        exact this
      have hwb := fun (k : Nat) (w' : World) (hr : Reads w' a (ints rolls)) => withBall_any rolls (k : Int) a c (by omega) hc hn ha w' hr
      have HB := Lib.hid hb; clear hb
      have HM := Lib.hid hm; clear hm
      have HW := Lib.hid hwb; clear hwb
      have HR := Lib.hid h; clear h
      have HIN := Lib.hid hin; clear hin
      have HS := Lib.hid hs; clear hs hso hst hn ha
      go_enter Try.func57, Try.ntmps57
      go_wp2_with fail
      refine HS.out.mono ?_; rintro e w1 ⟨rfl, b1⟩
      have B1 := Lib.hid b1; clear b1
      go_wp2_with fail
      refine (isTotal_any _ _).mono ?_; rintro e w2 ⟨rfl, rfl⟩
      rw [HIN.out]
      go_wp2_with fail
      go_loopw [28] (fun i wr => ∃ k : Nat, i = .int .i64 k ∧ k ≤ n + 1 ∧ Hid ((∀ q, q < k → mvF f rolls q < t) ∧ Below w.heap.size w wr)) (fun i _ => n + 1 - (intOf i).toNat)
      case atStart => exact ⟨0, rfl, Nat.zero_le _, Lib.hid ⟨fun q h => absurd h (Nat.not_lt_zero _), B1.out⟩⟩
      case round =>
        clear B1
        obtain ⟨k, rfl, hk, hh⟩ := hrel
        by_cases hlt : k < n + 1
        · have hkl : (k : Int) < (n : Int) + 1 := by omega
          go_wp2_with fail
          refine (HW.out k _ (HR.out.old hh.out.2)).mono ?_; rintro e w3 ⟨v, rfl, hown, b3⟩
          obtain ⟨a3, c3, rfl, hc3, hr3, ha3⟩ := own_cap hown
          have hl1 : (rolls ++ [(k : Int)]).length = rolls.length + 1 := by simp
          rw [hl1] at hc3 ⊢
          have HC3 := Lib.hid (And.intro hc3 (And.intro ha3 (And.intro hr3 (hh.out.2.trans (b3.mono hh.out.2.size))))); clear hown b3 hc3 hr3 ha3 hl1
          go_wp2_with fail
          have hcall := HM.out k a3 c3 w3 HC3.out.1 HC3.out.2.1 HC3.out.2.2.1
          refine hcall.mono ?_; rintro e w4 ⟨rfl, b4⟩
          have B4 := Lib.hid (HC3.out.2.2.2.trans (b4.mono HC3.out.2.2.2.size)); clear b4 hcall
          generalize (goodR f (rolls ++ [(k : Int)])).isSome = oo at *
          have HQ := Lib.hid hh.out.1
          by_cases hge : t ≤ mvF f rolls k
          · have hfd := find_hit (m := mvF f rolls) hlt hge HQ.out
            have HF := Lib.hid (HB.out.trans hfd)
            clear hfd HQ hh
            generalize mvF f rolls k = m at *
            go_wp2_with fail
            refine bodyPost_ret (v := .tuple #[.int .i64 (k : Int), .bool true]) (by simp [results, Try.results57, go_sem]) rfl ⟨by rw [HF.out]; rfl, B4.out⟩
          · have hq2 : ∀ q, q < k + 1 → mvF f rolls q < t := by
              intro q hq
              by_cases e : q = k
              · subst e; omega
              · exact HQ.out q (by omega)
            have HN := Lib.hid (And.intro hq2 B4.out); clear hq2 HQ hh
            have hge2 : ¬ t ≤ mvF f rolls k := hge
            clear hge
            generalize mvF f rolls k = m at *
            go_wp2_with fail
            go_roundw
            case rel => exact ⟨k + 1, by go_num, by omega, HN⟩
            case measure => simp [intOf]; omega
        · obtain rfl : k = n + 1 := by omega
          go_wp2_with fail
          refine bodyPost_ret (v := .tuple #[.int .i64 0, .bool false]) (by simp [results, Try.results57, go_sem]) rfl ⟨by rw [HB.out, find_miss hh.out.1]; rfl, hh.out.2⟩

set_option maxHeartbeats 3200000 in
theorem specBestRoll_any (f : Int) (rolls : List Int) (t : Int) (a : Option Addr) (c : Nat) (w : World) (hl : (rolls.length : Int) ≤ 1048576) (h : Reads w a (ints rolls)) :
    Calls Try.prog 56 #[.int .i64 f, .slice a rolls.length c, .int .i64 t] w fun e w' => e = .returned (.tuple #[.int .i64 (optV (bestN f rolls t)), .bool (bestN f rolls t).isSome]) ∧ Below w.heap.size w w' := by
  have hg := boGood_any f rolls a c w (by omega) h
  cases hq : goodR f rolls with
  | none =>
    have hb : bestN f rolls t = none := by simp [bestN, hq, standO]
    rw [hb]
    rw [hq] at hg
    have HG := Lib.hid hg; clear hg h hq hb
    go_enter Try.func56, Try.ntmps56
    go_wp2_with fail
    refine HG.out.mono ?_; rintro e w1 ⟨rfl, b1⟩
    go_wp2_with fail
    refine bodyPost_ret (v := .tuple #[.int .i64 0, .bool false]) (by simp [results, Try.results56, go_sem]) rfl ⟨rfl, b1⟩
  | some s =>
    rw [hq] at hg
    have HG := Lib.hid hg; clear hg
    cases hin : inR t 0 300
    · have hb : bestN f rolls t = none := by simp [bestN, hin]
      rw [hb]
      have HIN := Lib.hid hin; clear hin h hq hb
      go_enter Try.func56, Try.ntmps56
      go_wp2_with fail
      refine HG.out.mono ?_; rintro e w1 ⟨rfl, b1⟩
      have B1 := Lib.hid b1; clear b1
      go_wp2_with fail
      refine (l1In_any _ _ _ _).mono ?_; rintro e w2 ⟨rfl, rfl⟩
      rw [HIN.out]
      go_wp2_with fail
      refine bodyPost_ret (v := .tuple #[.int .i64 0, .bool false]) (by simp [results, Try.results56, go_sem]) rfl ⟨rfl, B1.out⟩
    · have HIN := Lib.hid hin
      obtain ⟨F, rfl, h1, h2, hgm, hi, -⟩ := goodR_some hq
      have hp := fun w' (hr : Reads w' a (ints rolls)) => boPlay_any F h1 h2 rolls a c w' (by omega) hr
      rw [hgm] at hp
      have HP := Lib.hid hp; clear hp
      have HR := Lib.hid h; clear h
      cases ho : overG F s
      · obtain ⟨n, hn10, hst⟩ := stand_nat (F : Int) rolls
        have hso : standO (goodR (F : Int) rolls) ((F : Nat) : Int).toNat = true := by simp [hq, standO, ho]
        have hb : bestN (F : Int) rolls t = (List.range (n + 1)).find? (fun p => decide (t ≤ mvF F rolls p)) := by
          unfold bestN; rw [hso, hin, hst]; simp
        have hlp : leftP s.2 = (n : Int) := by simpa [hq, standV, ho] using hst
        have hl30 := game_len h1 h2 hgm
        have hm : ∀ k : Nat, k ≤ n → ∀ a4 c4 (w' : World), Reads w' a4 (ints (rolls ++ [(k : Int)])) → Calls Try.prog 70 #[.int .i64 F, .slice a4 (rolls.length + 1) c4] w' fun e w'' => e = .returned (.int .i64 (mvF F rolls k)) ∧ Below w'.heap.size w' w'' := by
          intro k hk a4 c4 w' hr
          have hf : fitsG F s (k : Int) = true := by rw [fits_in ho, hlp]; simp [inR]; omega
          have hsn := game_snoc hgm hf
          have hbm := boMost_any F h1 h2 (rolls ++ [(k : Int)]) _ hsn a4 c4 w' hr
          have hv : mvF F rolls k = (scoresG (endG pickAll F (stepG F s (k : Int)))).sum := by
            unfold mvF; rw [goodR_nat h1 h2, hsn]; simp [endV]
          rw [hv]
          rw [show (rolls ++ [(k : Int)]).length = rolls.length + 1 from by simp] at hbm
          exact hbm
        have how := fun w' (hr : Reads w' a (ints rolls)) => l1Own_any rolls a c w' (by omega) hr
        have HM := Lib.hid hm; clear hm
        have HO := Lib.hid how; clear how
        have HB := Lib.hid hb; clear hb
        have e3 : stA F s = (n : Int) := by rw [← hlp]; simp [stA, bsA, ho]
        have HE := Lib.hid (And.intro e3 ho); clear e3 ho hst hso hlp hin hgm hi hq
        obtain ⟨i0, hi1, hz0, hz1, hz2⟩ := info_parts infoInt
        have HI := Lib.hid (And.intro hi1 (And.intro hz0 (And.intro hz1 hz2))); clear hi1 hz0 hz1 hz2
        go_enter Try.func56, Try.ntmps56
        go_wp2_with fail
        refine HG.out.mono ?_; rintro e w1 ⟨rfl, b1⟩
        have B1 := Lib.hid b1; clear b1
        go_wp2_with fail
        refine (l1In_any _ _ _ _).mono ?_; rintro e w2 ⟨rfl, rfl⟩
        rw [HIN.out]
        go_wp2_with fail
        refine (HP.out _ (HR.out.old B1.out)).mono ?_; rintro e w2 ⟨hs2, -, b2⟩
        obtain ⟨a2, c2, rfl, -⟩ := hs2 s rfl
        rw [HE.out.1, HE.out.2]
        have hb2 := B1.out.trans (b2.mono B1.out.size)
        have hz2 := hb2.size
        have HA := Lib.hid (And.intro (BoAt.new w2 (frA F s : Int) (.slice a2 (bsA F s).length c2) (n : Int) false) (hb2.alloc hz2 (.cells #[.int .i64 (frA F s : Int), .slice a2 (bsA F s).length c2, .int .i64 (n : Int), .bool false] 67))); clear hs2 b2 hb2
        generalize (frA F s : Int) = fr at *
        generalize (bsA F s).length = n2 at *
        go_wp2_with fail
        generalize w2.alloc (.cells #[.int .i64 fr, .slice a2 n2 c2, .int .i64 (n : Int), .bool false] 67) = X at *
        generalize hg8 : w2.heap.size = g8 at *
        clear hg8
        go_loopw [10] (fun i wr => ∃ k : Nat, i = .int .i64 k ∧ k ≤ n + 1 ∧ Hid ((∀ q, q < k → mvF F rolls q < t) ∧ BoAt wr g8 fr (.slice a2 n2 c2) (n : Int) false ∧ Below w.heap.size w wr)) (fun i _ => n + 1 - (intOf i).toNat)
        case atStart => exact ⟨0, rfl, Nat.zero_le _, Lib.hid ⟨fun q h => absurd h (Nat.not_lt_zero _), HA.out⟩⟩
        case round =>
          clear HA B1 HG HP
          obtain ⟨k, rfl, hk, hh⟩ := hrel
          obtain ⟨g0, g1, g2, g3⟩ := hh.out.2.1.cells
          by_cases hlt : k < n + 1
          · have hkl : (k : Int) ≤ (n : Int) := by omega
            go_wp2_with fail
            refine (HO.out _ (HR.out.old hh.out.2.2)).mono ?_; rintro e w3 ⟨v3, rfl, hown, b3⟩
            have hz3 := b3.size
            have H3 := Lib.hid (And.intro hown (And.intro (hh.out.2.1.keep b3) (hh.out.2.2.trans (b3.mono hh.out.2.2.size)))); clear hown b3 g0 g1 g2 g3
            go_wp2_with (at_builtin; refine wpList_append_own_at _ rfl _ _ 22 rfl wr.heap.size 3 i0 (.int .i64 0) 1 8 Try.underlying22 HI.out.1 HI.out.2.1 HI.out.2.2.1 HI.out.2.2.2 rfl (by decide) _ _ _ rfl (H3.out.1.alloc _) ⟨w3.heap.size, 0, none⟩ 1 1 [.int .i64 (k : Int)] rfl rfl (cell_one_new _ _ _) ?_ ?_ ?_ ?_ ?_)
            · intro u hu; simp at hu; subst hu; rfl
            · unfold maxLen; omega
            · omega
            · simp; omega
            intro v4 w4 hown4 hgrow _ hblk
            have bd := below_new w3 (.cells #[.int .i64 (k : Int)] 3)
            have hat4 := (H3.out.2.1.keep bd).grown (by decide) (H3.out.1.alloc _) hgrow
            have hz33 : w.heap.size ≤ w3.heap.size := H3.out.2.2.size
            have hbl4 : Below w.heap.size w w4 := (H3.out.2.2.trans (bd.mono hz33)).grown hgrow (by simp; omega) (fun g e => by
              have h5 := (owns_ge H3.out.1 e).1
              have h6 := hh.out.2.2.size
              omega)
            rw [show ints rolls ++ [Value.int .i64 (k : Int)] = ints (rolls ++ [(k : Int)]) from by simp [ints]] at hown4
            obtain ⟨a4, c4, ev, hc4, hr4, -⟩ := own_cap hown4
            subst ev
            have H4 := Lib.hid (And.intro hr4 (And.intro hat4 hbl4)); clear hown4 hgrow hblk bd hat4 hbl4 hr4 H3
            go_wp2_with fail
            refine (HM.out k (by omega) _ _ _ H4.out.1).mono ?_; rintro e w5 ⟨rfl, b5⟩
            have B5 := Lib.hid (And.intro (H4.out.2.1.keep b5) (H4.out.2.2.trans (b5.mono H4.out.2.2.size))); clear b5
            have HQ := Lib.hid hh.out.1
            by_cases hge : t ≤ mvF F rolls k
            · have hfd := find_hit (m := mvF F rolls) hlt hge HQ.out
              have HF := Lib.hid (HB.out.trans hfd)
              clear hfd HQ hh
              generalize mvF F rolls k = m at *
              go_wp2_with fail
              refine bodyPost_ret (v := .tuple #[.int .i64 (k : Int), .bool true]) (by simp [results, Try.results56, go_sem]) rfl ⟨by rw [HF.out]; rfl, B5.out.2⟩
            · have hq2 : ∀ q, q < k + 1 → mvF F rolls q < t := by
                intro q hq
                by_cases e : q = k
                · subst e; omega
                · exact HQ.out q (by omega)
              have HN := Lib.hid (And.intro hq2 B5.out); clear hq2 HQ hh
              have hge2 : ¬ t ≤ mvF F rolls k := hge
              clear hge
              generalize mvF F rolls k = m at *
              go_wp2_with fail
              go_roundw
              case rel => exact ⟨k + 1, by go_num, by omega, HN⟩
              case measure => simp [intOf]; omega
          · obtain rfl : k = n + 1 := by omega
            go_wp2_with fail
            refine bodyPost_ret (v := .tuple #[.int .i64 0, .bool false]) (by simp [results, Try.results56, go_sem]) rfl ⟨by rw [HB.out, find_miss hh.out.1]; rfl, hh.out.2.2⟩
      · have hb : bestN (F : Int) rolls t = none := by simp [bestN, hq, standO, ho]
        rw [hb]
        have HE := Lib.hid ho; clear ho hb hin hgm hi hq
        go_enter Try.func56, Try.ntmps56
        go_wp2_with fail
        refine HG.out.mono ?_; rintro e w1 ⟨rfl, b1⟩
        have B1 := Lib.hid b1; clear b1
        go_wp2_with fail
        refine (l1In_any _ _ _ _).mono ?_; rintro e w2 ⟨rfl, rfl⟩
        rw [HIN.out]
        go_wp2_with fail
        refine (HP.out _ (HR.out.old B1.out)).mono ?_; rintro e w2 ⟨hs2, -, b2⟩
        obtain ⟨a2, c2, rfl, -⟩ := hs2 s rfl
        rw [HE.out]
        have B2 := Lib.hid (B1.out.trans (b2.mono B1.out.size)); clear b2 hs2
        have z2 := B2.out.size
        generalize (frA F s : Int) = fr at *
        generalize stA F s = st at *
        generalize (bsA F s).length = n2 at *
        go_wp2_with fail
        refine bodyPost_ret (v := .tuple #[.int .i64 0, .bool false]) (by simp [results, Try.results56, go_sem]) rfl ⟨rfl, B2.out.alloc z2 _⟩
end Go.Proofs.Yteippgbaaipiiaa
