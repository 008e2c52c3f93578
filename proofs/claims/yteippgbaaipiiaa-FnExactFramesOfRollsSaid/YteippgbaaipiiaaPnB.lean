/-
  Pins: StrikesIn and SparesIn: the model's and the program's.
-/
import Derived.Test.YteippgbaaipiiaaPnSplit2
import Derived.Test.YteippgbaaipiiaaPnA
namespace Go.Proofs.Yteippgbaaipiiaa
open Go.RowKit
set_option linter.unusedVariables false
set_option linter.unusedSimpArgs false

theorem split_row {w : World} {B : Nat} {v : Value} {L : List (List Int)} (h : SplitD w B v L) : ∃ a c, v = .slice a L.length c ∧ L.length ≤ maxLen ∧
    ∀ j, j < L.length → ∃ b off aj cj, a = some ⟨b, off, none⟩ ∧ w.cell? ⟨b, off + j, none⟩ = some (.slice aj (L.getD j []).length cj) ∧ Reads w aj (ints (L.getD j [])) := by
  obtain ⟨vs, o1, o2⟩ := h
  obtain ⟨a, c, rfl, hr, hl, hm, _⟩ := Reads.own o1
  refine ⟨a, c, rfl, hm, fun j hj => ?_⟩
  obtain ⟨u, q1, q2, _⟩ := o2.2 j hj
  obtain ⟨aj, cj, rfl, hrj, -⟩ := Reads.own q2
  rcases hr with hr | ⟨b, off, rfl, hlt, hc⟩
  · rw [hr] at q1; simp at q1
  · refine ⟨b, off, aj, cj, rfl, ?_, hrj⟩
    rw [hc j (by rw [o2.1]; exact hj), q1]

theorem getD_dflt (l : List Int) (i : Nat) (h : i < l.length) (d d' : Int) : l.getD i d = l.getD i d' := by simp [h]
theorem getD_past (l : List Int) (i : Nat) (h : l.length ≤ i) (d : Int) : l.getD i d = d := by simp [List.getElem?_eq_none h]
def strikesL (L : List (List Int)) : Nat := (L.filter strikeB).length
def sparesL (L : List (List Int)) : Nat := (L.filter spareB).length
theorem filter_step (P : List Int → Bool) (L : List (List Int)) {k : Nat} (h : k < L.length) : ((L.take (k + 1)).filter P).length = ((L.take k).filter P).length + if P (L.getD k []) then 1 else 0 := by
  rw [List.take_succ_eq_append_getElem h, List.filter_append, List.length_append]
  have e : L.getD k [] = L[k] := by simp [h]
  rw [e, List.filter_cons, List.filter_nil]
  cases P L[k] <;> simp
theorem filter_sheet (P : List Int → Bool) (hP : P [] = false) {F : Nat} {s : St} (h : InvG F s) : ((sheetG F s).filter P).length = ((begunG s).filter P).length := by
  obtain ⟨k, hk⟩ := sheet_begun h
  rw [hk, List.filter_append]
  have : (List.replicate k ([] : List Int)).filter P = [] := by
    apply List.filter_eq_nil_iff.2
    intro a ha
    have := List.eq_of_mem_replicate ha
    subst this; simp [hP]
  rw [this, List.append_nil]
theorem filter_le (P : List Int → Bool) (L : List (List Int)) : (L.filter P).length ≤ L.length := List.length_filter_le _ _

theorem begun_at {F : Nat} {s : St} (h : InvG F s) {k : Nat} (hk : k < (begunG s).length) : smallB ((begunG s).getD k []) ∧ 1 ≤ ((begunG s).getD k []).length := by
  have e : (begunG s).getD k [] = (begunG s)[k] := by simp [hk]
  rw [e]
  refine ⟨begun_small h _ (List.getElem_mem hk), ?_⟩
  have := begun_ne h _ (List.getElem_mem hk)
  cases hh : (begunG s)[k] with
  | nil => exact absurd hh this
  | cons _ _ => simp

set_option maxHeartbeats 1600000 in
theorem specStrikesIn_any (f : Int) (rolls : List Int) (a : Option Addr) (c : Nat) (w : World) (hl : (rolls.length : Int) ≤ 1000000000000) (h : Reads w a (ints rolls)) :
    Calls Try.prog 42 #[.int .i64 f, .slice a rolls.length c] w fun e w' => e = .returned (.tuple #[.int .i64 (match goodR f rolls with | some s => ((strikesL (begunG s) : Nat) : Int) | none => 0), .bool (goodR f rolls).isSome]) ∧ Below w.heap.size w w' := by
  have hg := boGood_any f rolls a c w hl h
  cases hq : goodR f rolls with
  | none =>
    rw [hq] at hg
    have HG := Lib.hid hg; clear hg h hq
    go_enter Try.func42, Try.ntmps42
    go_wp2_with fail
    refine HG.out.mono ?_; rintro e w1 ⟨rfl, b1⟩
    go_wp2_with fail
    go_ret2
    exact ⟨rfl, b1⟩
  | some s =>
    rw [hq] at hg
    obtain ⟨F, rfl, h1, h2, hgm, hi, -⟩ := goodR_some hq
    have hsp := fun w' (hr : Reads w' a (ints rolls)) => boSplit_any F h1 h2 rolls s hgm a c w' hl hr
    have HSP := Lib.hid hsp; clear hsp
    have HR := Lib.hid h; clear h
    have HG := Lib.hid hg; clear hg hq hgm
    have hL10 := begun_len hi
    have hat := fun k hk => begun_at hi (k := k) hk
    have HAT := Lib.hid hat; clear hat hi
    simp only
    generalize begunG s = L at *
    go_enter Try.func42, Try.ntmps42
    go_wp2_with fail
    refine HG.out.mono ?_; rintro e w1 ⟨rfl, b1⟩
    have B1 := Lib.hid b1; clear b1
    go_wp2_with fail
    refine (HSP.out _ (HR.out.old B1.out)).mono ?_; rintro e w2 ⟨v, rfl, hsd, b2⟩
    obtain ⟨va, vc, rfl, hm, hrow⟩ := split_row hsd
    have HROW := Lib.hid hrow; clear hrow hsd hm
    have B2 := Lib.hid (B1.out.trans (b2.mono B1.out.size)); clear b2
    go_wp2_with fail
    go_loop [6, 17] (fun q i => ∃ k : Nat, i = .int .i64 k ∧ k ≤ L.length ∧ q = .int .i64 (strikesL (L.take k) : Nat)) (fun _ i => L.length - (intOf i).toNat)
    case atStart => exact ⟨0, rfl, Nat.zero_le _, rfl⟩
    case round =>
      obtain ⟨k, rfl, hk, rfl⟩ := hrel
      by_cases hlt : k < L.length
      · obtain ⟨b, off, aj, cj, e1, hcell, hrd⟩ := HROW.out k hlt
        subst e1
        obtain ⟨hsm, hln⟩ := HAT.out k hlt
        obtain ⟨b', o', e2, -, hcs⟩ := cells_of_reads hrd hln
        subst e2
        have x0 := hcs 0 hln
        rw [Nat.add_zero] at x0
        have hst := filter_step strikeB L hlt
        have hle := filter_le strikeB (L.take k)
        have hle2 : (L.take k).length ≤ 10 := by rw [List.length_take]; omega
        have hkL : (k : Int) < (L.length : Int) := by omega
        have e0 : (L.getD k []).getD 0 0 = (L.getD k []).getD 0 (-1) := by
          cases hh : L.getD k [] with
          | nil => rw [hh] at hln; simp at hln
          | cons _ _ => rfl
        rw [e0] at x0
        have hsb : ((L.getD k []).getD 0 (-1) == 10) = strikeB (L.getD k []) := rfl
        clear hrd hcs hsm e0
        have hnn : 0 < (L.getD k []).length := by omega
        unfold strikesL at *
        generalize ((L.take k).filter strikeB).length = q at *
        generalize (L.getD k []).length = nn at *
        generalize (L.getD k []).getD 0 (-1) = x at *
        cases hs : strikeB (L.getD k [])
        · rw [hs] at hst hsb
          simp only [Bool.false_eq_true, if_false] at hst
          have HST := Lib.hid hst; clear hst hs
          go_wp2_with fail
          go_round
          case rel => exact ⟨k + 1, by go_num, by omega, by rw [HST.out]; rfl⟩
          case measure => simp [intOf]; omega
        · rw [hs] at hst hsb
          simp only [if_true] at hst
          have HST := Lib.hid hst; clear hst hs
          go_wp2_with fail
          go_round
          case rel => exact ⟨k + 1, by go_num, by omega, by rw [HST.out]; go_num⟩
          case measure => simp [intOf]; omega
      · obtain rfl : k = L.length := by omega
        rw [List.take_length] at *
        go_wp2_with fail
        go_ret2
        exact ⟨rfl, B2.out⟩
set_option maxHeartbeats 1600000 in
theorem specSparesIn_any (f : Int) (rolls : List Int) (a : Option Addr) (c : Nat) (w : World) (hl : (rolls.length : Int) ≤ 1000000000000) (h : Reads w a (ints rolls)) :
    Calls Try.prog 44 #[.int .i64 f, .slice a rolls.length c] w fun e w' => e = .returned (.tuple #[.int .i64 (match goodR f rolls with | some s => ((sparesL (begunG s) : Nat) : Int) | none => 0), .bool (goodR f rolls).isSome]) ∧ Below w.heap.size w w' := by
  have hg := boGood_any f rolls a c w hl h
  cases hq : goodR f rolls with
  | none =>
    rw [hq] at hg
    have HG := Lib.hid hg; clear hg h hq
    go_enter Try.func44, Try.ntmps44
    go_wp2_with fail
    refine HG.out.mono ?_; rintro e w1 ⟨rfl, b1⟩
    go_wp2_with fail
    go_ret2
    exact ⟨rfl, b1⟩
  | some s =>
    rw [hq] at hg
    obtain ⟨F, rfl, h1, h2, hgm, hi, -⟩ := goodR_some hq
    have hsp := fun w' (hr : Reads w' a (ints rolls)) => boSplit_any F h1 h2 rolls s hgm a c w' hl hr
    have HSP := Lib.hid hsp; clear hsp
    have HR := Lib.hid h; clear h
    have HG := Lib.hid hg; clear hg hq hgm
    have hL10 := begun_len hi
    have hat := fun k hk => begun_at hi (k := k) hk
    have HAT := Lib.hid hat; clear hat hi
    simp only
    generalize begunG s = L at *
    go_enter Try.func44, Try.ntmps44
    go_wp2_with fail
    refine HG.out.mono ?_; rintro e w1 ⟨rfl, b1⟩
    have B1 := Lib.hid b1; clear b1
    go_wp2_with fail
    refine (HSP.out _ (HR.out.old B1.out)).mono ?_; rintro e w2 ⟨v, rfl, hsd, b2⟩
    obtain ⟨va, vc, rfl, hm, hrow⟩ := split_row hsd
    have HROW := Lib.hid hrow; clear hrow hsd hm
    have B2 := Lib.hid (B1.out.trans (b2.mono B1.out.size)); clear b2
    go_wp2_with fail
    go_loopw [6, 17] (fun q i wr => ∃ k : Nat, i = .int .i64 k ∧ k ≤ L.length ∧ q = .int .i64 (sparesL (L.take k) : Nat) ∧ ∃ nq, wr = w2.drewN nq) (fun _ i _ => L.length - (intOf i).toNat)
    case atStart => exact ⟨0, rfl, Nat.zero_le _, rfl, 0, rfl⟩
    case round =>
      obtain ⟨k, rfl, hk, rfl, nq, rfl⟩ := hrel
      by_cases hlt : k < L.length
      · obtain ⟨b, off, aj, cj, e1, hcell, hrd⟩ := HROW.out k hlt
        subst e1
        obtain ⟨hsm, hln⟩ := HAT.out k hlt
        obtain ⟨b', o', e2, -, hcs⟩ := cells_of_reads hrd hln
        subst e2
        have x0 := hcs 0 hln
        rw [Nat.add_zero] at x0
        have hst := filter_step spareB L hlt
        have hle := filter_le spareB (L.take k)
        have hle2 : (L.take k).length ≤ 10 := by rw [List.length_take]; omega
        have hkL : (k : Int) < (L.length : Int) := by omega
        have e0 : ∀ i, i < (L.getD k []).length → (L.getD k []).getD i 0 = (L.getD k []).getD i (-1) := by
          intro i hi
          exact getD_dflt _ _ hi _ _
        rw [e0 0 hln] at x0
        have x1 : 1 < (L.getD k []).length → w2.cell? ⟨b', o' + 1, none⟩ = some (.int .i64 ((L.getD k []).getD 1 (-1))) := fun hh => by have := hcs 1 hh; rw [e0 1 hh] at this; exact this
        have y1 : ¬ 1 < (L.getD k []).length → (L.getD k []).getD 1 (-1) = -1 := fun hh => getD_past _ _ (by omega) _
        obtain ⟨xb0, xb1⟩ := getD_bd hsm 0
        obtain ⟨yb0, yb1⟩ := getD_bd hsm 1
        have hsb := spare_eq (L.getD k [])
        have hsk : strikeB (L.getD k []) = ((L.getD k []).getD 0 (-1) == 10) := rfl
        rw [hsk] at hsb
        clear hrd hcs hsm e0 hsk
        unfold sparesL at *
        generalize ((L.take k).filter spareB).length = q at *
        generalize hnn : (L.getD k []).length = nn at *
        generalize (L.getD k []).getD 0 (-1) = x at *
        generalize (L.getD k []).getD 1 (-1) = y at *
        generalize spareB (L.getD k []) = sb at *
        have hwx : IntKind.i64.wrap (x + y) = x + y := IntWalk.i64_in _ (by omega)
        have hn0 : 0 < nn := by omega
        have HNN := Lib.hid hnn; clear hnn
        by_cases hx : x < 10
        · by_cases hn1 : 1 < nn
          · have x1' := x1 hn1
            have hn1' : decide ((1 : Int) < (nn : Int)) = true := by simp; omega
            by_cases hs : x + y = 10
            · have hsb2 : sb = true := by rw [hsb]; simp [hs]; omega
              rw [hsb2] at hst
              simp only [if_true] at hst
              have HST := Lib.hid hst; clear hst hsb hsb2 x1 y1
              have hs' : (x + y == 10) = true := by simp [hs]
              clear hs
              go_wp2_with fail
              go_quiet (fail)
              go_wp2_with fail
              go_roundw
              case rel => exact ⟨k + 1, by go_num, by omega, by rw [HST.out]; go_num, _, rfl⟩
              case measure => simp [intOf]; omega
            · have hsb2 : sb = false := by rw [hsb]; simp; intro _; exact hs
              rw [hsb2] at hst
              simp only [Bool.false_eq_true, if_false] at hst
              have HST := Lib.hid hst; clear hst hsb hsb2 x1 y1
              have hs' : (x + y == 10) = false := by simp [hs]
              clear hs
              go_wp2_with fail
              go_quiet (fail)
              go_wp2_with fail
              go_roundw
              case rel => exact ⟨k + 1, by go_num, by omega, by rw [HST.out]; rfl, _, rfl⟩
              case measure => simp [intOf]; omega
          · have hy := y1 hn1
            have hsb2 : sb = false := by rw [hsb, hy]; simp; omega
            rw [hsb2] at hst
            simp only [Bool.false_eq_true, if_false] at hst
            have HST := Lib.hid hst; clear hst hsb hsb2 x1 y1 hy
            have hn1' : decide ((1 : Int) < (nn : Int)) = false := by simp; omega
            go_wp2_with fail
            go_quiet (fail)
            go_wp2_with fail
            go_roundw
            case rel => exact ⟨k + 1, by go_num, by omega, by rw [HST.out]; rfl, _, rfl⟩
            case measure => simp [intOf]; omega
        · have hsb2 : sb = false := by rw [hsb]; simp; intro hh; omega
          rw [hsb2] at hst
          simp only [Bool.false_eq_true, if_false] at hst
          have HST := Lib.hid hst; clear hst hsb hsb2 x1 y1
          have hx' : decide (x < 10) = false := by simp; omega
          go_wp2_with fail
          go_quiet (fail)
          go_wp2_with fail
          go_roundw
          case rel => exact ⟨k + 1, by go_num, by omega, by rw [HST.out]; rfl, _, rfl⟩
          case measure => simp [intOf]; omega
      · obtain rfl : k = L.length := by omega
        rw [List.take_length] at *
        go_wp2_with fail
        go_ret2
        exact ⟨rfl, below_drewN B2.out _⟩

set_option maxHeartbeats 1600000 in
theorem implStrikesIn_any (f : Int) (rolls : List Int) (a : Option Addr) (c : Nat) (w : World) (hl : (rolls.length : Int) ≤ 1000000000000) (h : Reads w a (ints rolls)) :
    Calls Try.prog 43 #[.int .i64 f, .slice a rolls.length c] w fun e w' => e = .returned (.tuple #[.int .i64 (match goodR f rolls with | some s => ((strikesL (begunG s) : Nat) : Int) | none => 0), .bool (goodR f rolls).isSome]) ∧ Below w.heap.size w w' := by
  have hs := sheetOf_any f rolls a c w hl h
  cases hg : goodR f rolls with
  | none =>
    rw [hg] at hs
    have HS := Lib.hid hs; clear hs hg h
    go_enter Try.func43, Try.ntmps43
    go_wp2_with fail
    refine HS.out.mono ?_; rintro e w1 ⟨-, hn, b1⟩
    obtain rfl := hn rfl
    clear hn
    go_wp2_with fail
    refine wp_loop_rounds 1 ?_
    rw [rounds_succ]
    go_wp2_with fail
    go_ret2
    exact ⟨rfl, b1⟩
  | some s =>
    rw [hg] at hs
    obtain ⟨F, rfl, h1, h2, -, hi, -⟩ := goodR_some hg
    have hfs := filter_sheet strikeB rfl hi
    have hsl := sheet_len hi.1
    have hsm := sheet_small hi
    simp only
    have HS : Hid (Calls Try.prog 59 #[.int .i64 (F : Int), .slice a rolls.length c] w fun e w' => (∃ g, e = .returned (.tuple #[.slice (some ⟨g, 0, none⟩) F F, .bool true]) ∧ ShAt w' g (sheetG F s)) ∧ Below w.heap.size w w') := Lib.hid (hs.mono (fun e w' hh => by
      obtain ⟨g, e1, e2, -⟩ := hh.1 s rfl
      rw [show ((F : Nat) : Int).toNat = F from by simp] at e1 e2
      exact ⟨⟨g, e1, e2⟩, hh.2.2⟩))
    have HFS := Lib.hid hfs; clear hfs hs hg h hi
    have HSL := Lib.hid hsl; clear hsl
    have HSM := Lib.hid hsm; clear hsm
    unfold strikesL at *
    generalize sheetG F s = S at *
    generalize ((begunG s).filter strikeB).length = total at *
    go_enter Try.func43, Try.ntmps43
    go_wp2_with fail
    refine HS.out.mono ?_; rintro e w1 ⟨⟨g, rfl, hsh⟩, b1⟩
    have H1 := Lib.hid (And.intro hsh b1); clear hsh b1
    go_wp2_with fail
    go_loopw [8, 19] (fun q i wr => ∃ k : Nat, i = .int .i64 k ∧ k ≤ F ∧ q = .int .i64 ((((S.take k).filter strikeB).length : Nat) : Int) ∧ Below w1.heap.size w1 wr) (fun _ i _ => F - (intOf i).toNat)
    case atStart => exact ⟨0, rfl, Nat.zero_le _, rfl, Below.refl _ _⟩
    case round =>
      obtain ⟨k, rfl, hk, rfl, hb⟩ := hrel
      have HB := Lib.hid hb; clear hb
      by_cases hlt : k < F
      · have hkF : (k : Int) < (F : Int) := by omega
        obtain ⟨c0, c1, c2⟩ := (H1.out.1.keep HB.out).cells (j := k) (by rw [HSL.out]; exact hlt)
        have hst := fun w => isStrike_any (S.getD k []) w
        rw [show frV (S.getD k []) = .agg #[.int .i64 ((S.getD k []).getD 0 (-1)), .int .i64 ((S.getD k []).getD 1 (-1)), .int .i64 ((S.getD k []).getD 2 (-1))] from rfl] at hst
        have hcnt := filter_step strikeB S (k := k) (by rw [HSL.out]; exact hlt)
        have hle := filter_le strikeB (S.take k)
        have hle2 : (S.take k).length ≤ 10 := by rw [List.length_take]; omega
        have hsz := HB.out.size
        generalize ((S.take k).filter strikeB).length = q at *
        generalize (S.getD k []).getD 0 (-1) = x at *
        generalize (S.getD k []).getD 1 (-1) = y at *
        generalize (S.getD k []).getD 2 (-1) = z at *
        cases hsb : strikeB (S.getD k [])
        · rw [hsb] at hst hcnt
          simp only [Bool.false_eq_true, if_false] at hcnt
          have HST := Lib.hid hst; clear hst hsb
          have HC := Lib.hid hcnt; clear hcnt
          go_wp2_with fail
          refine (HST.out _).mono ?_; rintro e w3 ⟨rfl, b3⟩
          have HB1 := Lib.hid ((HB.out.alloc hsz _).trans (b3.mono (by simp; omega)))
          clear b3 c0 c1 c2
          go_wp2_with fail
          go_roundw
          case rel => exact ⟨k + 1, by go_num, by omega, by rw [HC.out]; rfl, HB1.out⟩
          case measure => simp [intOf]; omega
        · rw [hsb] at hst hcnt
          simp only [if_true] at hcnt
          have HST := Lib.hid hst; clear hst hsb
          have HC := Lib.hid hcnt; clear hcnt
          go_wp2_with fail
          refine (HST.out _).mono ?_; rintro e w3 ⟨rfl, b3⟩
          have HB1 := Lib.hid ((HB.out.alloc hsz _).trans (b3.mono (by simp; omega)))
          clear b3 c0 c1 c2
          go_wp2_with fail
          go_roundw
          case rel => exact ⟨k + 1, by go_num, by omega, by rw [HC.out]; go_num, HB1.out⟩
          case measure => simp [intOf]; omega
      · obtain rfl : k = F := by omega
        have he : S.take k = S := List.take_of_length_le (by rw [HSL.out]; exact Nat.le_refl _)
        rw [he, HFS.out]
        clear he
        go_wp2_with fail
        go_ret2
        exact ⟨rfl, H1.out.2.trans (HB.out.mono H1.out.2.size)⟩


set_option maxHeartbeats 1600000 in
theorem implSparesIn_any (f : Int) (rolls : List Int) (a : Option Addr) (c : Nat) (w : World) (hl : (rolls.length : Int) ≤ 1000000000000) (h : Reads w a (ints rolls)) :
    Calls Try.prog 45 #[.int .i64 f, .slice a rolls.length c] w fun e w' => e = .returned (.tuple #[.int .i64 (match goodR f rolls with | some s => ((sparesL (begunG s) : Nat) : Int) | none => 0), .bool (goodR f rolls).isSome]) ∧ Below w.heap.size w w' := by
  have hs := sheetOf_any f rolls a c w hl h
  cases hg : goodR f rolls with
  | none =>
    rw [hg] at hs
    have HS := Lib.hid hs; clear hs hg h
    go_enter Try.func45, Try.ntmps45
    go_wp2_with fail
    refine HS.out.mono ?_; rintro e w1 ⟨-, hn, b1⟩
    obtain rfl := hn rfl
    clear hn
    go_wp2_with fail
    refine wp_loop_rounds 1 ?_
    rw [rounds_succ]
    go_wp2_with fail
    go_ret2
    exact ⟨rfl, b1⟩
  | some s =>
    rw [hg] at hs
    obtain ⟨F, rfl, h1, h2, -, hi, -⟩ := goodR_some hg
    have hfs := filter_sheet spareB rfl hi
    have hsl := sheet_len hi.1
    have hsm := sheet_small hi
    simp only
    have HS : Hid (Calls Try.prog 59 #[.int .i64 (F : Int), .slice a rolls.length c] w fun e w' => (∃ g, e = .returned (.tuple #[.slice (some ⟨g, 0, none⟩) F F, .bool true]) ∧ ShAt w' g (sheetG F s)) ∧ Below w.heap.size w w') := Lib.hid (hs.mono (fun e w' hh => by
      obtain ⟨g, e1, e2, -⟩ := hh.1 s rfl
      rw [show ((F : Nat) : Int).toNat = F from by simp] at e1 e2
      exact ⟨⟨g, e1, e2⟩, hh.2.2⟩))
    have HFS := Lib.hid hfs; clear hfs hs hg h hi
    have HSL := Lib.hid hsl; clear hsl
    have HSM := Lib.hid hsm; clear hsm
    unfold sparesL at *
    generalize sheetG F s = S at *
    generalize ((begunG s).filter spareB).length = total at *
    go_enter Try.func45, Try.ntmps45
    go_wp2_with fail
    refine HS.out.mono ?_; rintro e w1 ⟨⟨g, rfl, hsh⟩, b1⟩
    have H1 := Lib.hid (And.intro hsh b1); clear hsh b1
    go_wp2_with fail
    go_loopw [8, 19] (fun q i wr => ∃ k : Nat, i = .int .i64 k ∧ k ≤ F ∧ q = .int .i64 ((((S.take k).filter spareB).length : Nat) : Int) ∧ Below w1.heap.size w1 wr) (fun _ i _ => F - (intOf i).toNat)
    case atStart => exact ⟨0, rfl, Nat.zero_le _, rfl, Below.refl _ _⟩
    case round =>
      obtain ⟨k, rfl, hk, rfl, hb⟩ := hrel
      have HB := Lib.hid hb; clear hb
      by_cases hlt : k < F
      · have hkF : (k : Int) < (F : Int) := by omega
        obtain ⟨c0, c1, c2⟩ := (H1.out.1.keep HB.out).cells (j := k) (by rw [HSL.out]; exact hlt)
        have hst := fun w => isSpare_any (S.getD k []) (HSM.out k) w
        rw [show frV (S.getD k []) = .agg #[.int .i64 ((S.getD k []).getD 0 (-1)), .int .i64 ((S.getD k []).getD 1 (-1)), .int .i64 ((S.getD k []).getD 2 (-1))] from rfl] at hst
        have hcnt := filter_step spareB S (k := k) (by rw [HSL.out]; exact hlt)
        have hle := filter_le spareB (S.take k)
        have hle2 : (S.take k).length ≤ 10 := by rw [List.length_take]; omega
        have hsz := HB.out.size
        generalize ((S.take k).filter spareB).length = q at *
        generalize (S.getD k []).getD 0 (-1) = x at *
        generalize (S.getD k []).getD 1 (-1) = y at *
        generalize (S.getD k []).getD 2 (-1) = z at *
        cases hsb : spareB (S.getD k [])
        · rw [hsb] at hst hcnt
          simp only [Bool.false_eq_true, if_false] at hcnt
          have HST := Lib.hid hst; clear hst hsb
          have HC := Lib.hid hcnt; clear hcnt
          go_wp2_with fail
          refine (HST.out _).mono ?_; rintro e w3 ⟨rfl, b3⟩
          have HB1 := Lib.hid ((HB.out.alloc hsz _).trans (b3.mono (by simp; omega)))
          clear b3 c0 c1 c2
          go_wp2_with fail
          go_roundw
          case rel => exact ⟨k + 1, by go_num, by omega, by rw [HC.out]; rfl, HB1.out⟩
          case measure => simp [intOf]; omega
        · rw [hsb] at hst hcnt
          simp only [if_true] at hcnt
          have HST := Lib.hid hst; clear hst hsb
          have HC := Lib.hid hcnt; clear hcnt
          go_wp2_with fail
          refine (HST.out _).mono ?_; rintro e w3 ⟨rfl, b3⟩
          have HB1 := Lib.hid ((HB.out.alloc hsz _).trans (b3.mono (by simp; omega)))
          clear b3 c0 c1 c2
          go_wp2_with fail
          go_roundw
          case rel => exact ⟨k + 1, by go_num, by omega, by rw [HC.out]; go_num, HB1.out⟩
          case measure => simp [intOf]; omega
      · obtain rfl : k = F := by omega
        have he : S.take k = S := List.take_of_length_le (by rw [HSL.out]; exact Nat.le_refl _)
        rw [he, HFS.out]
        clear he
        go_wp2_with fail
        go_ret2
        exact ⟨rfl, H1.out.2.trans (HB.out.mono H1.out.2.size)⟩

end Go.Proofs.Yteippgbaaipiiaa
