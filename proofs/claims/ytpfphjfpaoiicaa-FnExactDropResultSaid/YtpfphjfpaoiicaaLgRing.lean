/-
  Leagues: the first ring of three teams: both sides.
-/
import Derived.Test.YtpfphjfpaoiicaaLgBeat
namespace Go.Proofs.Ytpfphjfpaoiicaa
open Go.RowKit
set_option linter.unusedVariables false
set_option linter.unusedSimpArgs false

def f3 (H : Nat → Nat → Nat → Bool) (T a b : Nat) : Nat → Option (Nat × Nat × Nat)
  | 0 => none
  | n + 1 => if H a b (T - (n + 1)) then some (a, b, T - (n + 1)) else f3 H T a b n
def f2 (H : Nat → Nat → Nat → Bool) (T a : Nat) : Nat → Option (Nat × Nat × Nat)
  | 0 => none
  | n + 1 => (f3 H T a (T - (n + 1)) (T - (a + 1))).or (f2 H T a n)
def f1 (H : Nat → Nat → Nat → Bool) (T : Nat) : Nat → Option (Nat × Nat × Nat)
  | 0 => none
  | n + 1 => (f2 H T (T - (n + 1)) (T - (T - (n + 1) + 1))).or (f1 H T n)
theorem f3_step (H : Nat → Nat → Nat → Bool) {T c : Nat} (a b : Nat) (h : c < T) : f3 H T a b (T - c) = if H a b c then some (a, b, c) else f3 H T a b (T - (c + 1)) := by
  obtain ⟨n, hn⟩ : ∃ n, T - c = n + 1 := ⟨T - c - 1, by omega⟩
  rw [hn, f3, show T - (n + 1) = c from by omega, show T - (c + 1) = n from by omega]
theorem f2_step (H : Nat → Nat → Nat → Bool) {T b : Nat} (a : Nat) (h : b < T) : f2 H T a (T - b) = (f3 H T a b (T - (a + 1))).or (f2 H T a (T - (b + 1))) := by
  obtain ⟨n, hn⟩ : ∃ n, T - b = n + 1 := ⟨T - b - 1, by omega⟩
  rw [hn, f2, show T - (n + 1) = b from by omega, show T - (b + 1) = n from by omega]
theorem f1_step (H : Nat → Nat → Nat → Bool) {T a : Nat} (h : a < T) : f1 H T (T - a) = (f2 H T a (T - (a + 1))).or (f1 H T (T - (a + 1))) := by
  obtain ⟨n, hn⟩ : ∃ n, T - a = n + 1 := ⟨T - a - 1, by omega⟩
  rw [hn, f1, show T - (n + 1) = a from by omega, show T - (a + 1) = n from by omega]

def ringH (l : List Rs) (a b c : Nat) : Bool := beatL l a b && (beatL l b c && beatL l c a)
def ringO (t wn : Int) (l : List Rs) : Option (Nat × Nat × Nat) := if goodL t wn l then f1 (ringH l) t.toNat t.toNat else none
def ringL : Option (Nat × Nat × Nat) → List Int
  | some r => [(r.1 : Int), (r.2.1 : Int), (r.2.2 : Int)]
  | none => []
theorem ringL_len (o : Option (Nat × Nat × Nat)) : (ringL o).length ≤ 3 := by cases o <;> simp [ringL]
theorem own_three (w : World) (x y z : Int) : (w.alloc (.cells #[.int .i64 x, .int .i64 y, .int .i64 z] 3)).ownsRow w.heap.size 3 1 (.slice (some ⟨w.heap.size, 0, none⟩) 3 3) 3 (ints [x, y, z]) :=
  RowAt.own (cs := [x, y, z]) (ObAt.new w 3 #[.int .i64 x, .int .i64 y, .int .i64 z]) (Nat.le_refl _) (by unfold maxLen; simp)
theorem owns_lower {w : World} {B B' T n size : Nat} {v : Value} {xs : List Value} (h : w.ownsRow B' T size v n xs) (hb : B ≤ B') : w.ownsRow B T size v n xs := owns_base h hb

set_option maxHeartbeats 3200000 in
set_option maxRecDepth 100000 in
theorem implRing_any (t wn : Int) (l : List Rs) (ad : Option Addr) (c : Nat) (w : World) (hl : (l.length : Int) ≤ 1000000000000) (hlc : l.length ≤ c) (hr : Reads w ad (ress l)) :
    Calls Try.prog 55 #[.agg #[.int .i64 t, .int .i64 wn, .slice ad l.length c]] w fun e w' => RowR (ringL (ringO t wn l)) (ringO t wn l).isSome w e w' := by
  have HB0 := Lib.hid (Below.ofNew (w := w) (.cells #[.int .i64 t, .int .i64 wn, .slice ad l.length c] 29))
  have HA := Lib.hid (ObAt.new w 29 #[.int .i64 t, .int .i64 wn, .slice ad l.length c])
  have HG := Lib.hid (isLeague_any t wn l ad c _ hl hlc (hr.old HB0.out))
  have HR := Lib.hid hr; clear hr
  cases hg : goodL t wn l
  · have hv : ringO t wn l = none := by unfold ringO; rw [hg]; rfl
    rw [hg] at HG; rw [hv]; clear hg hv
    go_enter Try.func55, Try.ntmps55
    go_wp2_with fail
    refine HG.out.mono ?_; rintro e w1 ⟨rfl, b1⟩
    have HB1 := Lib.hid (HB0.out.trans (b1.mono HB0.out.size)); clear b1
    go_wp2_with fail
    refine bodyPost_ret (v := .tuple #[.slice none 0 0, .bool false]) (by simp [results, Try.results55, go_sem]) rfl ⟨_, rfl, owns_nil _ _ _, HB1.out⟩
  · obtain ⟨t2, t8, -, -, -⟩ := goodL_bd hg
    obtain ⟨T, rfl⟩ : ∃ T : Nat, t = T := ⟨t.toNat, by omega⟩
    have hv : ringO T wn l = f1 (ringH l) T T := by unfold ringO; rw [if_pos hg, Int.toNat_natCast]
    have HSF := Lib.hid (beatL_self hg)
    have HBT := Lib.hid (fun a b W (hb : Below w.heap.size w W) => hasBeaten_any T wn l hg ad c a b W (HR.out.old hb))
    rw [hg] at HG; rw [hv]; clear hg hv
    generalize hO : f1 (ringH l) T T = O
    have hO2 : O = f1 (ringH l) T (T - 0) := by rw [← hO]; rfl
    have HO := Lib.hid hO2; clear hO hO2
    go_enter Try.func55, Try.ntmps55
    go_wp2_with fail
    refine HG.out.mono ?_; rintro e w1 ⟨rfl, b1⟩
    have H0 : Hid (ObAt w1 w.heap.size 29 #[.int .i64 T, .int .i64 wn, .slice ad l.length c] ∧ Below w.heap.size w w1) := ⟨HA.out.keep b1, HB0.out.trans (b1.mono HB0.out.size)⟩
    clear b1 HG HA HB0
    obtain ⟨p0, p1, p2, -, -, -⟩ := H0.out.1.three
    go_wp2_with fail
    clear p0 p1 p2
    go_loopw [12] (fun i wr => ∃ k : Nat, i = .int .i64 k ∧ k ≤ T ∧ Hid (O = f1 (ringH l) T (T - k) ∧ ObAt wr w.heap.size 29 #[.int .i64 T, .int .i64 wn, .slice ad l.length c] ∧ Below w.heap.size w wr)) (fun i _ => T - (intOf i).toNat)
    case atStart => exact ⟨0, rfl, Nat.zero_le _, HO.out, H0.out⟩
    case round =>
      clear H0 HO
      obtain ⟨k, rfl, hk, hH⟩ := hrel
      obtain ⟨p0, p1, p2, -, -, -⟩ := hH.out.2.1.three
      by_cases hlt : k < T
      · have b1 : (k : Int) < (T : Int) := by omega
        have ho := hH.out.1
        rw [f1_step _ hlt] at ho
        have H1 : Hid (O = (f2 (ringH l) T k (T - (k + 1))).or (f1 (ringH l) T (T - (k + 1))) ∧ ObAt wr w.heap.size 29 #[.int .i64 T, .int .i64 wn, .slice ad l.length c] ∧ Below w.heap.size w wr) := ⟨ho, hH.out.2⟩
        clear ho hH
        go_wp2_with fail
        clear p0 p1 p2
        go_loopw [5] (fun i wr => ∃ j : Nat, i = .int .i64 j ∧ k + 1 ≤ j ∧ j ≤ T ∧ Hid (O = (f2 (ringH l) T k (T - j)).or (f1 (ringH l) T (T - (k + 1))) ∧ ObAt wr w.heap.size 29 #[.int .i64 T, .int .i64 wn, .slice ad l.length c] ∧ Below w.heap.size w wr)) (fun i _ => T - (intOf i).toNat)
        case atStart => exact ⟨k + 1, by go_num, Nat.le_refl _, by omega, H1.out⟩
        case round =>
          clear H1
          obtain ⟨j, rfl, hj1, hj, hH⟩ := hrel
          obtain ⟨p0, p1, p2, -, -, -⟩ := hH.out.2.1.three
          by_cases hlj : j < T
          · have b2 : (j : Int) < (T : Int) := by omega
            have ho := hH.out.1
            rw [f2_step _ _ hlj] at ho
            have H2 : Hid (O = ((f3 (ringH l) T k j (T - (k + 1))).or (f2 (ringH l) T k (T - (j + 1)))).or (f1 (ringH l) T (T - (k + 1))) ∧ ObAt wr w.heap.size 29 #[.int .i64 T, .int .i64 wn, .slice ad l.length c] ∧ Below w.heap.size w wr) := ⟨ho, hH.out.2⟩
            clear ho hH
            go_wp2_with fail
            clear p0 p1 p2
            go_loopw [6] (fun i wr => ∃ q : Nat, i = .int .i64 q ∧ k + 1 ≤ q ∧ q ≤ T ∧ Hid (O = ((f3 (ringH l) T k j (T - q)).or (f2 (ringH l) T k (T - (j + 1)))).or (f1 (ringH l) T (T - (k + 1))) ∧ ObAt wr w.heap.size 29 #[.int .i64 T, .int .i64 wn, .slice ad l.length c] ∧ Below w.heap.size w wr)) (fun i _ => T - (intOf i).toNat)
            case atStart => exact ⟨k + 1, by go_num, Nat.le_refl _, by omega, H2.out⟩
            case round =>
              clear H2
              obtain ⟨q, rfl, hq1, hq, hH⟩ := hrel
              obtain ⟨p0, p1, p2, -, -, -⟩ := hH.out.2.1.three
              by_cases hlq : q < T
              · have b3 : (q : Int) < (T : Int) := by omega
                have ho := hH.out.1
                rw [f3_step _ _ _ hlq] at ho
                have hh : ringH l k j q = (beatL l k j && (beatL l j q && beatL l q k)) := rfl
                rw [hh] at ho
                have H3 : Hid (ObAt wr w.heap.size 29 #[.int .i64 T, .int .i64 wn, .slice ad l.length c] ∧ Below w.heap.size w wr) := hH.out.2
                clear hh hH
                cases g0 : beatL l k j
                · have Q0 := Lib.hid g0
                  rw [g0] at ho
                  rw [if_neg (by simp [])] at ho
                  have HO2 : Hid (O = ((f3 (ringH l) T k j (T - (q + 1))).or (f2 (ringH l) T k (T - (j + 1)))).or (f1 (ringH l) T (T - (k + 1)))) := Lib.hid ho
                  clear ho
                  clear g0
                  go_wp2_with fail
                  refine (HBT.out _ _ _ H3.out.2).mono ?_; rintro e w4 ⟨rfl, b4'⟩
                  rw [Q0.out]
                  have K0 : Hid (ObAt w4 w.heap.size 29 #[.int .i64 T, .int .i64 wn, .slice ad l.length c] ∧ Below w.heap.size w w4) := ⟨H3.out.1.keep b4', H3.out.2.trans (b4'.mono H3.out.2.size)⟩
                  clear b4' p0 p1 p2
                  obtain ⟨p0, p1, p2, -, -, -⟩ := K0.out.1.three
                  go_wp2_with fail
                  go_roundw
                  case rel => exact ⟨q + 1, by go_num, by omega, by omega, Lib.hid ⟨HO2.out, K0.out⟩⟩
                  case measure => simp [intOf]; omega
                have Q0 := Lib.hid g0
                rw [g0] at ho
                clear g0
                cases g1 : beatL l j q
                · have Q1 := Lib.hid g1
                  rw [g1] at ho
                  rw [if_neg (by simp [])] at ho
                  have HO2 : Hid (O = ((f3 (ringH l) T k j (T - (q + 1))).or (f2 (ringH l) T k (T - (j + 1)))).or (f1 (ringH l) T (T - (k + 1)))) := Lib.hid ho
                  clear ho
                  clear g1
                  go_wp2_with fail
                  refine (HBT.out _ _ _ H3.out.2).mono ?_; rintro e w4 ⟨rfl, b4'⟩
                  rw [Q0.out]
                  have K0 : Hid (ObAt w4 w.heap.size 29 #[.int .i64 T, .int .i64 wn, .slice ad l.length c] ∧ Below w.heap.size w w4) := ⟨H3.out.1.keep b4', H3.out.2.trans (b4'.mono H3.out.2.size)⟩
                  clear b4' p0 p1 p2
                  obtain ⟨p0, p1, p2, -, -, -⟩ := K0.out.1.three
                  go_wp2_with fail
                  refine (HBT.out _ _ _ K0.out.2).mono ?_; rintro e w5 ⟨rfl, b5'⟩
                  rw [Q1.out]
                  have K1 : Hid (ObAt w5 w.heap.size 29 #[.int .i64 T, .int .i64 wn, .slice ad l.length c] ∧ Below w.heap.size w w5) := ⟨K0.out.1.keep b5', K0.out.2.trans (b5'.mono K0.out.2.size)⟩
                  clear b5' p0 p1 p2
                  obtain ⟨p0, p1, p2, -, -, -⟩ := K1.out.1.three
                  go_wp2_with fail
                  go_roundw
                  case rel => exact ⟨q + 1, by go_num, by omega, by omega, Lib.hid ⟨HO2.out, K1.out⟩⟩
                  case measure => simp [intOf]; omega
                have Q1 := Lib.hid g1
                rw [g1] at ho
                clear g1
                cases g2 : beatL l q k
                · have Q2 := Lib.hid g2
                  rw [g2] at ho
                  rw [if_neg (by simp [])] at ho
                  have HO2 : Hid (O = ((f3 (ringH l) T k j (T - (q + 1))).or (f2 (ringH l) T k (T - (j + 1)))).or (f1 (ringH l) T (T - (k + 1)))) := Lib.hid ho
                  clear ho
                  clear g2
                  go_wp2_with fail
                  refine (HBT.out _ _ _ H3.out.2).mono ?_; rintro e w4 ⟨rfl, b4'⟩
                  rw [Q0.out]
                  have K0 : Hid (ObAt w4 w.heap.size 29 #[.int .i64 T, .int .i64 wn, .slice ad l.length c] ∧ Below w.heap.size w w4) := ⟨H3.out.1.keep b4', H3.out.2.trans (b4'.mono H3.out.2.size)⟩
                  clear b4' p0 p1 p2
                  obtain ⟨p0, p1, p2, -, -, -⟩ := K0.out.1.three
                  go_wp2_with fail
                  refine (HBT.out _ _ _ K0.out.2).mono ?_; rintro e w5 ⟨rfl, b5'⟩
                  rw [Q1.out]
                  have K1 : Hid (ObAt w5 w.heap.size 29 #[.int .i64 T, .int .i64 wn, .slice ad l.length c] ∧ Below w.heap.size w w5) := ⟨K0.out.1.keep b5', K0.out.2.trans (b5'.mono K0.out.2.size)⟩
                  clear b5' p0 p1 p2
                  obtain ⟨p0, p1, p2, -, -, -⟩ := K1.out.1.three
                  go_wp2_with fail
                  refine (HBT.out _ _ _ K1.out.2).mono ?_; rintro e w6 ⟨rfl, b6'⟩
                  rw [Q2.out]
                  have K2 : Hid (ObAt w6 w.heap.size 29 #[.int .i64 T, .int .i64 wn, .slice ad l.length c] ∧ Below w.heap.size w w6) := ⟨K1.out.1.keep b6', K1.out.2.trans (b6'.mono K1.out.2.size)⟩
                  clear b6' p0 p1 p2
                  obtain ⟨p0, p1, p2, -, -, -⟩ := K2.out.1.three
                  go_wp2_with fail
                  go_roundw
                  case rel => exact ⟨q + 1, by go_num, by omega, by omega, Lib.hid ⟨HO2.out, K2.out⟩⟩
                  case measure => simp [intOf]; omega
                have Q2 := Lib.hid g2
                rw [g2] at ho
                clear g2
                rw [if_pos (show (true && (true && true)) = true from rfl)] at ho
                have HO2 : Hid (O = some (k, j, q)) := Lib.hid (by rw [ho]; rfl)
                clear ho
                go_wp2_with fail
                refine (HBT.out _ _ _ H3.out.2).mono ?_; rintro e w4 ⟨rfl, b4'⟩
                rw [Q0.out]
                have K0 : Hid (ObAt w4 w.heap.size 29 #[.int .i64 T, .int .i64 wn, .slice ad l.length c] ∧ Below w.heap.size w w4) := ⟨H3.out.1.keep b4', H3.out.2.trans (b4'.mono H3.out.2.size)⟩
                clear b4' p0 p1 p2
                obtain ⟨p0, p1, p2, -, -, -⟩ := K0.out.1.three
                go_wp2_with fail
                refine (HBT.out _ _ _ K0.out.2).mono ?_; rintro e w5 ⟨rfl, b5'⟩
                rw [Q1.out]
                have K1 : Hid (ObAt w5 w.heap.size 29 #[.int .i64 T, .int .i64 wn, .slice ad l.length c] ∧ Below w.heap.size w w5) := ⟨K0.out.1.keep b5', K0.out.2.trans (b5'.mono K0.out.2.size)⟩
                clear b5' p0 p1 p2
                obtain ⟨p0, p1, p2, -, -, -⟩ := K1.out.1.three
                go_wp2_with fail
                refine (HBT.out _ _ _ K1.out.2).mono ?_; rintro e w6 ⟨rfl, b6'⟩
                rw [Q2.out]
                have K2 : Hid (ObAt w6 w.heap.size 29 #[.int .i64 T, .int .i64 wn, .slice ad l.length c] ∧ Below w.heap.size w w6) := ⟨K1.out.1.keep b6', K1.out.2.trans (b6'.mono K1.out.2.size)⟩
                clear b6' p0 p1 p2
                obtain ⟨p0, p1, p2, -, -, -⟩ := K2.out.1.three
                go_wp2_with fail
                have hown := own_three w6 k j q
                have HW := Lib.hid (And.intro (owns_lower hown K2.out.2.size) (K2.out.2.alloc K2.out.2.size (.cells #[.int .i64 k, .int .i64 j, .int .i64 q] 3))); clear hown
                refine bodyPost_ret (v := .tuple #[.slice (some ⟨w6.heap.size, 0, none⟩) 3 3, .bool true]) (by simp [results, Try.results55, go_sem]) rfl ⟨_, by rw [HO2.out]; rfl, by rw [HO2.out]; exact HW.out.1, HW.out.2⟩
              · obtain rfl : q = T := by omega
                have ho := hH.out.1
                rw [Nat.sub_self] at ho
                have H3 : Hid (O = (f2 (ringH l) q k (q - (j + 1))).or (f1 (ringH l) q (q - (k + 1))) ∧ ObAt wr w.heap.size 29 #[.int .i64 q, .int .i64 wn, .slice ad l.length c] ∧ Below w.heap.size w wr) := ⟨ho, hH.out.2⟩
                clear ho hH
                go_wp2_with fail
                go_roundw
                case rel => exact ⟨j + 1, by go_num, by omega, by omega, H3⟩
                case measure => simp [intOf]; omega
          · obtain rfl : j = T := by omega
            have ho := hH.out.1
            rw [Nat.sub_self] at ho
            have H3 : Hid (O = f1 (ringH l) j (j - (k + 1)) ∧ ObAt wr w.heap.size 29 #[.int .i64 j, .int .i64 wn, .slice ad l.length c] ∧ Below w.heap.size w wr) := ⟨ho, hH.out.2⟩
            clear ho hH
            go_wp2_with fail
            go_roundw
            case rel => exact ⟨k + 1, by go_num, by omega, H3⟩
            case measure => simp [intOf]; omega
      · obtain rfl : k = T := by omega
        have ho := hH.out.1
        rw [Nat.sub_self] at ho
        have H3 : Hid (O = none ∧ Below w.heap.size w wr) := ⟨ho, hH.out.2.2⟩
        clear ho hH
        go_wp2_with fail
        refine bodyPost_ret (v := .tuple #[.slice none 0 0, .bool false]) (by simp [results, Try.results55, go_sem]) rfl ⟨_, by rw [H3.out.1]; rfl, by rw [H3.out.1]; exact owns_nil _ _ _, H3.out.2⟩

set_option maxHeartbeats 3200000 in
set_option maxRecDepth 100000 in
theorem specRing_any (t wn : Int) (l : List Rs) (ad : Option Addr) (c : Nat) (w : World) (hl : (l.length : Int) ≤ 1000000000000) (hlc : l.length ≤ c) (hr : Reads w ad (ress l)) :
    Calls Try.prog 54 #[.agg #[.int .i64 t, .int .i64 wn, .slice ad l.length c]] w fun e w' => RowR (ringL (ringO t wn l)) (ringO t wn l).isSome w e w' := by
  have HB0 := Lib.hid (Below.ofNew (w := w) (.cells #[.int .i64 t, .int .i64 wn, .slice ad l.length c] 29))
  have HA := Lib.hid (ObAt.new w 29 #[.int .i64 t, .int .i64 wn, .slice ad l.length c])
  have HG := Lib.hid (lgGood_any t wn l ad c _ hl hlc (hr.old HB0.out))
  have HR := Lib.hid hr; clear hr
  cases hg : goodL t wn l
  · have hv : ringO t wn l = none := by unfold ringO; rw [hg]; rfl
    rw [hg] at HG; rw [hv]; clear hg hv
    go_enter Try.func54, Try.ntmps54
    go_wp2_with fail
    refine HG.out.mono ?_; rintro e w1 ⟨rfl, b1⟩
    have HB1 := Lib.hid (HB0.out.trans (b1.mono HB0.out.size)); clear b1
    go_wp2_with fail
    refine bodyPost_ret (v := .tuple #[.slice none 0 0, .bool false]) (by simp [results, Try.results54, go_sem]) rfl ⟨_, rfl, owns_nil _ _ _, HB1.out⟩
  · obtain ⟨t2, t8, -, -, -⟩ := goodL_bd hg
    obtain ⟨T, rfl⟩ : ∃ T : Nat, t = T := ⟨t.toNat, by omega⟩
    have hv : ringO T wn l = f1 (ringH l) T T := by unfold ringO; rw [if_pos hg, Int.toNat_natCast]
    have HSF := Lib.hid (beatL_self hg)
    have HBT := Lib.hid (fun a b W (hb : Below w.heap.size w W) => lgBeat_any T wn l ad c a b W hl (HR.out.old hb))
    rw [hg] at HG; rw [hv]; clear hg hv
    generalize hO : f1 (ringH l) T T = O
    have hO2 : O = f1 (ringH l) T (T - 0) := by rw [← hO]; rfl
    have HO := Lib.hid hO2; clear hO hO2
    go_enter Try.func54, Try.ntmps54
    go_wp2_with fail
    refine HG.out.mono ?_; rintro e w1 ⟨rfl, b1⟩
    have H0 : Hid (ObAt w1 w.heap.size 29 #[.int .i64 T, .int .i64 wn, .slice ad l.length c] ∧ Below w.heap.size w w1) := ⟨HA.out.keep b1, HB0.out.trans (b1.mono HB0.out.size)⟩
    clear b1 HG HA HB0
    obtain ⟨p0, p1, p2, -, -, -⟩ := H0.out.1.three
    go_wp2_with fail
    clear p0 p1 p2
    go_loopw [4] (fun i wr => ∃ k : Nat, i = .int .i64 k ∧ k ≤ T ∧ Hid (O = f1 (ringH l) T (T - k) ∧ ObAt wr w.heap.size 29 #[.int .i64 T, .int .i64 wn, .slice ad l.length c] ∧ Below w.heap.size w wr)) (fun i _ => T - (intOf i).toNat)
    case atStart => exact ⟨0, rfl, Nat.zero_le _, HO.out, H0.out⟩
    case round =>
      clear H0 HO
      obtain ⟨k, rfl, hk, hH⟩ := hrel
      obtain ⟨p0, p1, p2, -, -, -⟩ := hH.out.2.1.three
      by_cases hlt : k < T
      · have b1 : (k : Int) < (T : Int) := by omega
        have ho := hH.out.1
        rw [f1_step _ hlt] at ho
        have H1 : Hid (O = (f2 (ringH l) T k (T - (k + 1))).or (f1 (ringH l) T (T - (k + 1))) ∧ ObAt wr w.heap.size 29 #[.int .i64 T, .int .i64 wn, .slice ad l.length c] ∧ Below w.heap.size w wr) := ⟨ho, hH.out.2⟩
        clear ho hH
        go_wp2_with fail
        clear p0 p1 p2
        go_loopw [5] (fun i wr => ∃ j : Nat, i = .int .i64 j ∧ k + 1 ≤ j ∧ j ≤ T ∧ Hid (O = (f2 (ringH l) T k (T - j)).or (f1 (ringH l) T (T - (k + 1))) ∧ ObAt wr w.heap.size 29 #[.int .i64 T, .int .i64 wn, .slice ad l.length c] ∧ Below w.heap.size w wr)) (fun i _ => T - (intOf i).toNat)
        case atStart => exact ⟨k + 1, by go_num, Nat.le_refl _, by omega, H1.out⟩
        case round =>
          clear H1
          obtain ⟨j, rfl, hj1, hj, hH⟩ := hrel
          obtain ⟨p0, p1, p2, -, -, -⟩ := hH.out.2.1.three
          by_cases hlj : j < T
          · have b2 : (j : Int) < (T : Int) := by omega
            have ho := hH.out.1
            rw [f2_step _ _ hlj] at ho
            have H2 : Hid (O = ((f3 (ringH l) T k j (T - (k + 1))).or (f2 (ringH l) T k (T - (j + 1)))).or (f1 (ringH l) T (T - (k + 1))) ∧ ObAt wr w.heap.size 29 #[.int .i64 T, .int .i64 wn, .slice ad l.length c] ∧ Below w.heap.size w wr) := ⟨ho, hH.out.2⟩
            clear ho hH
            go_wp2_with fail
            clear p0 p1 p2
            go_loopw [6] (fun i wr => ∃ q : Nat, i = .int .i64 q ∧ k + 1 ≤ q ∧ q ≤ T ∧ Hid (O = ((f3 (ringH l) T k j (T - q)).or (f2 (ringH l) T k (T - (j + 1)))).or (f1 (ringH l) T (T - (k + 1))) ∧ ObAt wr w.heap.size 29 #[.int .i64 T, .int .i64 wn, .slice ad l.length c] ∧ Below w.heap.size w wr)) (fun i _ => T - (intOf i).toNat)
            case atStart => exact ⟨k + 1, by go_num, Nat.le_refl _, by omega, H2.out⟩
            case round =>
              clear H2
              obtain ⟨q, rfl, hq1, hq, hH⟩ := hrel
              obtain ⟨p0, p1, p2, -, -, -⟩ := hH.out.2.1.three
              by_cases hlq : q < T
              · have b3 : (q : Int) < (T : Int) := by omega
                have ho := hH.out.1
                rw [f3_step _ _ _ hlq] at ho
                have hh : ringH l k j q = (beatL l k j && (beatL l j q && beatL l q k)) := rfl
                rw [hh] at ho
                have H3 : Hid (ObAt wr w.heap.size 29 #[.int .i64 T, .int .i64 wn, .slice ad l.length c] ∧ Below w.heap.size w wr) := hH.out.2
                clear hh hH
                by_cases e0 : j = q
                · have q0 : ((j : Int) != (q : Int)) = false := by simp [e0]
                  have hs := HSF.out (q : Int)
                  rw [show beatL l (j : Int) (q : Int) = false from by rw [e0]; exact hs] at ho
                  rw [if_neg (by simp [])] at ho
                  have HO2 : Hid (O = ((f3 (ringH l) T k j (T - (q + 1))).or (f2 (ringH l) T k (T - (j + 1)))).or (f1 (ringH l) T (T - (k + 1)))) := Lib.hid ho
                  clear ho
                  clear e0 hs
                  go_wp2_with fail
                  go_roundw
                  case rel => exact ⟨q + 1, by go_num, by omega, by omega, Lib.hid ⟨HO2.out, H3.out⟩⟩
                  case measure => simp [intOf]; omega
                have q0 : ((j : Int) != (q : Int)) = true := by rw [bne_iff_ne]; intro h; exact e0 (by omega)
                clear e0
                cases g0 : beatL l k j
                · have Q0 := Lib.hid g0
                  rw [g0] at ho
                  rw [if_neg (by simp [])] at ho
                  have HO2 : Hid (O = ((f3 (ringH l) T k j (T - (q + 1))).or (f2 (ringH l) T k (T - (j + 1)))).or (f1 (ringH l) T (T - (k + 1)))) := Lib.hid ho
                  clear ho
                  clear g0
                  go_wp2_with fail
                  refine (HBT.out _ _ _ H3.out.2).mono ?_; rintro e w4 ⟨rfl, b4'⟩
                  rw [Q0.out]
                  have K0 : Hid (ObAt w4 w.heap.size 29 #[.int .i64 T, .int .i64 wn, .slice ad l.length c] ∧ Below w.heap.size w w4) := ⟨H3.out.1.keep b4', H3.out.2.trans (b4'.mono H3.out.2.size)⟩
                  clear b4' p0 p1 p2
                  obtain ⟨p0, p1, p2, -, -, -⟩ := K0.out.1.three
                  go_wp2_with fail
                  go_roundw
                  case rel => exact ⟨q + 1, by go_num, by omega, by omega, Lib.hid ⟨HO2.out, K0.out⟩⟩
                  case measure => simp [intOf]; omega
                have Q0 := Lib.hid g0
                rw [g0] at ho
                clear g0
                cases g1 : beatL l j q
                · have Q1 := Lib.hid g1
                  rw [g1] at ho
                  rw [if_neg (by simp [])] at ho
                  have HO2 : Hid (O = ((f3 (ringH l) T k j (T - (q + 1))).or (f2 (ringH l) T k (T - (j + 1)))).or (f1 (ringH l) T (T - (k + 1)))) := Lib.hid ho
                  clear ho
                  clear g1
                  go_wp2_with fail
                  refine (HBT.out _ _ _ H3.out.2).mono ?_; rintro e w4 ⟨rfl, b4'⟩
                  rw [Q0.out]
                  have K0 : Hid (ObAt w4 w.heap.size 29 #[.int .i64 T, .int .i64 wn, .slice ad l.length c] ∧ Below w.heap.size w w4) := ⟨H3.out.1.keep b4', H3.out.2.trans (b4'.mono H3.out.2.size)⟩
                  clear b4' p0 p1 p2
                  obtain ⟨p0, p1, p2, -, -, -⟩ := K0.out.1.three
                  go_wp2_with fail
                  refine (HBT.out _ _ _ K0.out.2).mono ?_; rintro e w5 ⟨rfl, b5'⟩
                  rw [Q1.out]
                  have K1 : Hid (ObAt w5 w.heap.size 29 #[.int .i64 T, .int .i64 wn, .slice ad l.length c] ∧ Below w.heap.size w w5) := ⟨K0.out.1.keep b5', K0.out.2.trans (b5'.mono K0.out.2.size)⟩
                  clear b5' p0 p1 p2
                  obtain ⟨p0, p1, p2, -, -, -⟩ := K1.out.1.three
                  go_wp2_with fail
                  go_roundw
                  case rel => exact ⟨q + 1, by go_num, by omega, by omega, Lib.hid ⟨HO2.out, K1.out⟩⟩
                  case measure => simp [intOf]; omega
                have Q1 := Lib.hid g1
                rw [g1] at ho
                clear g1
                cases g2 : beatL l q k
                · have Q2 := Lib.hid g2
                  rw [g2] at ho
                  rw [if_neg (by simp [])] at ho
                  have HO2 : Hid (O = ((f3 (ringH l) T k j (T - (q + 1))).or (f2 (ringH l) T k (T - (j + 1)))).or (f1 (ringH l) T (T - (k + 1)))) := Lib.hid ho
                  clear ho
                  clear g2
                  go_wp2_with fail
                  refine (HBT.out _ _ _ H3.out.2).mono ?_; rintro e w4 ⟨rfl, b4'⟩
                  rw [Q0.out]
                  have K0 : Hid (ObAt w4 w.heap.size 29 #[.int .i64 T, .int .i64 wn, .slice ad l.length c] ∧ Below w.heap.size w w4) := ⟨H3.out.1.keep b4', H3.out.2.trans (b4'.mono H3.out.2.size)⟩
                  clear b4' p0 p1 p2
                  obtain ⟨p0, p1, p2, -, -, -⟩ := K0.out.1.three
                  go_wp2_with fail
                  refine (HBT.out _ _ _ K0.out.2).mono ?_; rintro e w5 ⟨rfl, b5'⟩
                  rw [Q1.out]
                  have K1 : Hid (ObAt w5 w.heap.size 29 #[.int .i64 T, .int .i64 wn, .slice ad l.length c] ∧ Below w.heap.size w w5) := ⟨K0.out.1.keep b5', K0.out.2.trans (b5'.mono K0.out.2.size)⟩
                  clear b5' p0 p1 p2
                  obtain ⟨p0, p1, p2, -, -, -⟩ := K1.out.1.three
                  go_wp2_with fail
                  refine (HBT.out _ _ _ K1.out.2).mono ?_; rintro e w6 ⟨rfl, b6'⟩
                  rw [Q2.out]
                  have K2 : Hid (ObAt w6 w.heap.size 29 #[.int .i64 T, .int .i64 wn, .slice ad l.length c] ∧ Below w.heap.size w w6) := ⟨K1.out.1.keep b6', K1.out.2.trans (b6'.mono K1.out.2.size)⟩
                  clear b6' p0 p1 p2
                  obtain ⟨p0, p1, p2, -, -, -⟩ := K2.out.1.three
                  go_wp2_with fail
                  go_roundw
                  case rel => exact ⟨q + 1, by go_num, by omega, by omega, Lib.hid ⟨HO2.out, K2.out⟩⟩
                  case measure => simp [intOf]; omega
                have Q2 := Lib.hid g2
                rw [g2] at ho
                clear g2
                rw [if_pos (show (true && (true && true)) = true from rfl)] at ho
                have HO2 : Hid (O = some (k, j, q)) := Lib.hid (by rw [ho]; rfl)
                clear ho
                go_wp2_with fail
                refine (HBT.out _ _ _ H3.out.2).mono ?_; rintro e w4 ⟨rfl, b4'⟩
                rw [Q0.out]
                have K0 : Hid (ObAt w4 w.heap.size 29 #[.int .i64 T, .int .i64 wn, .slice ad l.length c] ∧ Below w.heap.size w w4) := ⟨H3.out.1.keep b4', H3.out.2.trans (b4'.mono H3.out.2.size)⟩
                clear b4' p0 p1 p2
                obtain ⟨p0, p1, p2, -, -, -⟩ := K0.out.1.three
                go_wp2_with fail
                refine (HBT.out _ _ _ K0.out.2).mono ?_; rintro e w5 ⟨rfl, b5'⟩
                rw [Q1.out]
                have K1 : Hid (ObAt w5 w.heap.size 29 #[.int .i64 T, .int .i64 wn, .slice ad l.length c] ∧ Below w.heap.size w w5) := ⟨K0.out.1.keep b5', K0.out.2.trans (b5'.mono K0.out.2.size)⟩
                clear b5' p0 p1 p2
                obtain ⟨p0, p1, p2, -, -, -⟩ := K1.out.1.three
                go_wp2_with fail
                refine (HBT.out _ _ _ K1.out.2).mono ?_; rintro e w6 ⟨rfl, b6'⟩
                rw [Q2.out]
                have K2 : Hid (ObAt w6 w.heap.size 29 #[.int .i64 T, .int .i64 wn, .slice ad l.length c] ∧ Below w.heap.size w w6) := ⟨K1.out.1.keep b6', K1.out.2.trans (b6'.mono K1.out.2.size)⟩
                clear b6' p0 p1 p2
                obtain ⟨p0, p1, p2, -, -, -⟩ := K2.out.1.three
                go_wp2_with fail
                have hown := own_three w6 k j q
                have HW := Lib.hid (And.intro (owns_lower hown K2.out.2.size) (K2.out.2.alloc K2.out.2.size (.cells #[.int .i64 k, .int .i64 j, .int .i64 q] 3))); clear hown
                refine bodyPost_ret (v := .tuple #[.slice (some ⟨w6.heap.size, 0, none⟩) 3 3, .bool true]) (by simp [results, Try.results54, go_sem]) rfl ⟨_, by rw [HO2.out]; rfl, by rw [HO2.out]; exact HW.out.1, HW.out.2⟩
              · obtain rfl : q = T := by omega
                have ho := hH.out.1
                rw [Nat.sub_self] at ho
                have H3 : Hid (O = (f2 (ringH l) q k (q - (j + 1))).or (f1 (ringH l) q (q - (k + 1))) ∧ ObAt wr w.heap.size 29 #[.int .i64 q, .int .i64 wn, .slice ad l.length c] ∧ Below w.heap.size w wr) := ⟨ho, hH.out.2⟩
                clear ho hH
                go_wp2_with fail
                go_roundw
                case rel => exact ⟨j + 1, by go_num, by omega, by omega, H3⟩
                case measure => simp [intOf]; omega
          · obtain rfl : j = T := by omega
            have ho := hH.out.1
            rw [Nat.sub_self] at ho
            have H3 : Hid (O = f1 (ringH l) j (j - (k + 1)) ∧ ObAt wr w.heap.size 29 #[.int .i64 j, .int .i64 wn, .slice ad l.length c] ∧ Below w.heap.size w wr) := ⟨ho, hH.out.2⟩
            clear ho hH
            go_wp2_with fail
            go_roundw
            case rel => exact ⟨k + 1, by go_num, by omega, H3⟩
            case measure => simp [intOf]; omega
      · obtain rfl : k = T := by omega
        have ho := hH.out.1
        rw [Nat.sub_self] at ho
        have H3 : Hid (O = none ∧ Below w.heap.size w wr) := ⟨ho, hH.out.2.2⟩
        clear ho hH
        go_wp2_with fail
        refine bodyPost_ret (v := .tuple #[.slice none 0 0, .bool false]) (by simp [results, Try.results54, go_sem]) rfl ⟨_, by rw [H3.out.1]; rfl, by rw [H3.out.1]; exact owns_nil _ _ _, H3.out.2⟩
end Go.Proofs.Ytpfphjfpaoiicaa
