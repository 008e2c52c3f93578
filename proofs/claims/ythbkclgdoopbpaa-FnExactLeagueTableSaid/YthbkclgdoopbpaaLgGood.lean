/-
  Leagues: IsLeague: the model's.
-/
import Derived.Test.YthbkclgdoopbpaaLgIs
namespace Go.Proofs.Ythbkclgdoopbpaa
open Go.RowKit
set_option linter.unusedVariables false
set_option linter.unusedSimpArgs false

set_option maxHeartbeats 3200000 in
set_option maxRecDepth 100000 in
theorem lgGood_any (t wn : Int) (l : List Rs) (ad : Option Addr) (c : Nat) (w : World) (hl : (l.length : Int) ≤ 1000000000000) (hlc : l.length ≤ c) (hr : Reads w ad (ress l)) :
    Calls Try.prog 47 #[.agg #[.int .i64 t, .int .i64 wn, .slice ad l.length c]] w fun e w' => e = .returned (.bool (goodL t wn l)) ∧ Below w.heap.size w w' := by
  cases h0 : inR t 2 8
  · rw [goodL_head (by simp [headL, h0])]
    have H0 := Lib.hid h0; clear h0 hr
    go_enter Try.func47, Try.ntmps47
    go_wp2_with fail
    refine (l1In_any _ _ _ _).mono ?_; rintro e w1 ⟨rfl, rfl⟩
    rw [H0.out]
    go_wp2_with fail
    go_ret
    exact ⟨rfl, by (repeat (first | exact Below.refl _ _ | exact ‹Below _ _ _› | refine Below.drew ?_ | refine Below.alloc ?_ (by first | omega | (simp; done) | (simp; omega)) _ | refine Below.setCell ?_ (by first | omega | (simp; done) | (simp; omega)) _ | refine Below.trans ?_ (Below.mono ‹Below _ _ _› (by first | omega | (simp; done) | (simp; omega)))))⟩
  have H0 := Lib.hid h0
  cases h1 : inR wn 2 3
  · rw [goodL_head (by simp [headL, h1])]
    have H1 := Lib.hid h1; clear h1 hr h0
    go_enter Try.func47, Try.ntmps47
    go_wp2_with fail
    refine (l1In_any _ _ _ _).mono ?_; rintro e w1 ⟨rfl, rfl⟩
    rw [H0.out]
    go_wp2_with fail
    refine (l1In_any _ _ _ _).mono ?_; rintro e w2 ⟨rfl, rfl⟩
    rw [H1.out]
    go_wp2_with fail
    go_ret
    exact ⟨rfl, by (repeat (first | exact Below.refl _ _ | exact ‹Below _ _ _› | refine Below.drew ?_ | refine Below.alloc ?_ (by first | omega | (simp; done) | (simp; omega)) _ | refine Below.setCell ?_ (by first | omega | (simp; done) | (simp; omega)) _ | refine Below.trans ?_ (Below.mono ‹Below _ _ _› (by first | omega | (simp; done) | (simp; omega)))))⟩
  have H1 := Lib.hid h1
  by_cases h5 : 56 < (l.length : Int)
  · rw [goodL_head (by simp [headL]; omega)]
    clear h0 h1 hr
    go_enter Try.func47, Try.ntmps47
    go_wp2_with fail
    refine (l1In_any _ _ _ _).mono ?_; rintro e w1 ⟨rfl, rfl⟩
    rw [H0.out]
    go_wp2_with fail
    refine (l1In_any _ _ _ _).mono ?_; rintro e w2 ⟨rfl, rfl⟩
    rw [H1.out]
    go_wp2_with fail
    go_ret
    exact ⟨rfl, by (repeat (first | exact Below.refl _ _ | exact ‹Below _ _ _› | refine Below.drew ?_ | refine Below.alloc ?_ (by first | omega | (simp; done) | (simp; omega)) _ | refine Below.setCell ?_ (by first | omega | (simp; done) | (simp; omega)) _ | refine Below.trans ?_ (Below.mono ‹Below _ _ _› (by first | omega | (simp; done) | (simp; omega)))))⟩
  have hh : headL t wn l.length = true := by simp only [headL, h0, h1]; simp; omega
  have ht : 2 ≤ t ∧ t ≤ 8 := by simpa [inR] using h0
  clear h0 h1
  have HH := Lib.hid hh; clear hh
  have HR := Lib.hid hr; clear hr
  have HB0 := Lib.hid (Below.ofNew (w := w) (.cells #[.int .i64 t, .int .i64 wn, .slice ad l.length c] 40))
  have HA := Lib.hid (ObAt.new w 40 #[.int .i64 t, .int .i64 wn, .slice ad l.length c])
  go_enter Try.func47, Try.ntmps47
  go_wp2_with fail
  refine (l1In_any _ _ _ _).mono ?_; rintro e w1 ⟨rfl, rfl⟩
  rw [H0.out]
  go_wp2_with fail
  refine (l1In_any _ _ _ _).mono ?_; rintro e w2 ⟨rfl, rfl⟩
  rw [H1.out]
  go_wp2_with fail
  go_loopw [26] (fun i wr => ∃ k : Nat, i = .int .i64 k ∧ k ≤ l.length ∧ Hid (okTo t l k = true ∧ ObAt wr w.heap.size 40 #[.int .i64 t, .int .i64 wn, .slice ad l.length c] ∧ Below w.heap.size w wr)) (fun i _ => l.length - (intOf i).toNat)
  case atStart => exact ⟨0, rfl, Nat.zero_le _, rfl, HA.out, HB0.out⟩
  case round =>
    clear HA HB0
    obtain ⟨k, rfl, hk, hH⟩ := hrel
    by_cases hlt : k < l.length
    · have b1 : (k : Int) < (l.length : Int) := by omega
      obtain ⟨b, off, ha, _, hc⟩ := rcells_of_reads (HR.out.old hH.out.2.2) (by omega)
      subst ha
      obtain ⟨c0, c1, c2, c3⟩ := hc k hlt
      clear hc
      have hkc : k ≤ c := by omega
      have hok := okTo_succ t l k
      rw [hH.out.1, Bool.true_and] at hok
      have hat : okAt t l k = (goodR t (l.getD k zR) && !hasG (l.take k) (l.getD k zR).1 (l.getD k zR).2.1) := rfl
      rw [hat] at hok
      have hno := fun e => goodL_not (t := t) (wn := wn) hlt (hat.trans e)
      have HO := Lib.hid (And.intro hok hno); clear hok hno hat
      generalize l.getD k zR = r at *
      obtain ⟨x, y, z, u⟩ := r
      simp only at c0 c1 c2 c3
      have hA := hH.out.2.1
      have hg := hA.lt
      obtain ⟨p0, p1, p2, -, -, -⟩ := hA.three
      have HS0 : Hid (IsS w w.heap.size wr.heap.size t wn (.slice (some ⟨b, off, none⟩) l.length c) x y z u (wr.alloc (.cells #[.int .i64 x, .int .i64 y, .int .i64 z, .int .i64 u] 101))) := ⟨(hA.old _), (ObAt.new _ _ _), (hH.out.2.2.alloc hH.out.2.2.size _)⟩
      clear hA
      go_wp2_with fail
      refine (lgResult_any x y z u t ht _).mono ?_; rintro e w3 ⟨rfl, b3⟩
      have HS3 := Lib.hid (HS0.out.keep b3); clear b3 HS0 p0 p1 p2 c0 c1 c2 c3
      cases hq : goodR t (x, y, z, u)
      · have HF : Hid (goodL t wn l = false) := HO.out.2 (by rw [hq]; rfl)
        clear hq
        go_wp2_with fail
        go_ret
        exact ⟨ret_bool HF.out.symm, HS3.out.2.2⟩
      · have HQ := Lib.hid hq; clear hq
        obtain ⟨p0, p1, p2, -, -, -⟩ := HS3.out.1.three
        clear hH
        generalize hgr : wr.heap.size = gr at *
        have HGR := Lib.hid hgr; clear hgr
        go_wp2_with fail
        go_loopw [41] (fun i wr => ∃ j : Nat, i = .int .i64 j ∧ j ≤ k ∧ Hid (hasG (l.take j) x y = false ∧ IsS w w.heap.size gr t wn (.slice (some ⟨b, off, none⟩) l.length c) x y z u wr)) (fun i _ => k - (intOf i).toNat)
        case atStart => exact ⟨0, rfl, Nat.zero_le _, rfl, HS3.out⟩
        case round =>
          clear p0 p1 p2
          obtain ⟨j, rfl, hj, hJ⟩ := hrel
          by_cases hjk : j < k
          · have b2 : (j : Int) < (k : Int) := by omega
            obtain ⟨b', off', ha', _, hc'⟩ := rcells_of_reads (HR.out.old hJ.out.2.2.2) (by omega)
            simp only [Option.some.injEq, Addr.mk.injEq] at ha'
            obtain ⟨rfl, rfl, -⟩ := ha'
            obtain ⟨d0, d1, d2, d3⟩ := hc' j (by omega)
            clear hc'
            have hs := hasG_snoc l j (by omega) x y
            rw [hJ.out.1, Bool.false_or] at hs
            have hit := fun e => hasG_hit (l := l) (k := j) (n := k) (by omega) hjk (h := x) (a := y) e
            have HT := Lib.hid (And.intro hs hit); clear hs hit
            generalize l.getD j zR = q at *
            obtain ⟨x', y', z', u'⟩ := q
            simp only at d0 d1 d2 d3
            have hsz : gr < wr.heap.size := hJ.out.2.2.1.lt
            have HS4 : Hid (IsS w w.heap.size gr t wn (.slice (some ⟨b, off, none⟩) l.length c) x y z u (wr.alloc (.cells #[.int .i64 x', .int .i64 y', .int .i64 z', .int .i64 u'] 101))) := ⟨hJ.out.2.1.old _, hJ.out.2.2.1.old _, hJ.out.2.2.2.alloc hJ.out.2.2.2.size _⟩
            obtain ⟨r0, r1, r2, r3, -, -, -, -⟩ := hJ.out.2.2.1.four
            have hp : pairR (x', y', z', u') x y = (decide (x' = x) && decide (y' = y)) := rfl
            by_cases e1 : x' = x
            · by_cases e2 : y' = y
              · have q1 : (x' == x) = true := by simp [e1]
                have q2 : (y' == y) = true := by simp [e2]
                have HF : Hid (goodL t wn l = false) := HO.out.2 (by rw [HQ.out, HT.out.2 (by rw [hp]; simp [e1, e2])]; rfl)
                clear e1 e2 hp
                go_wp2_with fail
                go_ret
                exact ⟨ret_bool HF.out.symm, HS4.out.2.2⟩
              · have q1 : (x' == x) = true := by simp [e1]
                have q2 : (y' == y) = false := by simp [e2]
                have HN : Hid (hasG (l.take (j + 1)) x y = false) := Lib.hid (by have h := HT.out.1; rw [hp] at h; simpa [e1, e2] using h)
                clear e1 e2 hp
                go_wp2_with fail
                go_roundw
                case rel => exact ⟨j + 1, by go_num, by omega, Lib.hid ⟨HN.out, HS4.out⟩⟩
                case measure => simp [intOf]; omega
            · have q1 : (x' == x) = false := by simp [e1]
              have HN : Hid (hasG (l.take (j + 1)) x y = false) := Lib.hid (by have h := HT.out.1; rw [hp] at h; simpa [e1] using h)
              clear e1 hp
              go_wp2_with fail
              go_roundw
              case rel => exact ⟨j + 1, by go_num, by omega, Lib.hid ⟨HN.out, HS4.out⟩⟩
              case measure => simp [intOf]; omega
          · obtain rfl : j = k := by omega
            have HN : Hid (okTo t l (j + 1) = true) := by have h := HO.out.1; rw [HQ.out, hJ.out.1] at h; exact h
            go_wp2_with fail
            go_roundw
            case rel => exact ⟨j + 1, by go_num, by omega, Lib.hid ⟨HN.out, hJ.out.2.1, hJ.out.2.2.2⟩⟩
            case measure => simp [intOf]; omega
    · obtain rfl : k = l.length := by omega
      have hn : goodL t wn l = true := goodL_of HH.out hH.out.1
      have HN := Lib.hid hn; clear hn
      go_wp2
      go_ret
      exact ⟨ret_bool HN.out.symm, hH.out.2.2⟩
end Go.Proofs.Ythbkclgdoopbpaa
