/-
  Pins: the model counts the frames that are not the last.
-/
import Derived.Test.YthbkclgdoopbpaaPtLast
namespace Go.Proofs.Ythbkclgdoopbpaa
open Go.RowKit
set_option linter.unusedVariables false
set_option linter.unusedSimpArgs false

/-- Four rows of totals, one for each state. -/
def StAt (w : World) (h m : Nat) (r : Nat → Nat) : Prop := ∃ cur, w.heap[h]? = some (.cells cur 25 (0, 0)) ∧ ∀ s, s ≤ 3 → cur[s]? = some (.slice (some ⟨r s, 0, none⟩) 301 301) ∧ RowAt w (r s) 3 (rowN301 (tl m s))
theorem StAt.lt {w : World} {h m : Nat} {r : Nat → Nat} (hs : StAt w h m r) : h < w.heap.size := by obtain ⟨cur, hc, -⟩ := hs; exact (Array.getElem?_eq_some_iff.1 hc).1
theorem StAt.cell {w : World} {h m : Nat} {r : Nat → Nat} (hs : StAt w h m r) {s : Nat} (h3 : s ≤ 3) : w.cell? ⟨h, s, none⟩ = some (.slice (some ⟨r s, 0, none⟩) 301 301) := by
  obtain ⟨cur, hc, h2⟩ := hs
  rw [cell_of_row _ _ _ _ _ _ hc]; exact (h2 s h3).1
theorem StAt.row {w : World} {h m : Nat} {r : Nat → Nat} (hs : StAt w h m r) {s : Nat} (h3 : s ≤ 3) : RowAt w (r s) 3 (rowN301 (tl m s)) := by
  obtain ⟨cur, hc, h2⟩ := hs; exact (h2 s h3).2
theorem StAt.keep {w w' : World} {h m : Nat} {r : Nat → Nat} (hs : StAt w h m r) (hb : Below w.heap.size w w') : StAt w' h m r := by
  obtain ⟨cur, hc, h2⟩ := hs
  exact ⟨cur, by rw [hb.block h (Array.getElem?_eq_some_iff.1 hc).1]; exact hc, fun s h3 => ⟨(h2 s h3).1, (h2 s h3).2.keep hb⟩⟩
theorem StAt.only {w w' : World} {g h m : Nat} {r : Nat → Nat} (hs : StAt w h m r) (ho : OnlyG g w w') (hg : h ≠ g ∧ ∀ s, s ≤ 3 → r s ≠ g) : StAt w' h m r := by
  obtain ⟨cur, hc, h2⟩ := hs
  exact ⟨cur, by rw [ho.2.1 h hg.1]; exact hc, fun s h3 => ⟨(h2 s h3).1, (h2 s h3).2.only ho (hg.2 s h3)⟩⟩

def FA (a : Nat) : List (List Nat) := (List.range a).flatMap rowN
def FB (a b : Nat) : List (List Nat) := FA a ++ (List.range b).map fun b => [a, b]
theorem FA_end : FA 10 ++ [[10]] = frN := rfl
theorem FB_zero (a : Nat) : FB a 0 = FA a := by simp [FB]
theorem FB_succ (a b : Nat) : FB a (b + 1) = FB a b ++ [[a, b]] := by unfold FB; rw [List.range_succ, List.map_append]; simp
theorem FB_end (a : Nat) : FB a (11 - a) = FA (a + 1) := by
  have e2 : FA (a + 1) = FA a ++ rowN a := by
    unfold FA; rw [List.range_succ, List.flatMap_append]; simp
  rw [e2]; rfl
theorem FB_len0 : ∀ a : Fin 10, ∀ b : Fin 12, (b.val ≤ 11 - a.val) → (FB a.val b.val).length ≤ 65 := by decide +kernel
theorem FB_len {a b : Nat} (ha : a < 10) (hb : b ≤ 11 - a) : (FB a b).length ≤ 65 := FB_len0 ⟨a, ha⟩ ⟨b, by omega⟩ hb
theorem FA10_len : (FA 10).length ≤ 65 := by decide +kernel
def FrW (g s m : Nat) (w : World) (L : List (List Nat)) (wr : World) : Prop := RowAt wr g 3 (rowN301 (sumT (tl m) s L)) ∧ OnlyG g w wr
theorem sumT_addS (m s : Nat) (L : List (List Nat)) (f : List Nat) : addS (sumT (tl m) s L) (tl m (bhF s f)) (ptsF s f) = sumT (tl m) s (L ++ [f]) := by
  funext n; unfold addS; rw [sumT_app, sumT_one]; rfl
/-- A frame more: the call. -/
theorem FrW.add {g h s m : Nat} {r : Nat → Nat} {w wr : World} {L : List (List Nat)} (hw : FrW g s m w L wr) (hs : StAt w h m r) (hg : h ≠ g ∧ ∀ s, s ≤ 3 → r s ≠ g) (hm1 : 1 ≤ m) (hm : m ≤ 9) (f : List Nat) (hL : L.length ≤ 65) (hp : ptsF s f ≤ 1000) (P st : Nat) (hP : P = ptsF s f) (hst : st = bhF s f) :
    Calls Try.prog 63 #[.slice (some ⟨g, 0, none⟩) 301 301, .slice (some ⟨r st, 0, none⟩) 301 301, .int .i64 P] wr fun e w' => e = .returned (.tuple #[]) ∧ FrW g s m w (L ++ [f]) w' := by
  subst hP; subst hst
  have h3 := bhF_le s f
  have hlen : (frs m).length = 66 := by unfold frs; rw [if_neg (by omega)]; exact frN_len
  have hb : bigT (m + 1) ≤ 5800000000000000000 := bigT_le (by omega)
  have hb2 : bigT (m + 1) = 66 * bigT m := by show (frs m).length * bigT m = _; rw [hlen]
  have q : ∀ M : List (List Nat), M.length ≤ 66 → ∀ n, sumT (tl m) s M n ≤ 9000000000000000000 := by
    intro M hM n
    have h1 := sum_part (T := tl m) (B := bigT m) (s := s) (n := n) (fun s n => tl_big m s n) M
    have h2 : M.length * bigT m ≤ 66 * bigT m := Nat.mul_le_mul_right _ hM
    omega
  refine (boAdd_any (sumT (tl m) s L) (tl m (bhF s f)) (ptsF s f) g (r (bhF s f)) (Ne.symm (hg.2 _ h3)) hp (fun n => ⟨q L (by omega) n, ?_⟩) wr hw.1 ((hs.row h3).only hw.2 (hg.2 _ h3))).mono ?_
  · rw [sumT_addS]; exact q _ (by rw [List.length_append]; simp; omega) n
  · rintro e w' ⟨rfl, h1, h2⟩
    rw [sumT_addS] at h1
    exact ⟨rfl, h1, hw.2.trans h2⟩
theorem placeF (s a b : Nat) (ha : a ≤ 10) (hb : b ≤ 10) : ∃ A B P : Nat, P = ptsF s [a, b] ∧ P ≤ 50 ∧ IntKind.i64.wrap ((a : Int) * (oneT s : Int)) = (A : Int) ∧ IntKind.i64.wrap ((b : Int) * (twoT s : Int)) = (B : Int) ∧ IntKind.i64.wrap ((A : Int) + (B : Int)) = (P : Int) := by
  obtain ⟨s1, s2, s3, s4, -⟩ := st_bd s
  have e1 : a * oneT s ≤ 10 * 3 := Nat.mul_le_mul ha s2
  have e2 : b * twoT s ≤ 10 * 2 := Nat.mul_le_mul hb s4
  have q1 : ((a * oneT s : Nat) : Int) = (a : Int) * (oneT s : Int) := by push_cast; rfl
  have q2 : ((b * twoT s : Nat) : Int) = (b : Int) * (twoT s : Int) := by push_cast; rfl
  refine ⟨a * oneT s, b * twoT s, a * oneT s + b * twoT s, rfl, by omega, ?_, ?_, ?_⟩
  all_goals rw [IntKind.wrap_i64]; omega

set_option maxRecDepth 100000 in
set_option maxHeartbeats 6400000 in
theorem boFrame_any (s m g h c : Nat) (r : Nat → Nat) (hm1 : 1 ≤ m) (hm : m ≤ 9) (hg : h ≠ g ∧ ∀ s, s ≤ 3 → r s ≠ g) (w : World) (h0 : RowAt w g 3 (rowN301 (sumT (tl m) s []))) (hs : StAt w h m r) :
    Calls Try.prog 66 #[.slice (some ⟨g, 0, none⟩) 301 301, .slice (some ⟨h, 0, none⟩) 4 c, .int .i64 (oneT s), .int .i64 (twoT s)] w fun e w' => e = .returned (.tuple #[]) ∧ RowAt w' g 3 (rowN301 (tl (m + 1) s)) ∧ OnlyG g w w' := by
  have H0 : Hid (FrW g s m w (FA 0) w) := Lib.hid ⟨h0, OnlyG.refl _ _⟩
  have HS := Lib.hid hs
  have HADD := Lib.hid (fun (wr : World) (L : List (List Nat)) (hw : FrW g s m w L wr) => hw.add hs hg hm1 hm)
  have HST := Lib.hid (fun (wr : World) (L : List (List Nat)) (hw : FrW g s m w L wr) => hs.only hw.2 hg)
  have HEND : Hid (FA 10 ++ [[10]] = frs m) := Lib.hid (by unfold frs; rw [if_neg (by omega)]; rfl)
  clear h0 hs hg hm1
  have HPL := Lib.hid (placeF s)
  obtain ⟨s1, s2, s3, s4, -⟩ := st_bd s
  have hP10 : Hid (10 * oneT s = ptsF s [10] ∧ twoT s + 1 = bhF s [10]) := Lib.hid ⟨by simp [ptsF, Nat.mul_comm], by simp [bhF]⟩
  obtain ⟨o1, ho1⟩ : ∃ o1, o1 = oneT s := ⟨_, rfl⟩
  obtain ⟨o2, ho2⟩ : ∃ o2, o2 = twoT s := ⟨_, rfl⟩
  rw [← ho1] at HPL s1 s2 hP10 ⊢
  rw [← ho2] at HPL s3 s4 hP10 ⊢
  clear ho1 ho2
  have HBS := Lib.hid (fun W => boState_any 1 0 W (by omega) (by omega))
  have HBT := Lib.hid (fun W => boState_any o2 1 W (by omega) (by omega))
  rw [if_neg (by omega)] at HBT HBS
  go_enter Try.func66, Try.ntmps66
  go_wp2_with fail
  go_loopw [8] (fun i wr => ∃ a : Nat, i = .int .i64 a ∧ a ≤ 10 ∧ Hid (FrW g s m w (FA a) wr)) (fun i _ => 10 - (intOf i).toNat)
  case atStart => exact ⟨0, rfl, Nat.zero_le _, H0⟩
  case round =>
    clear H0
    obtain ⟨a, rfl, ha, hH⟩ := hrel
    by_cases hlt : a < 10
    · have b1 : (a : Int) < 10 := by omega
      have ew : IntKind.i64.wrap (10 - (a : Int)) = 10 - (a : Int) := by rw [IntKind.wrap_i64]; omega
      have H1 : Hid (FrW g s m w (FB a 0) wr) := Lib.hid (by rw [FB_zero]; exact hH.out)
      clear hH
      go_wp2_with fail
      go_loopw [9] (fun i wr => ∃ b : Nat, i = .int .i64 b ∧ b ≤ 11 - a ∧ Hid (FrW g s m w (FB a b) wr)) (fun i _ => 11 - (intOf i).toNat)
      case atStart => exact ⟨0, rfl, Nat.zero_le _, H1⟩
      case round =>
        clear H1
        obtain ⟨b, rfl, hb, hH⟩ := hrel
        by_cases hbl : b ≤ 10 - a
        · have b2 : (b : Int) ≤ 10 - (a : Int) := by omega
          have ew2 : IntKind.i64.wrap ((a : Int) + (b : Int)) = (a : Int) + (b : Int) := by rw [IntKind.wrap_i64]; omega
          obtain ⟨A, B, P, hP, hp, p1, p2, p3⟩ := HPL.out a b (by omega) (by omega)
          have hc := fun st hst => HADD.out _ _ hH.out [a, b] (FB_len hlt hb) (by omega) P st hP hst
          rw [← FB_succ] at hc
          have hst := HST.out _ _ hH.out
          by_cases hsum : a + b = 10
          · have hc := hc 1 (by unfold bhF; rw [if_neg (by simp), if_pos ⟨by simp; omega, by simp; omega⟩])
            have c1 := hst.cell (s := 1) (by omega)
            have HC := Lib.hid hc
            have b3 : (a : Int) + (b : Int) = 10 := by omega
            rw [b3] at ew2
            clear hc hst hH hP hsum
            go_wp2_with fail
            refine (HBS.out _).mono ?_; rintro e w2 ⟨rfl, rfl⟩
            go_wp2_with fail
            refine HC.out.mono ?_; rintro e w3 ⟨rfl, h3⟩
            have H3 := Lib.hid h3; clear h3
            go_wp2_with fail
            go_roundw
            case rel => exact ⟨b + 1, by go_num, by omega, H3⟩
            case measure => simp [intOf]; omega
          · have hc := hc 0 (by unfold bhF; rw [if_neg (by simp), if_neg (by simp; omega)])
            have c1 := hst.cell (s := 0) (by omega)
            have HC := Lib.hid hc
            have b3 : ¬ ((a : Int) + (b : Int) = 10) := by omega
            clear hc hst hH hP hsum
            go_wp2_with fail
            refine HC.out.mono ?_; rintro e w3 ⟨rfl, h3⟩
            have H3 := Lib.hid h3; clear h3
            go_wp2_with fail
            go_roundw
            case rel => exact ⟨b + 1, by go_num, by omega, H3⟩
            case measure => simp [intOf]; omega
        · obtain rfl : b = 11 - a := by omega
          have H2 : Hid (FrW g s m w (FA (a + 1)) wr) := Lib.hid (by rw [← FB_end]; exact hH.out)
          clear hH
          have e : (((11 - a : Nat) : Nat) : Int) = 11 - (a : Int) := by omega
          rw [e]; clear e
          go_wp2_with fail
          go_roundw
          case rel => exact ⟨a + 1, by go_num, by omega, H2⟩
          case measure => simp [intOf]; omega
    · obtain rfl : a = 10 := by omega
      have hc := HADD.out _ _ hH.out [10] FA10_len (by have := hP10.out.1; omega) (10 * o1) (o2 + 1) hP10.out.1 hP10.out.2
      rw [HEND.out] at hc
      have hst := HST.out _ _ hH.out
      have c1 := hst.cell (s := o2 + 1) (by omega)
      have ew : IntKind.i64.wrap (10 * (o1 : Int)) = 10 * (o1 : Int) := by rw [IntKind.wrap_i64]; omega
      rw [show (((10 * o1 : Nat) : Nat) : Int) = 10 * (o1 : Int) by push_cast; rfl] at hc
      have HC := Lib.hid hc; clear hc hst hH
      go_wp2_with fail
      refine (HBT.out _).mono ?_; rintro e w2 ⟨rfl, rfl⟩
      have b3 : ((o2 + 1 : Nat) : Int) < 4 := by omega
      go_wp2_with fail
      refine HC.out.mono ?_; rintro e w3 ⟨rfl, h3⟩
      have H3 := Lib.hid h3; clear h3
      go_wp2_with fail
      refine bodyPost_end (v := .tuple #[]) (by simp [results, Try.results66, go_sem]) rfl ?_
      exact ⟨rfl, H3.out⟩
end Go.Proofs.Ythbkclgdoopbpaa
