/-
  Pins: the model counts the last frames.
-/
import Derived.Test.YthbkclgdoopbpaaPtAdd
namespace Go.Proofs.Ythbkclgdoopbpaa
open Go.RowKit
set_option linter.unusedVariables false
set_option linter.unusedSimpArgs false

theorem cellL_len (a b : Nat) : (cellL a b).length ≤ 11 := by
  unfold cellL
  split
  · simp
  · split
    · rw [List.length_map, List.length_range]; omega
    · rw [List.length_map, List.length_range]; omega
theorem flatL_len {f : Nat → List (List Nat)} {B : Nat} (h : ∀ i, (f i).length ≤ B) : ∀ n, ((List.range n).flatMap f).length ≤ n * B
  | 0 => by simp
  | n + 1 => by
    have h1 := flatL_len h n
    have h2 := h n
    rw [List.range_succ, List.flatMap_append, List.length_append, Nat.succ_mul]
    simp only [List.flatMap_cons, List.flatMap_nil, List.append_nil]; omega
theorem rowLa_len (a : Nat) : (rowLa a).length ≤ 121 := by
  unfold rowLa
  have h1 := flatL_len (cellL_len a) (if a = 10 then 11 else 11 - a)
  have h2 : (if a = 10 then 11 else 11 - a) * 11 ≤ 11 * 11 := Nat.mul_le_mul_right _ (by split <;> omega)
  omega
def LA (a : Nat) : List (List Nat) := (List.range a).flatMap rowLa
def LB (a b : Nat) : List (List Nat) := LA a ++ (List.range b).flatMap (cellL a)
def LC (a b c : Nat) : List (List Nat) := LB a b ++ (List.range c).map fun c => [a, b, c]
theorem LA_end : LA 11 = frL := rfl
theorem LB_zero (a : Nat) : LB a 0 = LA a := by simp [LB]
theorem LB_end {a r : Nat} (h : r = if a = 10 then 10 else 10 - a) (ha : a ≤ 10) : LB a (r + 1) = LA (a + 1) := by
  have e : rowLa a = (List.range (r + 1)).flatMap (cellL a) := by
    unfold rowLa
    rw [show (if a = 10 then 11 else 11 - a) = r + 1 by rw [h]; split <;> omega]
  have e2 : LA (a + 1) = LA a ++ rowLa a := by
    unfold LA; rw [List.range_succ, List.flatMap_append]; simp
  rw [e2, e]; rfl
theorem LB_succ (a b : Nat) : LB a (b + 1) = LB a b ++ cellL a b := by
  unfold LB; rw [List.range_succ, List.flatMap_append]; simp
theorem LC_zero (a b : Nat) : LC a b 0 = LB a b := by simp [LC]
theorem LC_succ (a b c : Nat) : LC a b (c + 1) = LC a b c ++ [[a, b, c]] := by unfold LC; rw [List.range_succ, List.map_append]; simp
theorem LA_len {a : Nat} (h : a ≤ 10) : (LA a).length ≤ 1210 := by
  have h1 := flatL_len rowLa_len a
  have h2 : a * 121 ≤ 10 * 121 := Nat.mul_le_mul_right _ h
  unfold LA; omega
theorem LB_len {a b : Nat} (h : a ≤ 10) (hb : b ≤ 10) : (LB a b).length ≤ 1320 := by
  have h1 := flatL_len (cellL_len a) b
  have h2 : b * 11 ≤ 10 * 11 := Nat.mul_le_mul_right _ hb
  have := LA_len h
  unfold LB; rw [List.length_append]; omega
theorem LC_len {a b c : Nat} (h : a ≤ 10) (hb : b ≤ 10) (hc : c ≤ 10) : (LC a b c).length ≤ 1330 := by
  have := LB_len h hb
  unfold LC; rw [List.length_append]; simp; omega
theorem last_one (s : Nat) (L : List (List Nat)) (f : List Nat) (n : Nat) : sumT (tl 0) s (L ++ [f]) n = sumT (tl 0) s L n + (if n = ptsF s f then 1 else 0) := by
  rw [sumT_app, sumT_one]
  unfold partT
  by_cases h : n = ptsF s f
  · subst h
    rw [if_pos (Nat.le_refl _), if_pos rfl]
    simp [tl]
  · rw [if_neg h]
    by_cases h2 : ptsF s f ≤ n
    · rw [if_pos h2]; simp [tl]; omega
    · rw [if_neg h2]
def LsW (g s : Nat) (w : World) (L : List (List Nat)) (wr : World) : Prop := RowAt wr g 3 (rowN301 (sumT (tl 0) s L)) ∧ OnlyG g w wr
/-- One frame more. -/
theorem LsW.bump {g s P : Nat} {w wr : World} {L : List (List Nat)} (h : LsW g s w L wr) (f : List Nat) (hL : L.length ≤ 2000) (hP : P = ptsF s f) (hp : P < 301) :
    ∃ A : Nat, wr.cell? ⟨g, P, none⟩ = some (.int .i64 (A : Int)) ∧ wr.frozen? ⟨g, P, none⟩ = false ∧ IntKind.i64.wrap ((A : Int) + 1) = (A : Int) + 1 ∧ LsW g s w (L ++ [f]) (wr.setCell ⟨g, P, none⟩ (.int .i64 ((A : Int) + 1))) := by
  have hbd := sum_part (T := tl 0) (B := 1) (s := s) (n := P) (fun s n => by unfold tl; split <;> omega) L
  refine ⟨sumT (tl 0) s L P, ?_, h.1.free P, by rw [IntKind.wrap_i64]; omega, ?_, h.2.trans (OnlyG.one g P wr _)⟩
  · have := h.1.cell (j := P) (by rw [rowN301_len]; exact hp)
    rw [rowN301_get _ hp] at this; exact this
  · have := h.1.put (j := P) (by rw [rowN301_len]; exact hp) (((sumT (tl 0) s L P : Nat) : Int) + 1)
    rw [rowN301_set (G := sumT (tl 0) s (L ++ [f])) hp (by rw [last_one, if_pos hP]; push_cast; rfl) (fun i hi hne => by rw [last_one, if_neg (by omega)]; rfl)] at this
    exact this
/-- The numbers on the way to a place. -/
theorem place (s a b c : Nat) (ha : a ≤ 10) (hb : b ≤ 10) (hc : c ≤ 10) : ∃ A B C P : Nat, P = ptsF s [a, b, c] ∧ P < 301 ∧ IntKind.i64.wrap ((a : Int) * (oneT s : Int)) = (A : Int) ∧ IntKind.i64.wrap ((b : Int) * (twoT s : Int)) = (B : Int) ∧ IntKind.i64.wrap ((A : Int) + (B : Int)) = (C : Int) ∧ IntKind.i64.wrap ((C : Int) + (c : Int)) = (P : Int) ∧ (c = 0 → C = P) := by
  obtain ⟨s1, s2, s3, s4, -⟩ := st_bd s
  have e1 : a * oneT s ≤ 10 * 3 := Nat.mul_le_mul ha s2
  have e2 : b * twoT s ≤ 10 * 2 := Nat.mul_le_mul hb s4
  have q1 : ((a * oneT s : Nat) : Int) = (a : Int) * (oneT s : Int) := by push_cast; rfl
  have q2 : ((b * twoT s : Nat) : Int) = (b : Int) * (twoT s : Int) := by push_cast; rfl
  refine ⟨a * oneT s, b * twoT s, a * oneT s + b * twoT s, a * oneT s + b * twoT s + c, rfl, by omega, ?_, ?_, ?_, ?_, by omega⟩
  all_goals rw [IntKind.wrap_i64]; omega
theorem pts_two (s a b : Nat) : ptsF s [a, b] = ptsF s [a, b, 0] := rfl

set_option maxRecDepth 100000 in
set_option maxHeartbeats 6400000 in
theorem boLast_any (s g : Nat) (w : World) (h0 : RowAt w g 3 (rowN301 (sumT (tl 0) s []))) :
    Calls Try.prog 65 #[.slice (some ⟨g, 0, none⟩) 301 301, .int .i64 (oneT s), .int .i64 (twoT s)] w fun e w' => e = .returned (.tuple #[]) ∧ RowAt w' g 3 (rowN301 (tl 1 s)) ∧ OnlyG g w w' := by
  have H0 : Hid (LsW g s w (LA 0) w) := Lib.hid ⟨h0, OnlyG.refl _ _⟩
  clear h0
  have HPL := Lib.hid (place s)
  obtain ⟨s1, s2, s3, s4, -⟩ := st_bd s
  obtain ⟨o1, ho1⟩ : ∃ o1, o1 = oneT s := ⟨_, rfl⟩
  obtain ⟨o2, ho2⟩ : ∃ o2, o2 = twoT s := ⟨_, rfl⟩
  rw [← ho1] at HPL s1 s2 ⊢
  rw [← ho2] at HPL s3 s4 ⊢
  clear ho1 ho2
  go_enter Try.func65, Try.ntmps65
  go_wp2_with fail
  go_loopw [6] (fun i wr => ∃ a : Nat, i = .int .i64 a ∧ a ≤ 11 ∧ Hid (LsW g s w (LA a) wr)) (fun i _ => 11 - (intOf i).toNat)
  case atStart => exact ⟨0, rfl, Nat.zero_le _, H0⟩
  case round =>
    clear H0
    obtain ⟨a, rfl, ha, hH⟩ := hrel
    by_cases hlt : a ≤ 10
    · have b1 : (a : Int) ≤ 10 := by omega
      by_cases ha10 : a = 10
      · subst ha10
        have H1 : Hid (LsW g s w (LB 10 0) wr) := Lib.hid (by rw [LB_zero]; exact hH.out)
        clear hH
        go_wp2_with fail
        go_loopw [8] (fun i wr => ∃ b : Nat, i = .int .i64 b ∧ b ≤ 11 ∧ Hid (LsW g s w (LB 10 b) wr)) (fun i _ => 11 - (intOf i).toNat)
        case atStart => exact ⟨0, rfl, Nat.zero_le _, H1⟩
        case round =>
          clear H1
          obtain ⟨b, rfl, hb, hH⟩ := hrel
          by_cases hbl : b ≤ 10
          · have b2 : (b : Int) ≤ 10 := by omega
            have H2 : Hid (LsW g s w (LC 10 b 0) wr) := Lib.hid (by rw [LC_zero]; exact hH.out)
            clear hH
            by_cases hb9 : b < 10
            · have b3 : (b : Int) < 10 := by omega
              have hcell : Hid (LC 10 b (11 - b) = LB 10 (b + 1)) := Lib.hid (by
                rw [LB_succ]; unfold LC cellL; rw [if_neg (by omega), if_pos ⟨rfl, hb9⟩])
              have ew : IntKind.i64.wrap (10 - (b : Int)) = 10 - (b : Int) := by rw [IntKind.wrap_i64]; omega
              go_wp2_with fail
              go_loopw [9] (fun i wr => ∃ c : Nat, i = .int .i64 c ∧ c ≤ 11 - b ∧ Hid (LsW g s w (LC 10 b c) wr)) (fun i _ => 11 - (intOf i).toNat)
              case atStart => exact ⟨0, rfl, Nat.zero_le _, H2⟩
              case round =>
                clear H2
                obtain ⟨c, rfl, hc, hH⟩ := hrel
                by_cases hcl : c < 11 - b
                · have b4 : (c : Int) ≤ 10 - (b : Int) := by omega
                  obtain ⟨A, B, C, P, hP, hp, p1, p2, p3, p4, -⟩ := HPL.out 10 b c (by omega) hbl (by omega)
                  obtain ⟨X, x1, x2, x3, x4⟩ := hH.out.bump [10, b, c] (by have := LC_len (a := 10) (b := b) (c := c) (by omega) hbl (by omega); omega) hP hp
                  rw [← LC_succ] at x4
                  have H3 := Lib.hid x4; clear x4 hP hH
                  rw [show (((10 : Nat) : Int)) = 10 from rfl] at p1
                  have b5 : (P : Int) < 301 := by omega
                  go_wp2_with fail
                  go_roundw
                  case rel => exact ⟨c + 1, by go_num, by omega, H3⟩
                  case measure => simp [intOf]; omega
                · obtain rfl : c = 11 - b := by omega
                  rw [hcell.out] at hH
                  have e : (((11 - b : Nat) : Nat) : Int) = 11 - (b : Int) := by omega
                  rw [e]; clear e
                  go_wp2_with fail
                  go_roundw
                  case rel => exact ⟨b + 1, by go_num, by omega, hH⟩
                  case measure => simp [intOf]; omega
            · obtain rfl : b = 10 := by omega
              have hcell : Hid (LC 10 10 11 = LB 10 11) := Lib.hid (by
                rw [LB_succ]; unfold LC cellL; rw [if_neg (by omega), if_neg (by omega)])
              go_wp2_with fail
              go_loopw [10] (fun i wr => ∃ c : Nat, i = .int .i64 c ∧ c ≤ 11 ∧ Hid (LsW g s w (LC 10 10 c) wr)) (fun i _ => 11 - (intOf i).toNat)
              case atStart => exact ⟨0, rfl, Nat.zero_le _, H2⟩
              case round =>
                clear H2
                obtain ⟨c, rfl, hc, hH⟩ := hrel
                by_cases hcl : c ≤ 10
                · have b4 : (c : Int) ≤ 10 := by omega
                  obtain ⟨A, B, C, P, hP, hp, p1, p2, p3, p4, -⟩ := HPL.out 10 10 c (by omega) (by omega) (by omega)
                  obtain ⟨X, x1, x2, x3, x4⟩ := hH.out.bump [10, 10, c] (by have := LC_len (a := 10) (b := 10) (c := c) (by omega) (by omega) (by omega); omega) hP hp
                  rw [← LC_succ] at x4
                  have H3 := Lib.hid x4; clear x4 hP hH
                  rw [show (((10 : Nat) : Int)) = 10 from rfl] at p1 p2
                  have b5 : (P : Int) < 301 := by omega
                  go_wp2_with fail
                  go_roundw
                  case rel => exact ⟨c + 1, by go_num, by omega, H3⟩
                  case measure => simp [intOf]; omega
                · obtain rfl : c = 11 := by omega
                  rw [hcell.out] at hH
                  go_wp2_with fail
                  go_roundw
                  case rel => exact ⟨11, by go_num, by omega, hH⟩
                  case measure => simp [intOf]
          · obtain rfl : b = 11 := by omega
            have H2 : Hid (LsW g s w (LA 11) wr) := Lib.hid (by rw [← LB_end (a := 10) (r := 10) rfl (by omega)]; exact hH.out)
            clear hH
            go_wp2_with fail
            go_roundw
            case rel => exact ⟨11, by go_num, by omega, H2⟩
            case measure => simp [intOf]
      · have b0 : (a : Int) ≠ 10 := by omega
        have b9 : (a : Int) < 10 := by omega
        have ew : IntKind.i64.wrap (10 - (a : Int)) = 10 - (a : Int) := by rw [IntKind.wrap_i64]; omega
        have H1 : Hid (LsW g s w (LB a 0) wr) := Lib.hid (by rw [LB_zero]; exact hH.out)
        clear hH
        go_wp2_with fail
        go_loopw [8] (fun i wr => ∃ b : Nat, i = .int .i64 b ∧ b ≤ 11 - a ∧ Hid (LsW g s w (LB a b) wr)) (fun i _ => 11 - (intOf i).toNat)
        case atStart => exact ⟨0, rfl, Nat.zero_le _, H1⟩
        case round =>
          clear H1
          obtain ⟨b, rfl, hb, hH⟩ := hrel
          by_cases hbl : b ≤ 10 - a
          · have b2 : (b : Int) ≤ 10 - (a : Int) := by omega
            have ew2 : IntKind.i64.wrap ((a : Int) + (b : Int)) = (a : Int) + (b : Int) := by rw [IntKind.wrap_i64]; omega
            by_cases hb9 : a + b < 10
            · have b3 : (a : Int) + (b : Int) < 10 := by omega
              obtain ⟨A, B, C, P, hP, hp, p1, p2, p3, -, p5⟩ := HPL.out a b 0 hlt (by omega) (by omega)
              rw [p5 rfl] at p3
              obtain ⟨X, x1, x2, x3, x4⟩ := hH.out.bump [a, b] (by have := LB_len (a := a) (b := b) hlt (by omega); omega) hP hp
              rw [show LB a b ++ [[a, b]] = LB a (b + 1) by rw [LB_succ]; unfold cellL; rw [if_pos ⟨by omega, hb9⟩]] at x4
              have H3 := Lib.hid x4; clear x4 hP hH p5
              have b5 : (P : Int) < 301 := by omega
              go_wp2_with fail
              go_roundw
              case rel => exact ⟨b + 1, by go_num, by omega, H3⟩
              case measure => simp [intOf]; omega
            · have b3 : (a : Int) + (b : Int) = 10 := by omega
              have H2 : Hid (LsW g s w (LC a b 0) wr) := Lib.hid (by rw [LC_zero]; exact hH.out)
              clear hH
              have hcell : Hid (LC a b 11 = LB a (b + 1)) := Lib.hid (by
                rw [LB_succ]; unfold LC cellL; rw [if_neg (by omega), if_neg (by omega)])
              rw [b3] at ew2
              go_wp2_with fail
              go_loopw [10] (fun i wr => ∃ c : Nat, i = .int .i64 c ∧ c ≤ 11 ∧ Hid (LsW g s w (LC a b c) wr)) (fun i _ => 11 - (intOf i).toNat)
              case atStart => exact ⟨0, rfl, Nat.zero_le _, H2⟩
              case round =>
                clear H2
                obtain ⟨c, rfl, hc, hH⟩ := hrel
                by_cases hcl : c ≤ 10
                · have b4 : (c : Int) ≤ 10 := by omega
                  obtain ⟨A, B, C, P, hP, hp, p1, p2, p3, p4, -⟩ := HPL.out a b c hlt (by omega) (by omega)
                  obtain ⟨X, x1, x2, x3, x4⟩ := hH.out.bump [a, b, c] (by have := LC_len (a := a) (b := b) (c := c) hlt (by omega) (by omega); omega) hP hp
                  rw [← LC_succ] at x4
                  have H3 := Lib.hid x4; clear x4 hP hH
                  have b5 : (P : Int) < 301 := by omega
                  go_wp2_with fail
                  go_roundw
                  case rel => exact ⟨c + 1, by go_num, by omega, H3⟩
                  case measure => simp [intOf]; omega
                · obtain rfl : c = 11 := by omega
                  rw [hcell.out] at hH
                  go_wp2_with fail
                  go_roundw
                  case rel => exact ⟨b + 1, by go_num, by omega, hH⟩
                  case measure => simp [intOf]; omega
          · obtain rfl : b = 11 - a := by omega
            have H2 : Hid (LsW g s w (LA (a + 1)) wr) := Lib.hid (by rw [← LB_end (a := a) (r := 10 - a) (by rw [if_neg ha10]) hlt, show 10 - a + 1 = 11 - a by omega]; exact hH.out)
            clear hH
            have e : (((11 - a : Nat) : Nat) : Int) = 11 - (a : Int) := by omega
            rw [e]; clear e
            go_wp2_with fail
            go_roundw
            case rel => exact ⟨a + 1, by go_num, by omega, H2⟩
            case measure => simp [intOf]; omega
    · obtain rfl : a = 11 := by omega
      go_wp2_with fail
      refine bodyPost_end (v := .tuple #[]) (by simp [results, Try.results65, go_sem]) rfl ?_
      exact ⟨rfl, hH.out⟩
end Go.Proofs.Ythbkclgdoopbpaa
