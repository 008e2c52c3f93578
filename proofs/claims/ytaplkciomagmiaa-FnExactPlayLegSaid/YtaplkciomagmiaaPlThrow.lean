/-
  The program's visits.
-/
import Derived.Test.YtaplkciomagmiaaPlVisit
namespace Go.Proofs.Ytaplkciomagmiaa
open Go.RowKit

set_option maxHeartbeats 800000 in
theorem dartScore_any (x y : Int) (w : World) (h1 : 1 ≤ x * y) (h2 : x * y ≤ 60) :
    Calls Try.prog 53 #[.agg #[.int .i64 x, .int .i64 y]] w fun e w' => e = .returned (.int .i64 (x * y)) ∧ Below w.heap.size w w' := by
  go_enter Try.func53, Try.ntmps53
  go_wp2
  go_ret
  refine ⟨rfl, ?_⟩
  (repeat (first | exact Below.refl _ _ | exact ‹Below _ _ _› | refine Below.drew ?_ | refine Below.alloc ?_ (by first | omega | (simp; done) | (simp; omega)) _ | refine Below.setCell ?_ (by first | omega | (simp; done) | (simp; omega)) _ | refine Below.trans ?_ (Below.mono ‹Below _ _ _› (by first | omega | (simp; done) | (simp; omega)))))

set_option maxHeartbeats 800000 in
theorem isDouble_any (x y : Int) (w : World) :
    Calls Try.prog 54 #[.agg #[.int .i64 x, .int .i64 y]] w fun e w' => e = .returned (.bool (y == 2)) ∧ Below w.heap.size w w' := by
  go_enter Try.func54, Try.ntmps54
  go_wp2
  go_ret
  refine ⟨rfl, ?_⟩
  (repeat (first | exact Below.refl _ _ | exact ‹Below _ _ _› | refine Below.drew ?_ | refine Below.alloc ?_ (by first | omega | (simp; done) | (simp; omega)) _ | refine Below.setCell ?_ (by first | omega | (simp; done) | (simp; omega)) _ | refine Below.trans ?_ (Below.mono ‹Below _ _ _› (by first | omega | (simp; done) | (simp; omega)))))

def throwR : Option (Int × Bool) → Value
  | some (n, b) => .tuple #[.int .i64 n, .bool b, .bool true]
  | none => .tuple #[.int .i64 0, .bool false, .bool false]

def askedB (left : Int) (l : List (Int × Int)) : Bool := inR left 1 1001 && listB l 1 3

set_option maxHeartbeats 1600000 in
theorem throw_yes (l : List (Int × Int)) (left : Int) (a : Option Addr) (c : Nat) (w : World) (h : Reads w a (darts l)) (hg : allGood l = true) (h1 : 1 ≤ left) (h2 : left ≤ 1001) (h3 : 1 ≤ (l.length : Int)) (h4 : (l.length : Int) ≤ 3) :
    Calls Try.prog 67 #[.int .i64 left, .slice a l.length c] w fun e w' => e = .returned (throwR (throwT left left l)) ∧ Below w.heap.size w w' := by
  have HR := Lib.hid h; clear h
  have HG := Lib.hid hg; clear hg
  go_enter Try.func67, Try.ntmps67
  go_wp2_with fail
  refine (areDarts_any l _ _ _ (by omega) HR.out).mono ?_; rintro r w1 ⟨rfl, bd1⟩
  rw [HG.out]
  go_wp2_with fail
  go_loopw [7, 36] (fun q i wr => ∃ (k : Nat) (now : Int), i = .int .i64 k ∧ q = .int .i64 now ∧ k ≤ l.length ∧ 0 ≤ now ∧ now ≤ 1001 ∧ throwT left now (l.drop k) = throwT left left l ∧ Below w.heap.size w wr) (fun _ i _ => l.length - (intOf i).toNat)
  case atStart => exact ⟨0, left, rfl, rfl, Nat.zero_le _, by omega, h2, rfl, bd1⟩
  case round =>
    obtain ⟨k, now, rfl, rfl, hk, n1, n2, ht, hbel⟩ := hrel
    have HT := Lib.hid ht; clear ht bd1
    by_cases hlt : k < l.length
    · obtain ⟨b, off, ha, _, hc⟩ := dcells_of_reads (HR.out.old hbel) (by omega)
      subst ha
      obtain ⟨c0, c1⟩ := hc k hlt
      have b1 : (k : Int) < (l.length : Int) := by omega
      clear hc
      obtain ⟨-, -, g3, g4, g5, g6⟩ := good_bd (allGood_get HG.out k hlt)
      have hd := drop_step hlt
      have HD := Lib.hid hd; clear hd
      have hn := drop_nil_iff hlt
      have HN := Lib.hid hn; clear hn
      generalize l.getD k (0, 0) = x at *
      obtain ⟨x1, x2⟩ := x
      simp only at c0 c1 g3 g4 g5 g6
      have zb := hbel.size
      go_wp2_with fail
      refine (dartScore_any x1 x2 _ g5 g6).mono ?_; rintro r w2 ⟨rfl, bd2⟩
      have HB2 := Lib.hid ((hbel.alloc zb _).trans (bd2.mono (by simp; omega)))
      have k0 := bd2.cell (p := ⟨wr.heap.size, 0, none⟩) (by simp)
      have k1 := bd2.cell (p := ⟨wr.heap.size, 1, none⟩) (by simp)
      have k0' : w2.cell? ⟨wr.heap.size, 0, none⟩ = some (.int .i64 x1) := by rw [k0, World.cell?_alloc_at _ _ _ _ rfl]; rfl
      have k1' : w2.cell? ⟨wr.heap.size, 1, none⟩ = some (.int .i64 x2) := by rw [k1, World.cell?_alloc_at _ _ _ _ rfl]; rfl
      have HB : Hid (Below w.heap.size w w2) := HB2
      generalize hbk : wr.heap.size = bk at *
      clear k0 k1 hbel bd2 c0 c1 HB2 zb hbk
      have hl1 : k + 1 = l.length ∨ (k : Int) < (l.length : Int) - 1 := by omega
      have HG2 := g5
      by_cases q3 : now - x1 * x2 = 0
      · have e3 : ((now - x1 * x2) == 0) = true := by simp [q3]
        have q3a : now - x1 * x2 < 2 := by omega
        have q3b : 0 ≤ now - x1 * x2 := by omega
        by_cases q4 : x2 = 2
        · have e4 : (x2 == 2) = true := by simp [q4]
          have E4 := Lib.hid e4; clear e4
          rcases hl1 with hl1 | hl1
          · have hv : throwT left (now - x1 * x2) (l.drop (k + 1)) = throwT left left l := by
              rw [← HT.out, HD.out, throwT, if_pos ⟨q3, q4⟩, if_pos (HN.out.2 hl1), HN.out.2 hl1, q3]; rfl
            have HV := Lib.hid hv; clear hv
            have l1 : (l.length : Int) - 1 ≤ (k : Int) := by omega
            clear q3 q4 hl1
            go_wp2_with fail
            refine (isDouble_any x1 x2 _).mono ?_; rintro r w3 ⟨rfl, bd3⟩
            have HB3 := Lib.hid (HB.out.trans (bd3.mono HB.out.size))
            rw [E4.out]
            clear bd3 k0' k1'
            go_wp2
            go_roundw
            case rel => exact ⟨k + 1, now - x1 * x2, by go_num, rfl, by omega, by omega, by omega, HV.out, HB3.out⟩
            case measure => simp [intOf]; omega
          · have hv : throwT left left l = none := by
              rw [← HT.out, HD.out, throwT, if_pos ⟨q3, q4⟩, if_neg (fun e => absurd (HN.out.1 e) (by omega))]
            have HV := Lib.hid hv; clear hv
            have l1 : (k : Int) < (l.length : Int) - 1 := by omega
            clear q3 q4 hl1
            go_wp2_with fail
            refine (isDouble_any x1 x2 _).mono ?_; rintro r w3 ⟨rfl, bd3⟩
            have HB3 := Lib.hid (HB.out.trans (bd3.mono HB.out.size))
            rw [E4.out]
            clear bd3 k0' k1'
            go_wp2
            refine bodyPost_ret (v := throwR none) (by simp [results, Try.results67, go_sem, throwR]) rfl ⟨by rw [HV.out], HB3.out⟩
        · have e4 : (x2 == 2) = false := by simp [q4]
          have E4 := Lib.hid e4; clear e4
          rcases hl1 with hl1 | hl1
          · have hv : throwT left left l = some (left, true) := by
              rw [← HT.out, HD.out, throwT, if_neg (fun e => q4 e.2), if_pos q3a, if_pos (HN.out.2 hl1)]
            have HV := Lib.hid hv; clear hv
            have l1 : (l.length : Int) - 1 ≤ (k : Int) := by omega
            clear q3 q4 hl1
            go_wp2_with fail
            refine (isDouble_any x1 x2 _).mono ?_; rintro r w3 ⟨rfl, bd3⟩
            have HB3 := Lib.hid (HB.out.trans (bd3.mono HB.out.size))
            rw [E4.out]
            clear bd3 k0' k1'
            go_wp2
            refine bodyPost_ret (v := throwR (some (left, true))) (by simp [results, Try.results67, go_sem, throwR]) rfl ⟨by rw [HV.out], HB3.out⟩
          · have hv : throwT left left l = none := by
              rw [← HT.out, HD.out, throwT, if_neg (fun e => q4 e.2), if_pos q3a, if_neg (fun e => absurd (HN.out.1 e) (by omega))]
            have HV := Lib.hid hv; clear hv
            have l1 : (k : Int) < (l.length : Int) - 1 := by omega
            clear q3 q4 hl1
            go_wp2_with fail
            refine (isDouble_any x1 x2 _).mono ?_; rintro r w3 ⟨rfl, bd3⟩
            have HB3 := Lib.hid (HB.out.trans (bd3.mono HB.out.size))
            rw [E4.out]
            clear bd3 k0' k1'
            go_wp2
            refine bodyPost_ret (v := throwR none) (by simp [results, Try.results67, go_sem, throwR]) rfl ⟨by rw [HV.out], HB3.out⟩
      · have e3 : ((now - x1 * x2) == 0) = false := by simp [q3]
        by_cases q5 : now - x1 * x2 < 2
        · rcases hl1 with hl1 | hl1
          · have hv : throwT left left l = some (left, true) := by
              rw [← HT.out, HD.out, throwT, if_neg (fun e => q3 e.1), if_pos q5, if_pos (HN.out.2 hl1)]
            have HV := Lib.hid hv; clear hv
            have l1 : (l.length : Int) - 1 ≤ (k : Int) := by omega
            clear q3 hl1
            have HB3 := HB
            clear k0' k1'
            go_wp2
            refine bodyPost_ret (v := throwR (some (left, true))) (by simp [results, Try.results67, go_sem, throwR]) rfl ⟨by rw [HV.out], HB3.out⟩
          · have hv : throwT left left l = none := by
              rw [← HT.out, HD.out, throwT, if_neg (fun e => q3 e.1), if_pos q5, if_neg (fun e => absurd (HN.out.1 e) (by omega))]
            have HV := Lib.hid hv; clear hv
            have l1 : (k : Int) < (l.length : Int) - 1 := by omega
            clear q3 hl1
            have HB3 := HB
            clear k0' k1'
            go_wp2
            refine bodyPost_ret (v := throwR none) (by simp [results, Try.results67, go_sem, throwR]) rfl ⟨by rw [HV.out], HB3.out⟩
        · have hv : throwT left (now - x1 * x2) (l.drop (k + 1)) = throwT left left l := by
            rw [← HT.out, HD.out, throwT, if_neg (fun e => q3 e.1), if_neg q5]
          have HV := Lib.hid hv; clear hv
          clear q3 hl1
          have HB3 := HB
          clear k0' k1'
          go_wp2
          go_roundw
          case rel => exact ⟨k + 1, now - x1 * x2, by go_num, rfl, by omega, by omega, by omega, HV.out, HB3.out⟩
          case measure => simp [intOf]; omega
    · obtain rfl : k = l.length := by omega
      have hv : throwT left left l = some (now, false) := by
        rw [← HT.out, List.drop_length]; rfl
      have HV := Lib.hid hv; clear hv
      go_wp2
      refine bodyPost_ret (v := throwR (some (now, false))) (by simp [results, Try.results67, go_sem, throwR]) rfl ⟨by rw [HV.out], hbel⟩

def visitRes (left : Int) (l : List (Int × Int)) : Option (Int × Bool) := if askedB left l then throwT left left l else none

set_option maxHeartbeats 1600000 in
theorem throw_any (l : List (Int × Int)) (left : Int) (a : Option Addr) (c : Nat) (w : World) (hl : (l.length : Int) ≤ 1000000000000) (h : Reads w a (darts l)) :
    Calls Try.prog 67 #[.int .i64 left, .slice a l.length c] w fun e w' => e = .returned (throwR (visitRes left l)) ∧ Below w.heap.size w w' := by
  by_cases h1 : 1 ≤ left ∧ left ≤ 1001 ∧ 1 ≤ (l.length : Int) ∧ (l.length : Int) ≤ 3
  · obtain ⟨h1, h2, h3, h4⟩ := h1
    cases hg : allGood l
    · have hv : visitRes left l = none := by simp [visitRes, askedB, listB, hg]
      rw [hv]; clear hv
      have HG := Lib.hid hg; clear hg
      have HR := Lib.hid h; clear h
      go_enter Try.func67, Try.ntmps67
      go_wp2_with fail
      refine (areDarts_any l _ _ _ (by omega) HR.out).mono ?_; rintro r w1 ⟨rfl, bd1⟩
      rw [HG.out]
      go_wp2_with fail
      refine bodyPost_ret (v := throwR none) (by simp [results, Try.results67, go_sem, throwR]) rfl ⟨rfl, bd1⟩
    · have hv : visitRes left l = throwT left left l := by simp [visitRes, askedB, listB, inR, hg, h1, h2, h3, h4]
      rw [hv]
      exact throw_yes l left a c w h hg h1 h2 h3 h4
  · have hv : visitRes left l = none := by
      refine if_neg (fun e => h1 ?_)
      simp only [askedB, listB, inR, Bool.and_eq_true, decide_eq_true_eq] at e
      exact ⟨e.1.1, e.1.2, e.2.1.1, e.2.1.2⟩
    rw [hv]; clear hv
    by_cases q1 : left < 1 <;> by_cases q2 : 1001 < left <;> by_cases q3 : (l.length : Int) < 1 <;> by_cases q4 : 3 < (l.length : Int)
    all_goals try (exfalso; omega)
    all_goals
      clear h h1
      go_enter Try.func67, Try.ntmps67
      go_wp2_with fail
      refine bodyPost_ret (v := throwR none) (by simp [results, Try.results67, go_sem, throwR]) rfl ⟨rfl, Below.refl _ _⟩

set_option maxHeartbeats 800000 in
theorem daAsked_any (l : List (Int × Int)) (left : Int) (a : Option Addr) (c : Nat) (w : World) (hl : (l.length : Int) ≤ 1000000000000) (h : Reads w a (darts l)) :
    Calls Try.prog 59 #[.int .i64 left, .slice a l.length c] w fun e w' => e = .returned (.bool (askedB left l)) ∧ Below w.heap.size w w' := by
  unfold askedB
  have HR := Lib.hid h; clear h
  cases hn : inR left 1 1001
  · have HN := Lib.hid hn; clear hn
    go_enter Try.func59, Try.ntmps59
    go_wp2_with fail
    refine (l1In_any _ _ _ _).mono ?_; rintro e w1 ⟨rfl, rfl⟩
    rw [HN.out]
    go_wp2_with fail
    go_ret
    exact ⟨ret_bool (by simp), Below.refl _ _⟩
  · have HN := Lib.hid hn; clear hn
    go_enter Try.func59, Try.ntmps59
    go_wp2_with fail
    refine (l1In_any _ _ _ _).mono ?_; rintro e w1 ⟨rfl, rfl⟩
    rw [HN.out]
    go_wp2_with fail
    refine (daList_any l _ _ _ _ _ hl HR.out).mono ?_; rintro e w1 ⟨rfl, bd⟩
    go_wp2_with fail
    go_ret
    exact ⟨ret_bool (by simp), bd⟩

theorem asked_parts {left : Int} {l : List (Int × Int)} (h : askedB left l = true) : 1 ≤ left ∧ left ≤ 1001 ∧ 1 ≤ (l.length : Int) ∧ (l.length : Int) ≤ 3 ∧ allGood l = true := by
  simp only [askedB, listB, inR, Bool.and_eq_true, decide_eq_true_eq] at h
  obtain ⟨⟨h1, h2⟩, ⟨h3, h4⟩, h5⟩ := h
  exact ⟨h1, h2, h3, h4, h5⟩

end Go.Proofs.Ytaplkciomagmiaa
