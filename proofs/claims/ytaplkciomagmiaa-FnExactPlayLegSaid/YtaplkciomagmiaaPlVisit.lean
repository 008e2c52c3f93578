/-
  Visits: lists of darts are looked at, what is left behind a visit.
-/
import Derived.Test.YtaplkciomagmiaaDaSliceEq
namespace Go.Proofs.Ytaplkciomagmiaa
open Go.RowKit

def allGood (l : List (Int × Int)) : Bool := l.all fun d => goodB d.1 d.2
theorem good_bd {n t : Int} (h : goodB n t = true) : 1 ≤ n ∧ n ≤ 25 ∧ 1 ≤ t ∧ t ≤ 3 ∧ 1 ≤ n * t ∧ n * t ≤ 60 := by
  unfold goodB inR at h
  split at h
  · subst n; simp at h; omega
  · simp at h
    obtain ⟨⟨h1, h2⟩, h3, h4⟩ := h
    refine ⟨h1, by omega, h3, h4, ?_, ?_⟩
    · have := Int.mul_le_mul h1 h3 (by omega) (by omega); omega
    · have := Int.mul_le_mul h2 h4 (by omega) (by omega); omega

theorem allGood_get {l : List (Int × Int)} (h : allGood l = true) (k : Nat) (hk : k < l.length) : goodB (l.getD k (0, 0)).1 (l.getD k (0, 0)).2 = true := by
  have := List.all_eq_true.1 h (l[k]) (List.getElem_mem hk)
  simpa [hk] using this
theorem allGood_take_all {l : List (Int × Int)} : allGood (l.take l.length) = allGood l := by rw [List.take_length]
theorem allGood_step {l : List (Int × Int)} {k : Nat} (hk : k < l.length) : allGood (l.take (k + 1)) = (allGood (l.take k) && goodB (l.getD k (0, 0)).1 (l.getD k (0, 0)).2) := by
  rw [List.take_succ_eq_append_getElem hk]
  simp only [allGood, List.all_append, List.all_cons, List.all_nil, Bool.and_true]
  simp [hk]
theorem allGood_not {l : List (Int × Int)} {k : Nat} (hk : k < l.length) (h : goodB (l.getD k (0, 0)).1 (l.getD k (0, 0)).2 = false) : allGood l = false := by
  cases hg : allGood l with
  | false => rfl
  | true => rw [allGood_get hg k hk] at h; cases h

set_option maxHeartbeats 800000 in
theorem areDarts_any (l : List (Int × Int)) (a : Option Addr) (c : Nat) (w : World) (hl : (l.length : Int) ≤ 1000000000000) (h : Reads w a (darts l)) :
    Calls Try.prog 70 #[.slice a l.length c] w fun e w' => e = .returned (.bool (allGood l)) ∧ Below w.heap.size w w' := by
  have HR := Lib.hid h; clear h
  go_enter Try.func70, Try.ntmps70
  go_wp2_with fail
  go_loopw [7] (fun i wr => ∃ k : Nat, i = .int .i64 k ∧ k ≤ l.length ∧ allGood (l.take k) = true ∧ Below w.heap.size w wr) (fun i _ => l.length - (intOf i).toNat)
  case atStart => exact ⟨0, rfl, Nat.zero_le _, rfl, Below.refl _ _⟩
  case round =>
    obtain ⟨k, rfl, hk, ht, hbel⟩ := hrel
    have HT := Lib.hid ht; clear ht
    by_cases hlt : k < l.length
    · obtain ⟨b, off, ha, _, hc⟩ := dcells_of_reads (HR.out.old hbel) (by omega)
      subst ha
      obtain ⟨c0, c1⟩ := hc k hlt
      have b1 : (k : Int) < (l.length : Int) := by omega
      clear hc
      have hstep := allGood_step hlt
      have hnot := fun h => allGood_not (l := l) hlt h
      have HSt := Lib.hid hstep; clear hstep
      have HNo := Lib.hid hnot; clear hnot
      generalize l.getD k (0, 0) = x at *
      have zb := hbel.size
      go_wp2_with fail
      refine (isDart_any x.1 x.2 _).mono ?_; rintro r w2 ⟨rfl, bd⟩
      have hb2 : Below w.heap.size w w2 := (hbel.alloc zb _).trans (bd.mono (by simp; omega))
      clear bd hbel c0 c1 zb
      cases hq : goodB x.1 x.2
      · have hf := HNo.out hq
        have HF := Lib.hid hf; clear hf hq
        go_wp2_with fail
        go_ret
        exact ⟨ret_bool (by rw [HF.out]), hb2⟩
      · have hs := HSt.out
        rw [HT.out, hq] at hs
        have HS := Lib.hid hs; clear hs hq
        go_wp2_with fail
        go_roundw
        case rel => exact ⟨k + 1, by go_num, by omega, HS.out, hb2⟩
        case measure => simp [intOf]; omega
    · obtain rfl : k = l.length := by omega
      have hf : allGood l = true := by rw [← allGood_take_all]; exact HT.out
      have HF := Lib.hid hf; clear hf
      go_wp2
      go_ret
      exact ⟨ret_bool (by rw [HF.out]), hbel⟩

def listB (l : List (Int × Int)) (lo hi : Int) : Bool := inR (l.length : Nat) lo hi && allGood l

set_option maxHeartbeats 800000 in
theorem daList_any (l : List (Int × Int)) (lo hi : Int) (a : Option Addr) (c : Nat) (w : World) (hl : (l.length : Int) ≤ 1000000000000) (h : Reads w a (darts l)) :
    Calls Try.prog 65 #[.slice a l.length c, .int .i64 lo, .int .i64 hi] w fun e w' => e = .returned (.bool (listB l lo hi)) ∧ Below w.heap.size w w' := by
  have HR := Lib.hid h; clear h
  unfold listB
  cases hn : inR (l.length : Nat) lo hi
  · have HN := Lib.hid hn; clear hn
    go_enter Try.func65, Try.ntmps65
    go_wp2_with fail
    refine (l1In_any _ _ _ _).mono ?_; rintro e w1 ⟨rfl, rfl⟩
    rw [HN.out]
    go_wp2_with fail
    go_ret
    exact ⟨ret_bool (by simp), Below.refl _ _⟩
  have HN := Lib.hid hn; clear hn
  rw [Bool.true_and]
  go_enter Try.func65, Try.ntmps65
  go_wp2_with fail
  refine (l1In_any _ _ _ _).mono ?_; rintro e w1 ⟨rfl, rfl⟩
  rw [HN.out]
  go_wp2_with fail
  go_loopw [17] (fun i wr => ∃ k : Nat, i = .int .i64 k ∧ k ≤ l.length ∧ allGood (l.take k) = true ∧ Below w.heap.size w wr) (fun i _ => l.length - (intOf i).toNat)
  case atStart => exact ⟨0, rfl, Nat.zero_le _, rfl, Below.refl _ _⟩
  case round =>
    obtain ⟨k, rfl, hk, ht, hbel⟩ := hrel
    have HT := Lib.hid ht; clear ht
    by_cases hlt : k < l.length
    · obtain ⟨b, off, ha, _, hc⟩ := dcells_of_reads (HR.out.old hbel) (by omega)
      subst ha
      obtain ⟨c0, c1⟩ := hc k hlt
      have b1 : (k : Int) < (l.length : Int) := by omega
      clear hc
      have hstep := allGood_step hlt
      have hnot := fun h => allGood_not (l := l) hlt h
      have HSt := Lib.hid hstep; clear hstep
      have HNo := Lib.hid hnot; clear hnot
      generalize l.getD k (0, 0) = x at *
      have zb := hbel.size
      go_wp2_with fail
      refine (daGood_any x.1 x.2 _).mono ?_; rintro r w2 ⟨rfl, bd⟩
      have hb2 : Below w.heap.size w w2 := (hbel.alloc zb _).trans (bd.mono (by simp; omega))
      clear bd hbel c0 c1 zb
      cases hq : goodB x.1 x.2
      · have hf := HNo.out hq
        have HF := Lib.hid hf; clear hf hq
        go_wp2_with fail
        go_ret
        exact ⟨ret_bool (by rw [HF.out]), hb2⟩
      · have hs := HSt.out
        rw [HT.out, hq] at hs
        have HS := Lib.hid hs; clear hs hq
        go_wp2_with fail
        go_roundw
        case rel => exact ⟨k + 1, by go_num, by omega, HS.out, hb2⟩
        case measure => simp [intOf]; omega
    · obtain rfl : k = l.length := by omega
      have hf : allGood l = true := by rw [← allGood_take_all]; exact HT.out
      have HF := Lib.hid hf; clear hf
      go_wp2
      go_ret
      exact ⟨ret_bool (by rw [HF.out]), hbel⟩

/-- What is left behind a visit, and whether it is bust; none where darts lie behind its end. -/
def throwT (left : Int) : Int → List (Int × Int) → Option (Int × Bool)
  | now, [] => some (now, false)
  | now, d :: r =>
    if now - d.1 * d.2 = 0 ∧ d.2 = 2 then (if r = [] then some (0, false) else none)
    else if now - d.1 * d.2 < 2 then (if r = [] then some (left, true) else none)
    else throwT left (now - d.1 * d.2) r

/-- The same as the model has it: with what stands beside a failure. -/
def visitT (left : Int) : Int → List (Int × Int) → Int × Bool × Bool
  | now, [] => (now, false, true)
  | now, d :: r =>
    if now - d.1 * d.2 < 0 ∨ now - d.1 * d.2 = 1 ∨ (now - d.1 * d.2 = 0 ∧ d.2 ≠ 2) then (left, true, decide (r = []))
    else if now - d.1 * d.2 = 0 then (0, false, decide (r = []))
    else visitT left (now - d.1 * d.2) r

def okT : Int × Bool × Bool → Option (Int × Bool)
  | (n, b, true) => some (n, b)
  | (_, _, false) => none

theorem visit_throw (left : Int) : ∀ (l : List (Int × Int)) (now : Int), okT (visitT left now l) = throwT left now l
  | [], now => rfl
  | d :: r, now => by
    have ih := visit_throw left r (now - d.1 * d.2)
    by_cases h1 : now - d.1 * d.2 = 0 ∧ d.2 = 2
    · have h2 : ¬ (now - d.1 * d.2 < 0 ∨ now - d.1 * d.2 = 1 ∨ (now - d.1 * d.2 = 0 ∧ d.2 ≠ 2)) := by omega
      rw [visitT, throwT, if_neg h2, if_pos h1.1, if_pos h1]
      by_cases hr : r = [] <;> simp [hr, okT]
    · by_cases h3 : now - d.1 * d.2 < 2
      · have h2 : now - d.1 * d.2 < 0 ∨ now - d.1 * d.2 = 1 ∨ (now - d.1 * d.2 = 0 ∧ d.2 ≠ 2) := by omega
        rw [visitT, throwT, if_pos h2, if_neg h1, if_pos h3]
        by_cases hr : r = [] <;> simp [hr, okT]
      · have h2 : ¬ (now - d.1 * d.2 < 0 ∨ now - d.1 * d.2 = 1 ∨ (now - d.1 * d.2 = 0 ∧ d.2 ≠ 2)) := by omega
        have h4 : ¬ now - d.1 * d.2 = 0 := by omega
        rw [visitT, throwT, if_neg h2, if_neg h1, if_neg h3, if_neg h4]
        exact ih

def tripV (t : Int × Bool × Bool) : Value := .tuple #[.int .i64 t.1, .bool t.2.1, .bool t.2.2]

theorem drop_step {l : List (Int × Int)} {k : Nat} (hk : k < l.length) : l.drop k = l.getD k (0, 0) :: l.drop (k + 1) := by
  rw [List.drop_eq_getElem_cons hk]; simp [hk]
theorem drop_nil_iff {l : List (Int × Int)} {k : Nat} (hk : k < l.length) : l.drop (k + 1) = [] ↔ k + 1 = l.length := by
  rw [List.drop_eq_nil_iff]; omega

set_option maxHeartbeats 1600000 in
theorem daVisit_any (l : List (Int × Int)) (left : Int) (a : Option Addr) (c : Nat) (w : World) (hl : (l.length : Int) ≤ 1000000000000) (h : Reads w a (darts l)) (hg : allGood l = true) (h1 : 1 ≤ left) (h2 : left ≤ 1001) :
    Calls Try.prog 60 #[.int .i64 left, .slice a l.length c] w fun e w' => e = .returned (tripV (visitT left left l)) ∧ Below w.heap.size w w' := by
  have HR := Lib.hid h; clear h
  have HG := Lib.hid hg; clear hg
  go_enter Try.func60, Try.ntmps60
  go_wp2_with fail
  go_loopw [7, 14] (fun q i wr => ∃ (k : Nat) (now : Int), i = .int .i64 k ∧ q = .int .i64 now ∧ k ≤ l.length ∧ 1 ≤ now ∧ now ≤ 1001 ∧ visitT left now (l.drop k) = visitT left left l ∧ Below w.heap.size w wr) (fun _ i _ => l.length - (intOf i).toNat)
  case atStart => exact ⟨0, left, rfl, rfl, Nat.zero_le _, h1, h2, rfl, Below.refl _ _⟩
  case round =>
    obtain ⟨k, now, rfl, rfl, hk, n1, n2, ht, hbel⟩ := hrel
    have HT := Lib.hid ht; clear ht
    by_cases hlt : k < l.length
    · obtain ⟨b, off, ha, _, hc⟩ := dcells_of_reads (HR.out.old hbel) (by omega)
      subst ha
      obtain ⟨c0, c1⟩ := hc k hlt
      have b1 : (k : Int) < (l.length : Int) := by omega
      clear hc
      have gb := good_bd (allGood_get HG.out k hlt)
      obtain ⟨-, -, g3, g4, g5, g6⟩ := gb
      have hd := drop_step hlt
      have HD := Lib.hid hd; clear hd
      have hn := drop_nil_iff hlt
      have HN := Lib.hid hn; clear hn
      generalize l.getD k (0, 0) = x at *
      obtain ⟨x1, x2⟩ := x
      simp only at c0 c1 g3 g4 g5 g6
      have zb := hbel.size
      have hal := hbel.alloc zb (.cells #[.int .i64 x1, .int .i64 x2] 55)
      have HB := Lib.hid hal; clear hal hbel zb
      have lastB : ∃ lb : Bool, lb = decide (l.drop (k + 1) = []) ∧ ((k : Int) == (l.length : Int) - 1) = lb := by
        refine ⟨_, rfl, ?_⟩
        rw [Bool.eq_iff_iff]; simp only [beq_iff_eq, decide_eq_true_eq]; rw [HN.out]; omega
      obtain ⟨lb, hlb, hla⟩ := lastB
      have HLB := Lib.hid hlb; clear hlb
      by_cases q1 : now - x1 * x2 < 0
      · have hv : visitT left left l = (left, true, lb) := by
          rw [← HT.out, HD.out, visitT, if_pos (.inl q1), HLB.out]
        have HV := Lib.hid hv; clear hv
        go_wp2
        refine bodyPost_ret (v := tripV (left, true, lb)) (by simp [results, Try.results60, go_sem, tripV]) rfl ⟨by rw [HV.out], HB.out⟩
      have q1' : ¬ now - x1 * x2 < 0 := q1
      by_cases q2 : now - x1 * x2 = 1
      · have e2 : ((now - x1 * x2) == 1) = true := by simp [q2]
        have hv : visitT left left l = (left, true, lb) := by
          rw [← HT.out, HD.out, visitT, if_pos (.inr (.inl q2)), HLB.out]
        have HV := Lib.hid hv; clear hv q2
        go_wp2
        refine bodyPost_ret (v := tripV (left, true, lb)) (by simp [results, Try.results60, go_sem, tripV]) rfl ⟨by rw [HV.out], HB.out⟩
      have e2 : ((now - x1 * x2) == 1) = false := by simp [q2]
      by_cases q3 : now - x1 * x2 = 0
      · have e3 : ((now - x1 * x2) == 0) = true := by simp [q3]
        by_cases q4 : x2 = 2
        · have e4 : (x2 != 2) = false := by simp [q4]
          have hv : visitT left left l = (0, false, lb) := by
            rw [← HT.out, HD.out, visitT, if_neg (by simp only; omega), if_pos q3, HLB.out]
          have HV := Lib.hid hv; clear hv q3 q4 q2
          go_wp2
          refine bodyPost_ret (v := tripV (0, false, lb)) (by simp [results, Try.results60, go_sem, tripV]) rfl ⟨by rw [HV.out], HB.out⟩
        · have e4 : (x2 != 2) = true := by rw [bne_iff_ne]; exact q4
          have hv : visitT left left l = (left, true, lb) := by
            rw [← HT.out, HD.out, visitT, if_pos (.inr (.inr ⟨q3, q4⟩)), HLB.out]
          have HV := Lib.hid hv; clear hv q3 q4 q2
          go_wp2
          refine bodyPost_ret (v := tripV (left, true, lb)) (by simp [results, Try.results60, go_sem, tripV]) rfl ⟨by rw [HV.out], HB.out⟩
      · have e3 : ((now - x1 * x2) == 0) = false := by simp [q3]
        have hv : visitT left (now - x1 * x2) (l.drop (k + 1)) = visitT left left l := by
          rw [← HT.out, HD.out, visitT, if_neg (by simp only; omega), if_neg q3]
        have HV := Lib.hid hv; clear hv
        have n3 : 1 ≤ now - x1 * x2 := by omega
        clear q2 q3
        go_wp2
        go_roundw
        case rel => exact ⟨k + 1, now - x1 * x2, by go_num, rfl, by omega, n3, by omega, HV.out, HB.out⟩
        case measure => simp [intOf]; omega
    · obtain rfl : k = l.length := by omega
      have hv : visitT left left l = (now, false, true) := by
        rw [← HT.out, List.drop_length]; rfl
      have HV := Lib.hid hv; clear hv
      go_wp2
      refine bodyPost_ret (v := tripV (now, false, true)) (by simp [results, Try.results60, go_sem, tripV]) rfl ⟨by rw [HV.out], hbel⟩

end Go.Proofs.Ytaplkciomagmiaa
