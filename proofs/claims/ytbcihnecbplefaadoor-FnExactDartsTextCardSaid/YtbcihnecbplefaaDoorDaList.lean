/-
  Visits: lists of darts are looked at, what is left behind a visit.
-/
import Derived.Test.YtbcihnecbplefaaDoorDaSliceEq
namespace Go.Proofs.YtbcihnecbplefaaDoor
open Go.RowKit

def allGood (l : List (Int × Int)) : Bool := l.all fun d => goodB d.1 d.2
theorem good_bd {n t : Int} (h : goodB n t = true) : 1 ≤ n ∧ n ≤ 25 ∧ 1 ≤ t ∧ t ≤ 3 ∧ 1 ≤ n * t ∧ n * t ≤ 60 := by
  unfold goodB inR at h
  split at h
  · subst n; simp at h; omega
  · simp at h
    obtain ⟨⟨h1, h2⟩, h3, h4⟩ := h
    refine ⟨h1, by omega, h3, h4, ?_, ?_⟩
    · have := Int.mul_le_mul h1 h3 (by omega) (by omega); omega
    · have := Int.mul_le_mul h2 h4 (by omega) (by omega); omega

theorem allGood_get {l : List (Int × Int)} (h : allGood l = true) (k : Nat) (hk : k < l.length) : goodB (l.getD k (0, 0)).1 (l.getD k (0, 0)).2 = true := by
  have := List.all_eq_true.1 h (l[k]) (List.getElem_mem hk)
  simpa [hk] using this
theorem allGood_take_all {l : List (Int × Int)} : allGood (l.take l.length) = allGood l := by rw [List.take_length]
theorem allGood_step {l : List (Int × Int)} {k : Nat} (hk : k < l.length) : allGood (l.take (k + 1)) = (allGood (l.take k) && goodB (l.getD k (0, 0)).1 (l.getD k (0, 0)).2) := by
  rw [List.take_succ_eq_append_getElem hk]
  simp only [allGood, List.all_append, List.all_cons, List.all_nil, Bool.and_true]
  simp [hk]
theorem allGood_not {l : List (Int × Int)} {k : Nat} (hk : k < l.length) (h : goodB (l.getD k (0, 0)).1 (l.getD k (0, 0)).2 = false) : allGood l = false := by
  cases hg : allGood l with
  | false => rfl
  | true => rw [allGood_get hg k hk] at h; cases h

set_option maxHeartbeats 800000 in
theorem areDarts_any (l : List (Int × Int)) (a : Option Addr) (c : Nat) (w : World) (hl : (l.length : Int) ≤ 1000000000000) (h : Reads w a (darts l)) :
    Calls Tryd.prog 30 #[.slice a l.length c] w fun e w' => e = .returned (.bool (allGood l)) ∧ Below w.heap.size w w' := by
  have HR := Lib.hid h; clear h
  go_enter Tryd.func30, Tryd.ntmps30
  go_wp2_with fail
  go_loopw [7] (fun i wr => ∃ k : Nat, i = .int .i64 k ∧ k ≤ l.length ∧ allGood (l.take k) = true ∧ Below w.heap.size w wr) (fun i _ => l.length - (intOf i).toNat)
  case atStart => exact ⟨0, rfl, Nat.zero_le _, rfl, Below.refl _ _⟩
  case round =>
    obtain ⟨k, rfl, hk, ht, hbel⟩ := hrel
    have HT := Lib.hid ht; clear ht
    by_cases hlt : k < l.length
    · obtain ⟨b, off, ha, _, hc⟩ := dcells_of_reads (HR.out.old hbel) (by omega)
      subst ha
      obtain ⟨c0, c1⟩ := hc k hlt
      have b1 : (k : Int) < (l.length : Int) := by omega
      clear hc
      have hstep := allGood_step hlt
      have hnot := fun h => allGood_not (l := l) hlt h
      have HSt := Lib.hid hstep; clear hstep
      have HNo := Lib.hid hnot; clear hnot
      generalize l.getD k (0, 0) = x at *
      have zb := hbel.size
      go_wp2_with fail
      refine (isDart_any x.1 x.2 _).mono ?_; rintro r w2 ⟨rfl, bd⟩
      have hb2 : Below w.heap.size w w2 := (hbel.alloc zb _).trans (bd.mono (by simp; omega))
      clear bd hbel c0 c1 zb
      cases hq : goodB x.1 x.2
      · have hf := HNo.out hq
        have HF := Lib.hid hf; clear hf hq
        go_wp2_with fail
        go_ret
        exact ⟨ret_bool (by rw [HF.out]), hb2⟩
      · have hs := HSt.out
        rw [HT.out, hq] at hs
        have HS := Lib.hid hs; clear hs hq
        go_wp2_with fail
        go_roundw
        case rel => exact ⟨k + 1, by go_num, by omega, HS.out, hb2⟩
        case measure => simp [intOf]; omega
    · obtain rfl : k = l.length := by omega
      have hf : allGood l = true := by rw [← allGood_take_all]; exact HT.out
      have HF := Lib.hid hf; clear hf
      go_wp2
      go_ret
      exact ⟨ret_bool (by rw [HF.out]), hbel⟩

def listB (l : List (Int × Int)) (lo hi : Int) : Bool := inR (l.length : Nat) lo hi && allGood l

set_option maxHeartbeats 800000 in
theorem daList_any (l : List (Int × Int)) (lo hi : Int) (a : Option Addr) (c : Nat) (w : World) (hl : (l.length : Int) ≤ 1000000000000) (h : Reads w a (darts l)) :
    Calls Tryd.prog 28 #[.slice a l.length c, .int .i64 lo, .int .i64 hi] w fun e w' => e = .returned (.bool (listB l lo hi)) ∧ Below w.heap.size w w' := by
  have HR := Lib.hid h; clear h
  unfold listB
  cases hn : inR (l.length : Nat) lo hi
  · have HN := Lib.hid hn; clear hn
    go_enter Tryd.func28, Tryd.ntmps28
    go_wp2_with fail
    refine (l1In_any _ _ _ _).mono ?_; rintro e w1 ⟨rfl, rfl⟩
    rw [HN.out]
    go_wp2_with fail
    go_ret
    exact ⟨ret_bool (by simp), Below.refl _ _⟩
  have HN := Lib.hid hn; clear hn
  rw [Bool.true_and]
  go_enter Tryd.func28, Tryd.ntmps28
  go_wp2_with fail
  refine (l1In_any _ _ _ _).mono ?_; rintro e w1 ⟨rfl, rfl⟩
  rw [HN.out]
  go_wp2_with fail
  go_loopw [17] (fun i wr => ∃ k : Nat, i = .int .i64 k ∧ k ≤ l.length ∧ allGood (l.take k) = true ∧ Below w.heap.size w wr) (fun i _ => l.length - (intOf i).toNat)
  case atStart => exact ⟨0, rfl, Nat.zero_le _, rfl, Below.refl _ _⟩
  case round =>
    obtain ⟨k, rfl, hk, ht, hbel⟩ := hrel
    have HT := Lib.hid ht; clear ht
    by_cases hlt : k < l.length
    · obtain ⟨b, off, ha, _, hc⟩ := dcells_of_reads (HR.out.old hbel) (by omega)
      subst ha
      obtain ⟨c0, c1⟩ := hc k hlt
      have b1 : (k : Int) < (l.length : Int) := by omega
      clear hc
      have hstep := allGood_step hlt
      have hnot := fun h => allGood_not (l := l) hlt h
      have HSt := Lib.hid hstep; clear hstep
      have HNo := Lib.hid hnot; clear hnot
      generalize l.getD k (0, 0) = x at *
      have zb := hbel.size
      go_wp2_with fail
      refine (daGood_any x.1 x.2 _).mono ?_; rintro r w2 ⟨rfl, bd⟩
      have hb2 : Below w.heap.size w w2 := (hbel.alloc zb _).trans (bd.mono (by simp; omega))
      clear bd hbel c0 c1 zb
      cases hq : goodB x.1 x.2
      · have hf := HNo.out hq
        have HF := Lib.hid hf; clear hf hq
        go_wp2_with fail
        go_ret
        exact ⟨ret_bool (by rw [HF.out]), hb2⟩
      · have hs := HSt.out
        rw [HT.out, hq] at hs
        have HS := Lib.hid hs; clear hs hq
        go_wp2_with fail
        go_roundw
        case rel => exact ⟨k + 1, by go_num, by omega, HS.out, hb2⟩
        case measure => simp [intOf]; omega
    · obtain rfl : k = l.length := by omega
      have hf : allGood l = true := by rw [← allGood_take_all]; exact HT.out
      have HF := Lib.hid hf; clear hf
      go_wp2
      go_ret
      exact ⟨ret_bool (by rw [HF.out]), hbel⟩

end Go.Proofs.YtbcihnecbplefaaDoor
