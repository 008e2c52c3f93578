/-
  Races: who serves: the model and the program.
-/
import Derived.Test.YtbgdngfjeikheaaDoorRaCnt2
import Derived.Laws.Concat
namespace Go.Proofs.YtbgdngfjeikheaaDoor
open Go.RowKit
set_option linter.unusedVariables false
set_option linter.unusedSimpArgs false

def srvC (t k : Nat) : UInt8 := if k / t % 2 = 0 then 97 else 98
def srvL (t k : Nat) : List UInt8 := (List.range k).map (srvC t)
theorem srv_len (t k : Nat) : (srvL t k).length = k := by simp [srvL]
theorem srv_succ (t k : Nat) : srvL t (k + 1) = srvL t k ++ [srvC t k] := by simp [srvL, List.range_succ]
theorem srv_get (t n k : Nat) (h : k < n) : (srvL t n)[k]? = some (srvC t k) := by simp [srvL, h]
theorem srv_ab (t k : Nat) : srvC t k = 97 ∨ srvC t k = 98 := by unfold srvC; split <;> simp

set_option maxHeartbeats 400000 in
theorem serverInTurn_any (q : Nat) (w : World) :
    Calls Tryd.prog 208 #[.int .i64 q] w fun e w' => e = .returned (.string ⟨#[if q % 2 = 0 then 97 else 98]⟩) ∧ w = w' := by
  by_cases h : q % 2 = 0
  · rw [if_pos h]
    have h1 : (((q : Int) % 2) == 0) = true := by simp; omega
    have h2 : (Int.tmod (q : Int) 2 == 0) = true := by rw [Int.tmod_eq_emod_of_nonneg (by omega)]; exact h1
    go_enter Tryd.func208, Tryd.ntmps208
    go_wp2
    go_ret
    exact ⟨rfl, rfl⟩
  · rw [if_neg h]
    have h1 : (((q : Int) % 2) == 0) = false := by simp; omega
    have h2 : (Int.tmod (q : Int) 2 == 0) = false := by rw [Int.tmod_eq_emod_of_nonneg (by omega)]; exact h1
    go_enter Tryd.func208, Tryd.ntmps208
    go_wp2
    go_ret
    exact ⟨rfl, rfl⟩

theorem app_a (T : List UInt8) : ((⟨T.toArray⟩ : ByteArray) ++ (⟨#[97, 98]⟩ : ByteArray).extract 0 1) = ⟨(T ++ [97]).toArray⟩ := by
  rw [show (⟨#[97, 98]⟩ : ByteArray).extract 0 1 = ⟨#[97]⟩ from by decide, ByteArray.mk_append_mk]
theorem app_b (T : List UInt8) : ((⟨T.toArray⟩ : ByteArray) ++ (⟨#[97, 98]⟩ : ByteArray).extract 1 2) = ⟨(T ++ [98]).toArray⟩ := by
  rw [show (⟨#[97, 98]⟩ : ByteArray).extract 1 2 = ⟨#[98]⟩ from by decide, ByteArray.mk_append_mk]
def srvT (s : ByteArray) (t : Nat) : ByteArray := ⟨(srvL t s.size).toArray⟩
set_option maxHeartbeats 1600000 in
theorem raServers_any (s : ByteArray) (t : Nat) (h1 : 1 ≤ t) (h2 : t ≤ 10) (hs : s.size ≤ 100) (w : World) :
    Calls Tryd.prog 178 #[.string s, .int .i64 t] w fun e w' => e = .returned (.string (srvT s t)) ∧ Below w.heap.size w w' := by
  have hsz : (s.size : Int) ≤ 100 := by omega
  go_enter Tryd.func178, Tryd.ntmps178
  go_wp2_with fail
  go_loopw [5, 6] (fun q i wr => ∃ k : Nat, i = .int .i64 k ∧ k ≤ s.size ∧ q = .string ⟨(srvL t k).toArray⟩ ∧ Below w.heap.size w wr) (fun _ i _ => s.size - (intOf i).toNat)
  case atStart => exact ⟨0, rfl, Nat.zero_le _, rfl, Below.refl _ _⟩
  case round =>
    obtain ⟨k, rfl, hk, rfl, hb⟩ := hrel
    have HB := Lib.hid hb; clear hb
    by_cases hlt : k < s.size
    · have hlti : (k : Int) < (s.size : Int) := by omega
      have hstep := srv_succ t k
      have hl := srv_len t k
      have hadd : ∀ (c : UInt8) (W : World), (Op.stringOp .add ⟨(srvL t k).toArray⟩ ⟨#[c]⟩).run Tryd.prog W = .ok (.string ⟨(srvL t k ++ [c]).toArray⟩) W := fun c W => run_string_add_lists W _ [c] (by rw [hl]; omega) (by simp)
      have hc : srvC t k = if k / t % 2 = 0 then 97 else 98 := rfl
      have hq : (k : Int) / (t : Int) = ((k / t : Nat) : Int) := by push_cast; rfl
      have hq2 : Int.tdiv (k : Int) (t : Int) = ((k / t : Nat) : Int) := by rw [Int.tdiv_eq_ediv_of_nonneg (by omega)]; exact hq
      have hqb : k / t ≤ k := Nat.div_le_self _ _
      have HQ := Lib.hid (And.intro hstep hc); clear hstep hc
      generalize srvL t k = T at *
      generalize k / t = d at *
      by_cases hd : d % 2 = 0
      · have ha := hadd 97
        have hv : T ++ [97] = srvL t (k + 1) := by rw [HQ.out.1, HQ.out.2, if_pos hd]
        have hm : (d : Int) % 2 = 0 := by omega
        have HV := Lib.hid hv; clear hv hadd hd HQ
        go_wp2_with fail
        go_roundw
        case rel => exact ⟨k + 1, by go_num, by omega, by rw [← HV.out, app_a], HB.out⟩
        case measure => simp [intOf]; omega
      · have ha := hadd 98
        have hv : T ++ [98] = srvL t (k + 1) := by rw [HQ.out.1, HQ.out.2, if_neg hd]
        have hm : (d : Int) % 2 = 1 := by omega
        have HV := Lib.hid hv; clear hv hadd hd HQ
        go_wp2_with fail
        go_roundw
        case rel => exact ⟨k + 1, by go_num, by omega, by rw [← HV.out, app_b], HB.out⟩
        case measure => simp [intOf]; omega
    · obtain rfl : k = s.size := by omega
      have hv : srvT s t = ⟨(srvL t s.size).toArray⟩ := rfl
      rw [← hv]; clear hv
      go_wp2
      go_ret
      exact ⟨rfl, HB.out⟩

def srvOk (s : ByteArray) (t : Int) : Bool := ptsB s && inR t 1 10
def srvV (s : ByteArray) (t : Int) : ByteArray := if srvOk s t then srvT s t.toNat else ⟨#[]⟩
theorem srv_bad {s : ByteArray} {t : Int} (h : srvOk s t = false) : srvV s t = ⟨#[]⟩ := by unfold srvV; rw [h]; rfl
theorem srv_ok {s : ByteArray} {n : Nat} (h : srvOk s n = true) : srvV s n = srvT s n := by unfold srvV; rw [h]; rfl
theorem srvOk_true {s : ByteArray} {t : Int} : srvOk s t = true ↔ ptsB s = true ∧ 1 ≤ t ∧ t ≤ 10 := by simp [srvOk, inR_true]

set_option maxHeartbeats 1600000 in
theorem implServersOf_any (s : ByteArray) (t : Int) (w : World) (hs : (s.size : Int) ≤ 1000000000000) :
    Calls Tryd.prog 180 #[.string s, .int .i64 t] w fun e w' => e = .returned (.tuple #[.string (srvV s t), .bool (srvOk s t)]) ∧ Below w.heap.size w w' := by
  cases h1 : ptsB s
  · have ho : srvOk s t = false := by unfold srvOk; rw [h1]; rfl
    rw [srv_bad ho, ho]
    have H1 := Lib.hid h1; clear h1 ho
    go_enter Tryd.func180, Tryd.ntmps180
    go_wp2_with fail
    refine (arePoints_any s _ hs).mono ?_; rintro e w2 ⟨rfl, b2⟩
    rw [H1.out]
    go_wp2_with fail
    refine bodyPost_ret (v := .tuple #[.string ⟨#[]⟩, .bool false]) (by simp [results, Tryd.results180, go_sem]) rfl ⟨rfl, b2⟩
  have H1 := Lib.hid h1
  by_cases q1 : t < 1
  · have ho : srvOk s t = false := by unfold srvOk inR; rw [h1]; simp; omega
    rw [srv_bad ho, ho]
    clear h1 ho
    go_enter Tryd.func180, Tryd.ntmps180
    go_wp2_with fail
    refine (arePoints_any s _ hs).mono ?_; rintro e w2 ⟨rfl, b2⟩
    rw [H1.out]
    go_wp2_with fail
    refine bodyPost_ret (v := .tuple #[.string ⟨#[]⟩, .bool false]) (by simp [results, Tryd.results180, go_sem]) rfl ⟨rfl, b2⟩
  by_cases q2 : 10 < t
  · have ho : srvOk s t = false := by unfold srvOk inR; rw [h1]; simp; omega
    rw [srv_bad ho, ho]
    clear h1 ho
    go_enter Tryd.func180, Tryd.ntmps180
    go_wp2_with fail
    refine (arePoints_any s _ hs).mono ?_; rintro e w2 ⟨rfl, b2⟩
    rw [H1.out]
    go_wp2_with fail
    refine bodyPost_ret (v := .tuple #[.string ⟨#[]⟩, .bool false]) (by simp [results, Tryd.results180, go_sem]) rfl ⟨rfl, b2⟩
  · have ho : srvOk s t = true := srvOk_true.2 ⟨h1, by omega, by omega⟩
    obtain ⟨n, rfl⟩ : ∃ n : Nat, t = n := ⟨t.toNat, by omega⟩
    rw [srv_ok ho, ho]
    have hsz := size_bd s h1
    have hsz2 : (s.size : Int) ≤ 100 := by omega
    clear h1 ho
    go_enter Tryd.func180, Tryd.ntmps180
    go_wp2_with fail
    refine (arePoints_any s _ hs).mono ?_; rintro e w2 ⟨rfl, b2⟩
    rw [H1.out]
    go_wp2_with fail
    go_loopw [6, 21] (fun q i wr => ∃ k : Nat, i = .int .i64 k ∧ k ≤ s.size ∧ q = .string ⟨(srvL n k).toArray⟩ ∧ Below w.heap.size w wr) (fun _ i _ => s.size - (intOf i).toNat)
    case atStart => exact ⟨0, rfl, Nat.zero_le _, rfl, b2⟩
    case round =>
      clear b2
      obtain ⟨k, rfl, hk, rfl, hb⟩ := hrel
      have HB := Lib.hid hb; clear hb
      by_cases hlt : k < s.size
      · have hlti : (k : Int) < (s.size : Int) := by omega
        have hstep := srv_succ n k
        have hl := srv_len n k
        have hadd : ∀ (c : UInt8) (W : World), (Op.stringOp .add ⟨(srvL n k).toArray⟩ ⟨#[c]⟩).run Tryd.prog W = .ok (.string ⟨(srvL n k ++ [c]).toArray⟩) W := fun c W => run_string_add_lists W _ [c] (by rw [hl]; omega) (by simp)
        have hc : srvC n k = if k / n % 2 = 0 then 97 else 98 := rfl
        have hq : (k : Int) / (n : Int) = ((k / n : Nat) : Int) := by push_cast; rfl
        have hq2 : Int.tdiv (k : Int) (n : Int) = ((k / n : Nat) : Int) := by rw [Int.tdiv_eq_ediv_of_nonneg (by omega)]; exact hq
        have hqb : k / n ≤ k := Nat.div_le_self _ _
        have hst := fun w => serverInTurn_any (k / n) w
        rw [← hc] at hst
        have ha := hadd (srvC n k)
        have HQ := Lib.hid (And.intro hstep hst); clear hstep hst hadd hc
        generalize srvL n k = T at *
        generalize srvC n k = c at *
        generalize k / n = d at *
        go_wp2_with fail
        refine (HQ.out.2 _).mono ?_; rintro e w3 ⟨rfl, rfl⟩
        go_wp2_with fail
        go_roundw
        case rel => exact ⟨k + 1, by go_num, by omega, by rw [HQ.out.1], HB.out⟩
        case measure => simp [intOf]; omega
      · obtain rfl : k = s.size := by omega
        have hv : srvT s n = ⟨(srvL n s.size).toArray⟩ := rfl
        rw [← hv]; clear hv
        go_wp2
        refine bodyPost_ret (v := .tuple #[.string (srvT s n), .bool true]) (by simp [results, Tryd.results180, go_sem]) rfl ⟨rfl, HB.out⟩

end Go.Proofs.YtbgdngfjeikheaaDoor
