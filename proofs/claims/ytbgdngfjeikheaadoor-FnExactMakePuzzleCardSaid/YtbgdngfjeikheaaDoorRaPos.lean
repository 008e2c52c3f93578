/-
  Races: points that were won on one's own serve: the model and the program.
-/
import Derived.Test.YtbgdngfjeikheaaDoorRaServ
import Derived.Test.YtbgdngfjeikheaaDoorRaRun
import Derived.Deep.RegionHeld3
namespace Go.Proofs.YtbgdngfjeikheaaDoor
open Go.RowKit
set_option linter.unusedVariables false
set_option linter.unusedSimpArgs false

/-- Points of both on their own serve, from letter i on. -/
def posF (n : Nat) : Nat → Int → Int → List UInt8 → Int × Int
  | _, a, b, [] => (a, b)
  | i, a, b, c :: r => if c = srvC n i then posF n (i + 1) (a + upA c) (b + upB c) r else posF n (i + 1) a b r
theorem pos_eq {n i : Nat} {a b : Int} {c : UInt8} {r : List UInt8} (h : c = srvC n i) : posF n i a b (c :: r) = posF n (i + 1) (a + upA c) (b + upB c) r := by rw [posF, if_pos h]
theorem pos_ne {n i : Nat} {a b : Int} {c : UInt8} {r : List UInt8} (h : ¬ c = srvC n i) : posF n i a b (c :: r) = posF n (i + 1) a b r := by rw [posF, if_neg h]
def posP (s : ByteArray) (t : Int) : Int × Int := if srvOk s t then posF t.toNat 0 0 0 s.data.toList else (0, 0)
theorem posP_bad {s : ByteArray} {t : Int} (h : srvOk s t = false) : posP s t = (0, 0) := by unfold posP; rw [h]; rfl
theorem posP_ok {s : ByteArray} {n : Nat} (h : srvOk s n = true) : posP s n = posF n 0 0 0 s.data.toList := by unfold posP; rw [h]; rfl

theorem srvT_size (s : ByteArray) (n : Nat) : (srvT s n).size = s.size := by
  show (srvL n s.size).toArray.size = s.size
  rw [List.size_toArray, srv_len]
theorem srvT_get (s : ByteArray) (n k : Nat) (h : k < (srvT s n).size) : (srvT s n)[k] = srvC n k := by
  have h2 : k < s.size := by rw [srvT_size] at h; exact h
  have e : (srvT s n)[k] = (srvL n s.size)[k]'(by rw [srv_len]; exact h2) := rfl
  rw [e]
  have := srv_get n s.size k h2
  rw [List.getElem?_eq_getElem (by rw [srv_len]; exact h2)] at this
  exact Option.some.inj this
set_option maxHeartbeats 3200000 in
theorem specPointsOnServe_any (s : ByteArray) (t : Int) (w : World) (hs : (s.size : Int) ≤ 1000000000000) :
    Calls Tryd.prog 146 #[.string s, .int .i64 t] w fun e w' => e = .returned (.tuple #[.int .i64 (posP s t).1, .int .i64 (posP s t).2, .bool (srvOk s t)]) ∧ Below w.heap.size w w' := by
  cases h1 : ptsB s
  · have ho : srvOk s t = false := by unfold srvOk; rw [h1]; rfl
    rw [posP_bad ho, ho]
    have H1 := Lib.hid h1; clear h1 ho
    go_enter Tryd.func146, Tryd.ntmps146
    go_wp2_with fail
    refine (raPoints_any s _ hs).mono ?_; rintro e w2 ⟨rfl, rfl⟩
    rw [H1.out]
    go_wp2_with fail
    refine bodyPost_ret (v := .tuple #[.int .i64 0, .int .i64 0, .bool false]) (by simp [results, Tryd.results146, go_sem]) rfl ⟨rfl, Below.refl _ _⟩
  cases h2 : inR t 1 10
  · have ho : srvOk s t = false := by unfold srvOk; rw [h1, h2]; rfl
    rw [posP_bad ho, ho]
    have H1 := Lib.hid h1; clear h1 ho
    have H2 := Lib.hid h2; clear h2
    go_enter Tryd.func146, Tryd.ntmps146
    go_wp2_with fail
    refine (raPoints_any s _ hs).mono ?_; rintro e w2 ⟨rfl, rfl⟩
    rw [H1.out]
    go_wp2_with fail
    refine (l1In_any _ _ _ _).mono ?_; rintro e w3 ⟨rfl, rfl⟩
    rw [H2.out]
    go_wp2_with fail
    refine bodyPost_ret (v := .tuple #[.int .i64 0, .int .i64 0, .bool false]) (by simp [results, Tryd.results146, go_sem]) rfl ⟨rfl, Below.refl _ _⟩
  · have ho : srvOk s t = true := by unfold srvOk; rw [h1, h2]; rfl
    have hb := inR_true.1 h2
    obtain ⟨n, rfl⟩ : ∃ n : Nat, t = n := ⟨t.toNat, by omega⟩
    rw [posP_ok ho, ho]
    have hsz := size_bd s h1
    have hr := fun w => raServers_any s n (by omega) (by omega) hsz w
    have HR := Lib.hid hr; clear hr
    have H1 := Lib.hid h1; clear h1 ho
    have H2 := Lib.hid h2; clear h2 hb
    have hts := srvT_size s n
    have htg := srvT_get s n
    generalize srvT s n = T at *
    have HT := Lib.hid (And.intro hts htg); clear hts htg
    generalize hR : posF n 0 0 0 s.data.toList = R
    have HRR := Lib.hid hR; clear hR
    go_enter Tryd.func146, Tryd.ntmps146
    go_wp2_with fail
    refine (raPoints_any s _ hs).mono ?_; rintro e w2 ⟨rfl, rfl⟩
    rw [H1.out]
    go_wp2_with fail
    refine (l1In_any _ _ _ _).mono ?_; rintro e w3 ⟨rfl, rfl⟩
    rw [H2.out]
    go_wp2_with fail
    refine (HR.out _).mono ?_; rintro e w4 ⟨rfl, b4⟩
    go_wp2_with fail
    go_loopw [7, 8, 10] (fun p q i wr => ∃ (k : Nat) (a b : Int), i = .int .i64 k ∧ p = .int .i64 a ∧ q = .int .i64 b ∧ k ≤ s.size ∧ 0 ≤ a ∧ a ≤ k ∧ 0 ≤ b ∧ b ≤ k ∧ Hid (posF n k a b (s.data.toList.drop k) = R) ∧ Hid (Below w.heap.size w wr)) (fun _ _ i _ => s.size - (intOf i).toNat)
    case atStart => exact ⟨0, 0, 0, rfl, rfl, rfl, Nat.zero_le _, by omega, by omega, by omega, by omega, Lib.hid (by rw [List.drop_zero, HRR.out]), Lib.hid b4⟩
    case round =>
      clear b4
      obtain ⟨k, a, b, rfl, rfl, rfl, hk, a1, a2, b1, b2, HF, HB⟩ := hrel
      by_cases hlt : k < s.size
      · have hlti : (k : Int) < (s.size : Int) := by omega
        have hltT : k < T.size := by rw [HT.out.1]; exact hlt
        have hix1 := rindex s k hlt
        have hix2 := rindex T k hltT
        rw [HT.out.2 k hltT] at hix2
        have hd := HF.out
        rw [drop_cons s k hlt] at hd
        have hqa := b97 (s[k])
        have hqq := beq_u8 (s[k]) (srvC n k)
        by_cases hc : s[k] = srvC n k
        · rw [pos_eq hc] at hd
          rw [decide_eq_true hc] at hqq
          by_cases hx : s[k] = 97
          · rw [decide_eq_true hx] at hqa
            have hu : upA s[k] = 1 ∧ upB s[k] = 0 := by rw [hx]; exact ⟨rfl, rfl⟩
            rw [hu.1, hu.2, Int.add_zero] at hd
            have HD := Lib.hid hd
            have hqn : ((s[k].toNat : Int) != ((srvC n k).toNat : Int)) = false := by rw [bne, hqq]; rfl
            clear hd hc hx hu HF
            generalize ((srvC n k).toNat : Int) = v at *
            generalize (s[k].toNat : Int) = u at *
            go_wp2_with fail
            go_quiet (fail)
            go_wp2_with fail
            go_roundw
            case rel => exact ⟨k + 1, _, _, by go_num, rfl, rfl, by omega, by omega, by omega, by omega, by omega, HD, Lib.hid (below_drewN HB.out _)⟩
            case measure => simp [intOf]; omega
          · rw [decide_eq_false hx] at hqa
            have hu : upA s[k] = 0 ∧ upB s[k] = 1 := by simp [upA, upB, hx]
            rw [hu.1, hu.2, Int.add_zero] at hd
            have HD := Lib.hid hd
            have hqn : ((s[k].toNat : Int) != ((srvC n k).toNat : Int)) = false := by rw [bne, hqq]; rfl
            clear hd hc hx hu HF
            generalize ((srvC n k).toNat : Int) = v at *
            generalize (s[k].toNat : Int) = u at *
            go_wp2_with fail
            go_quiet (fail)
            go_wp2_with fail
            go_roundw
            case rel => exact ⟨k + 1, _, _, by go_num, rfl, rfl, by omega, by omega, by omega, by omega, by omega, HD, Lib.hid (below_drewN HB.out _)⟩
            case measure => simp [intOf]; omega
        · rw [pos_ne hc] at hd
          rw [decide_eq_false hc] at hqq
          have HD := Lib.hid hd
          have hqn : ((s[k].toNat : Int) != ((srvC n k).toNat : Int)) = true := by rw [bne, hqq]; rfl
          clear hd hc HF hqa
          generalize ((srvC n k).toNat : Int) = v at *
          generalize (s[k].toNat : Int) = u at *
          go_wp2_with fail
          go_quiet (fail)
          go_wp2_with fail
          go_roundw
          case rel => exact ⟨k + 1, _, _, by go_num, rfl, rfl, by omega, by omega, by omega, by omega, by omega, HD, Lib.hid (below_drewN HB.out _)⟩
          case measure => simp [intOf]; omega
      · obtain rfl : k = s.size := by omega
        have hv : R = (a, b) := by rw [← HF.out, drop_all]; rfl
        have HV := Lib.hid hv; clear hv
        go_wp2
        refine bodyPost_ret (v := .tuple #[.int .i64 a, .int .i64 b, .bool true]) (by simp [results, Tryd.results146, go_sem]) rfl ⟨by rw [HV.out], HB.out⟩

end Go.Proofs.YtbgdngfjeikheaaDoor
