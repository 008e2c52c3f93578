/-
  Races: the greatest comeback: the model and the program.
-/
import Derived.Test.YtooaeafnneikkaaDoorRaWin
import Derived.Test.YtooaeafnneikkaaDoorRaFew
import Derived.Deep.RegionHeld3
namespace Go.Proofs.YtooaeafnneikkaaDoor
open Go.RowKit
set_option linter.unusedVariables false
set_option linter.unusedSimpArgs false

/-- By how much the side c is behind at most, from a and b points and so many on. -/
def comeL (c : UInt8) (a b m : Int) : List UInt8 → Int
  | [] => m
  | x :: r => comeL c (a + upA x) (b + upB x) (maxI m ((a + upA x) + (b + upB x) - 2 * ofC (a + upA x) (b + upB x) c)) r
theorem come_cons {c : UInt8} {a b m : Int} {x : UInt8} {r : List UInt8} : comeL c a b m (x :: r) = comeL c (a + upA x) (b + upB x) (maxI m ((a + upA x) + (b + upB x) - 2 * ofC (a + upA x) (b + upB x) c)) r := rfl
theorem come_step {c x : UInt8} {a b : Int} (hc : c = 97 ∨ c = 98) (hx : x = 97 ∨ x = 98) :
    (a + upA x) + (b + upB x) - 2 * ofC (a + upA x) (b + upB x) c = (a + b - 2 * ofC a b c) + (if x = c then -1 else 1) := by
  rcases hc with rfl | rfl <;> rcases hx with rfl | rfl <;> simp [upA, upB, ofC] <;> omega
/-- The letter of the side that has won. -/
def wonC (n : Nat) : UInt8 := if n = 1 then 97 else 98
def comeOk (to ld : Int) (s : ByteArray) : Bool := isP to ld s && decide (wonN to ld (cntA s.data.toList) (cntB s.data.toList) ≠ 0)
def comeV (to ld : Int) (s : ByteArray) : Int := if comeOk to ld s then comeL (wonC (wonN to ld (cntA s.data.toList) (cntB s.data.toList))) 0 0 0 s.data.toList else 0
theorem come_bad {to ld : Int} {s : ByteArray} (h : isP to ld s = false ∨ wonN to ld (cntA s.data.toList) (cntB s.data.toList) = 0) : comeOk to ld s = false ∧ comeV to ld s = 0 := by
  have e : comeOk to ld s = false := by unfold comeOk; rcases h with h | h <;> rw [h] <;> simp
  exact ⟨e, by unfold comeV; rw [e]; rfl⟩
theorem come_ok {to ld : Int} {s : ByteArray} (h : isP to ld s = true) (h2 : wonN to ld (cntA s.data.toList) (cntB s.data.toList) ≠ 0) : comeOk to ld s = true ∧ comeV to ld s = comeL (wonC (wonN to ld (cntA s.data.toList) (cntB s.data.toList))) 0 0 0 s.data.toList := by
  have e : comeOk to ld s = true := by unfold comeOk; rw [h]; simpa using h2
  exact ⟨e, by unfold comeV; rw [e]; rfl⟩
theorem won_12 {to ld a b : Int} (h : wonN to ld a b ≠ 0) : sideT (wonN to ld a b) = ⟨#[wonC (wonN to ld a b)]⟩ ∧ (wonC (wonN to ld a b) = 97 ∨ wonC (wonN to ld a b) = 98) ∧ (⟨#[wonC (wonN to ld a b)]⟩ : ByteArray).toList ≠ [45] := by
  rcases wonI_eq to ld a b with ⟨e, -⟩ | ⟨e, -⟩ | ⟨e, -⟩
  · exact absurd e h
  · rw [e]; exact ⟨rfl, .inl rfl, by rw [ByteArray.toList_eq]; decide⟩
  · rw [e]; exact ⟨rfl, .inr rfl, by rw [ByteArray.toList_eq]; decide⟩
theorem ab_at {s : ByteArray} (h : abL s.data.toList = true) {k : Nat} (hk : k < s.size) : s[k] = 97 ∨ s[k] = 98 := by
  have h2 := drop_cons s k hk
  have h3 : abL (s.data.toList.drop k) = true := by
    unfold abL at *
    rw [List.all_eq_true] at h ⊢
    exact fun x hx => h x (List.mem_of_mem_drop hx)
  rw [h2] at h3
  exact (abL_cons.1 h3).1
theorem rindex (s : ByteArray) (k : Nat) (h : k < s.size) (w : World) : (Instr.index 9 (.string s) (.int .i64 (k : Int))).run Tryd.prog w = .ok (.int .u8 ((s[k]'h).toNat : Int)) w := by
  rw [run_index_string w _ _ _ _ Tryd.underlying9]
  simp [h]
theorem beq_u8 (c d : UInt8) : ((c.toNat : Int) == (d.toNat : Int)) = decide (c = d) := by
  rw [Bool.eq_iff_iff]; simp only [beq_iff_eq, decide_eq_true_eq]
  constructor
  · intro h; exact UInt8.toNat_inj.1 (by omega)
  · intro h; rw [h]

set_option maxHeartbeats 3200000 in
theorem specGreatestComeback_any (to ld : Int) (s : ByteArray) (w : World) (hs : (s.size : Int) ≤ 1000000000000) :
    Calls Tryd.prog 27 #[.agg #[.int .i64 to, .int .i64 ld], .string s] w fun e w' => e = .returned (.tuple #[.int .i64 (comeV to ld s), .bool (comeOk to ld s)]) ∧ Below w.heap.size w w' := by
  have his := fun w => raIs_any to ld s w hs
  have HI := Lib.hid his; clear his
  cases h1 : isP to ld s
  · rw [(come_bad (.inl h1)).1, (come_bad (.inl h1)).2]
    rw [h1] at HI
    clear h1
    go_enter Tryd.func27, Tryd.ntmps27
    go_wp2_with fail
    refine (HI.out _).mono ?_; rintro e w1 ⟨rfl, b1⟩
    go_wp2_with fail
    refine bodyPost_ret (v := .tuple #[.int .i64 0, .bool false]) (by simp [results, Tryd.results27, go_sem]) rfl ⟨rfl, ?_⟩
    have sz_b1 := b1.size; (try simp at sz_b1)
    (repeat (first | exact Below.refl _ _ | exact ‹Below _ _ _› | refine Below.drew ?_ | refine Below.alloc ?_ (by first | omega | (simp; done) | (simp; omega)) _ | refine Below.setCell ?_ (by first | omega | (simp; done) | (simp; omega)) _ | refine Below.trans ?_ (Below.mono ‹Below _ _ _› (by first | omega | (simp; done) | (simp; omega)))))
  have hsd := fun w => raSide_any to ld s w h1
  by_cases h2 : wonN to ld (cntA s.data.toList) (cntB s.data.toList) = 0
  · rw [(come_bad (.inr h2)).1, (come_bad (.inr h2)).2]
    rw [h2] at hsd
    rw [h1] at HI
    unfold sideT at hsd
    have HS := Lib.hid hsd; clear hsd h1 h2
    go_enter Tryd.func27, Tryd.ntmps27
    go_wp2_with fail
    refine (HI.out _).mono ?_; rintro e w1 ⟨rfl, b1⟩
    obtain ⟨c1, f1⟩ := bcell b1; have z1 : w.heap.size < w1.heap.size := (by have := b1.size; (try simp at this); omega)
    go_wp2_with fail
    refine (HS.out _).mono ?_; rintro e w2 ⟨rfl, b2⟩
    go_wp2_with fail
    refine bodyPost_ret (v := .tuple #[.int .i64 0, .bool false]) (by simp [results, Tryd.results27, go_sem]) rfl ⟨rfl, ?_⟩
    have sz_b1 := b1.size; (try simp at sz_b1); have sz_b2 := b2.size; (try simp at sz_b2)
    (repeat (first | exact Below.refl _ _ | exact ‹Below _ _ _› | refine Below.drew ?_ | refine Below.alloc ?_ (by first | omega | (simp; done) | (simp; omega)) _ | refine Below.setCell ?_ (by first | omega | (simp; done) | (simp; omega)) _ | refine Below.trans ?_ (Below.mono ‹Below _ _ _› (by first | omega | (simp; done) | (simp; omega)))))
  · rw [(come_ok h1 h2).1, (come_ok h1 h2).2]
    obtain ⟨e1, e2, e3⟩ := won_12 h2
    have hab := (ptsB_true.1 (isP_true.1 h1).2.1).2
    have HAB := Lib.hid hab
    obtain ⟨a0, b0, ab, sz, -, -⟩ := isP_bd h1
    rw [e1] at hsd
    rw [h1] at HI
    clear h1 h2 e1 hab a0 b0 ab
    generalize wonC (wonN to ld (cntA s.data.toList) (cntB s.data.toList)) = c at *
    have e4 : ((⟨#[c]⟩ : ByteArray).toList == [45]) = false := by simpa using e3
    have c45 : (c == 45) = false := by rcases e2 with rfl | rfl <;> decide
    have HS := Lib.hid (And.intro hsd e2); clear hsd e2
    have hix0 : ∀ w : World, (Instr.index 9 (.string ⟨#[c]⟩) (.int .i64 0)).run Tryd.prog w = .ok (.int .u8 (c.toNat : Int)) w := fun w => rindex ⟨#[c]⟩ 0 (by show 0 < 1; omega) w
    generalize hR : comeL c 0 0 0 s.data.toList = R
    have HR := Lib.hid hR; clear hR
    go_enter Tryd.func27, Tryd.ntmps27
    go_wp2_with fail
    refine (HI.out _).mono ?_; rintro e w1 ⟨rfl, b1⟩
    obtain ⟨c1, f1⟩ := bcell b1; have z1 : w.heap.size < w1.heap.size := (by have := b1.size; (try simp at this); omega)
    go_wp2_with fail
    refine (HS.out.1 _).mono ?_; rintro e w2 ⟨rfl, b2⟩
    obtain ⟨c2, f2⟩ := bcell b2; have z2 : w.heap.size < w2.heap.size := (by have := b2.size; (try simp at this); omega)
    go_wp2_with fail
    refine (HS.out.1 _).mono ?_; rintro e w3 ⟨rfl, b3⟩
    have HB3 : Hid (Below w.heap.size w w3) := by
      have sz_b1 := b1.size; (try simp at sz_b1); have sz_b2 := b2.size; (try simp at sz_b2); have sz_b3 := b3.size; (try simp at sz_b3)
      show Below w.heap.size w w3
      (repeat (first | exact Below.refl _ _ | exact ‹Below _ _ _› | refine Below.drew ?_ | refine Below.alloc ?_ (by first | omega | (simp; done) | (simp; omega)) _ | refine Below.setCell ?_ (by first | omega | (simp; done) | (simp; omega)) _ | refine Below.trans ?_ (Below.mono ‹Below _ _ _› (by first | omega | (simp; done) | (simp; omega)))))
    clear b1 b2 b3 c1 c2 f1 f2 z1 z2 e3 e4 c45
    go_wp2_with fail
    clear hix0
    go_loopw [7, 8, 9] (fun p q i wr => ∃ (k : Nat) (a b m : Int), i = .int .i64 k ∧ p = .int .i64 (a + b - 2 * ofC a b c) ∧ q = .int .i64 m ∧ k ≤ s.size ∧ 0 ≤ a ∧ a ≤ k ∧ 0 ≤ b ∧ b ≤ k ∧ 0 ≤ m ∧ m ≤ 2 * k ∧ Hid (comeL c a b m (s.data.toList.drop k) = R) ∧ Hid (Below w.heap.size w wr)) (fun _ _ i _ => s.size - (intOf i).toNat)
    case atStart => exact ⟨0, 0, 0, 0, rfl, by simp [ofC], rfl, Nat.zero_le _, by omega, by omega, by omega, by omega, by omega, by omega, Lib.hid (by rw [List.drop_zero, HR.out]), HB3⟩
    case round =>
      clear HB3
      obtain ⟨k, a, b, m, rfl, rfl, rfl, hk, a1, a2, b1, b2, m1, m2, HF, HB⟩ := hrel
      have hob : 0 ≤ ofC a b c ∧ ofC a b c ≤ k := by unfold ofC; split <;> omega
      by_cases hlt : k < s.size
      · have hlti : (k : Int) < (s.size : Int) := by omega
        have hix := rindex s k hlt
        have hx := ab_at HAB.out hlt
        have hd := HF.out
        rw [drop_cons s k hlt, come_cons, come_step HS.out.2 hx] at hd
        have hqq := beq_u8 (s[k]) c
        have hu : 0 ≤ upA s[k] ∧ upA s[k] ≤ 1 ∧ 0 ≤ upB s[k] ∧ upB s[k] ≤ 1 := by unfold upA upB; split <;> omega
        have hst := come_step (a := a) (b := b) HS.out.2 hx
        obtain ⟨u1, u2, u3, u4⟩ := hu
        generalize hcu : a + b - 2 * ofC a b c = cu at *
        have hcb : -1000 ≤ cu ∧ cu ≤ 2 * k := by omega
        by_cases hc : s[k] = c
        · rw [decide_eq_true hc] at hqq
          rw [if_pos hc] at hd hst
          have hmm := fun w => l1Most_any m (cu + -1) w
          rw [show cu + -1 = cu - 1 from by omega] at hd hst hmm
          have hmb : 0 ≤ maxI m (cu - 1) ∧ maxI m (cu - 1) ≤ 2 * k + 2 := by rw [maxI_eq]; omega
          have HD := Lib.hid (And.intro hd (And.intro hst hmm)); clear hd hst hmm hx hc HF hcu
          generalize (c.toNat : Int) = v at *
          generalize (s[k].toNat : Int) = u at *
          generalize maxI m (cu - 1) = mx at *
          generalize upA s[k] = ua at *
          generalize upB s[k] = ub at *
          go_wp2_with fail
          refine (HD.out.2.2 _).mono ?_; rintro e w4 ⟨rfl, rfl⟩
          go_wp2_with fail
          go_roundw
          case rel => exact ⟨k + 1, a + ua, b + ub, mx, by go_num, by rw [HD.out.2.1], rfl, by omega, by omega, by omega, by omega, by omega, by omega, by omega, Lib.hid HD.out.1, HB⟩
          case measure => simp [intOf]; omega
        · rw [decide_eq_false hc] at hqq
          rw [if_neg hc] at hd hst
          have hmm := fun w => l1Most_any m (cu + 1) w
          have hmb : 0 ≤ maxI m (cu + 1) ∧ maxI m (cu + 1) ≤ 2 * k + 2 := by rw [maxI_eq]; omega
          have HD := Lib.hid (And.intro hd (And.intro hst hmm)); clear hd hst hmm hx hc HF hcu
          generalize (c.toNat : Int) = v at *
          generalize (s[k].toNat : Int) = u at *
          generalize maxI m (cu + 1) = mx at *
          generalize upA s[k] = ua at *
          generalize upB s[k] = ub at *
          go_wp2_with fail
          refine (HD.out.2.2 _).mono ?_; rintro e w4 ⟨rfl, rfl⟩
          go_wp2_with fail
          go_roundw
          case rel => exact ⟨k + 1, a + ua, b + ub, mx, by go_num, by rw [HD.out.2.1], rfl, by omega, by omega, by omega, by omega, by omega, by omega, by omega, Lib.hid HD.out.1, HB⟩
          case measure => simp [intOf]; omega
      · obtain rfl : k = s.size := by omega
        have hv : R = m := by rw [← HF.out, drop_all]; rfl
        have HV := Lib.hid hv; clear hv hob a1 a2 b1 b2 m1 m2 HF
        generalize a + b - 2 * ofC a b c = cu at *
        go_wp2
        refine bodyPost_ret (v := .tuple #[.int .i64 m, .bool true]) (by simp [results, Tryd.results27, go_sem]) rfl ⟨by rw [HV.out], HB.out⟩

end Go.Proofs.YtooaeafnneikkaaDoor
