/-
  Races: the rank of a play: the program.
-/
import Derived.Test.YthlkndloggmehaaDoorRaTo
import Derived.Test.YthlkndloggmehaaDoorRaPlay
namespace Go.Proofs.YthlkndloggmehaaDoor
open Go.RowKit
set_option linter.unusedVariables false
set_option linter.unusedSimpArgs false

def rkT (tq ld : Int) (s : ByteArray) : Int := beforeP tq ld (cntA s.data.toList) (cntB s.data.toList) 0 0 s.data.toList
def rkOk (tq ld : Int) (s : ByteArray) : Bool := isP tq ld s && !decide (1000000000000000 < rkT tq ld s)
def rkV (tq ld : Int) (s : ByteArray) : Int := if rkOk tq ld s then rkT tq ld s else 0
theorem before_a (tq ld A B x y : Int) (l : List UInt8) : beforeP tq ld A B x y (97 :: l) = beforeP tq ld A B (x + 1) y l := by rw [beforeP, if_pos rfl]
theorem before_b (tq ld A B x y : Int) (l : List UInt8) : beforeP tq ld A B x y (98 :: l) = onR tq ld A B (x + 1) y + beforeP tq ld A B x (y + 1) l := by rw [beforeP, if_neg (by decide)]
theorem rko_at {s : ByteArray} (h : abL s.data.toList = true) {k : Nat} (hk : k < s.size) : s[k] = 97 ∨ s[k] = 98 := by
  have := List.all_eq_true.1 h s[k] (Array.getElem_mem_toList (xs := s.data) hk)
  simpa using this

/-- On the way: what the ranks of the points that are left still add. -/
structure RkF (tq ld : Int) (A B : Nat) (S : Int) (s : ByteArray) (k x y : Nat) (m : Int) : Prop where
  m0 : 0 ≤ m
  sum : m + beforeP tq ld A B x y (s.data.toList.drop k) = S
  xa : (x : Int) + cntA (s.data.toList.drop k) = A
  yb : (y : Int) + cntB (s.data.toList.drop k) = B
theorem RkF.bd {tq ld : Int} {A B : Nat} {S : Int} {s : ByteArray} {k x y : Nat} {m : Int} (h : RkF tq ld A B S s k x y m) (hS : S ≤ 200000000000000000) : m ≤ 200000000000000000 ∧ x ≤ A ∧ y ≤ B := by
  have h1 := (before_bd tq ld A B (s.data.toList.drop k) x y).1
  have h2 := (cntA_bd (s.data.toList.drop k)).1
  have h3 := (cntB_bd (s.data.toList.drop k)).1
  have h4 := h.sum; have h5 := h.xa; have h6 := h.yb
  generalize beforeP tq ld A B x y (s.data.toList.drop k) = z at *
  exact ⟨by omega, by omega, by omega⟩
theorem RkF.a {tq ld : Int} {A B : Nat} {S : Int} {s : ByteArray} {k x y : Nat} {m : Int} (h : RkF tq ld A B S s k x y m) (hk : k < s.size) (hc : s[k] = 97) : RkF tq ld A B S s (k + 1) (x + 1) y m := by
  have hd := drop_cons s k hk
  rw [hc] at hd
  obtain ⟨h1, h2, h3, h4⟩ := h
  rw [hd] at h2 h3 h4
  rw [before_a] at h2
  rw [cntA_cons] at h3
  rw [cntB_cons (.inl rfl)] at h4
  rw [show upA 97 = 1 from rfl] at h3
  rw [show upB 97 = 0 from rfl] at h4
  exact ⟨h1, by rw [Int.natCast_succ]; exact h2, by rw [Int.natCast_succ]; omega, by omega⟩
theorem RkF.b {tq ld : Int} {A B : Nat} {S : Int} {s : ByteArray} {k x y : Nat} {m : Int} (h : RkF tq ld A B S s k x y m) (hk : k < s.size) (hc : s[k] = 98) : RkF tq ld A B S s (k + 1) x (y + 1) (m + onR tq ld A B ((x : Int) + 1) y) := by
  have hd := drop_cons s k hk
  rw [hc] at hd
  have hbd := (onR_bd tq ld A B ((x : Int) + 1) y).1
  obtain ⟨h1, h2, h3, h4⟩ := h
  rw [hd] at h2 h3 h4
  rw [before_b] at h2
  rw [cntA_cons] at h3
  rw [cntB_cons (.inr rfl)] at h4
  rw [show upA 98 = 0 from rfl] at h3
  rw [show upB 98 = 1 from rfl] at h4
  exact ⟨Int.add_nonneg h1 hbd, by rw [Int.natCast_succ, Int.add_assoc]; exact h2, by omega, by rw [Int.natCast_succ]; omega⟩

theorem rplus_a (a b : Int) (w : World) (ha : 0 ≤ a) (ha' : a ≤ 1000000) (hb : 0 ≤ b) (hb' : b ≤ 1000000) :
    Calls Tryd.prog 72 #[.agg #[.int .i64 a, .int .i64 b], .string ⟨#[97]⟩] w fun e w' => e = .returned (.agg #[.int .i64 (a + 1), .int .i64 b]) ∧ Below w.heap.size w w' := by
  have := plus_any a b 97 w ha (by omega) hb (by omega)
  rw [show upA 97 = 1 from rfl, show upB 97 = 0 from rfl, Int.add_zero] at this
  exact this
theorem rplus_b (a b : Int) (w : World) (ha : 0 ≤ a) (ha' : a ≤ 1000000) (hb : 0 ≤ b) (hb' : b ≤ 1000000) :
    Calls Tryd.prog 72 #[.agg #[.int .i64 a, .int .i64 b], .string ⟨#[98]⟩] w fun e w' => e = .returned (.agg #[.int .i64 a, .int .i64 (b + 1)]) ∧ Below w.heap.size w w' := by
  have := plus_any a b 98 w ha (by omega) hb (by omega)
  rw [show upA 98 = 0 from rfl, show upB 98 = 1 from rfl, Int.add_zero] at this
  exact this

set_option maxRecDepth 100000 in
set_option maxHeartbeats 6400000 in
theorem rankOf_any (tq ld : Int) (gh : Nat) (bk : Nat → Nat) (A B : Nat) (hAB : A + B ≤ 100) (s : ByteArray) (hab : abL s.data.toList = true) (hs : s.size ≤ 100) (hA : cntA s.data.toList = A) (hB : cntB s.data.toList = B) (w : World) (h : TalF w gh bk (A + 1) (B + 1 + 1) (onR tq ld A B)) :
    Calls Tryd.prog 44 #[.slice (some ⟨gh, 0, none⟩) (A + 1 + 1) (A + 1 + 1), .string s] w fun e w' => e = .returned (.int .i64 (beforeP tq ld A B 0 0 s.data.toList)) ∧ Below w.heap.size w w' := by
  have hfr := fun (x y : Nat) (hx : x ≤ A + 1) (hy : y < B + 1 + 1) w' (hb : Below w.heap.size w w') => from_any (onR tq ld A B) gh bk (A + 1) (B + 1 + 1) x y (by omega) hx hy w' (h.keep hb)
  have HFR := Lib.hid hfr; clear hfr h
  have hbb := (before_bd tq ld A B s.data.toList 0 0).2
  have hl : s.data.toList.length = s.size := by simp
  generalize hS : beforeP tq ld A B 0 0 s.data.toList = S
  have hSb : S ≤ 200000000000000000 := by rw [hS] at hbb; unfold capR at hbb; rw [hl] at hbb; omega
  have H0 : Hid (RkF tq ld A B S s 0 0 0 0) := ⟨Int.le_refl _, by rw [List.drop_zero, Int.zero_add]; exact hS, by rw [List.drop_zero, hA]; omega, by rw [List.drop_zero, hB]; omega⟩
  have HAB := Lib.hid (And.intro hab hSb)
  clear hbb hl hS hA hB hab hSb
  have HP0 : Hid (Pair (w.alloc (.cells #[.int .i64 0, .int .i64 0] 65)) w.heap.size 0 0 ∧ Below w.heap.size w (w.alloc (.cells #[.int .i64 0, .int .i64 0] 65))) := ⟨Pair.new w 0 0 65, (Below.refl _ _).alloc (Nat.le_refl _) _⟩
  have hsI : (s.size : Int) ≤ 100 := by omega
  go_enter Tryd.func44, Tryd.ntmps44
  go_wp2_with fail
  generalize hW : w.alloc (.cells #[.int .i64 0, .int .i64 0] 65) = W0 at *
  clear hW
  go_loopw [5, 11] (fun r i wr => ∃ (k x y : Nat) (m : Int), i = .int .i64 k ∧ r = .int .i64 m ∧ k ≤ s.size ∧ Hid (RkF tq ld A B S s k x y m) ∧ Hid (Pair wr w.heap.size x y ∧ Below w.heap.size w wr)) (fun _ i _ => s.size - (intOf i).toNat)
  case atStart => exact ⟨0, 0, 0, 0, rfl, rfl, Nat.zero_le _, H0, HP0⟩
  case round =>
    clear HP0 H0
    obtain ⟨k, x, y, m, rfl, rfl, hk, HF, HQ⟩ := hrel
    obtain ⟨m1, x1, y1⟩ := HF.out.bd HAB.out.2
    have m0 := HF.out.m0
    by_cases hlt : k < s.size
    · have hlti : (k : Int) < (s.size : Int) := by omega
      have hsl := slice_one s k hlt
      have hpa := fun w => rplus_a (x : Int) (y : Int) w (by omega) (by omega) (by omega) (by omega)
      have hpb := fun w => rplus_b (x : Int) (y : Int) w (by omega) (by omega) (by omega) (by omega)
      have HC := Lib.hid (And.intro hpa hpb); clear hpa hpb
      have hc0 := HQ.out.1.2.1
      have hc1 := HQ.out.1.2.2.1
      rcases rko_at HAB.out.1 hlt with hc | hc
      · have HN := Lib.hid (HF.out.a hlt hc)
        rw [hc] at hsl
        clear hc HF m0 m1 x1 y1
        go_wp2_with fail
        refine (HC.out.1 _).mono ?_; rintro e w5 ⟨rfl, b5⟩
        have HQ5 := Lib.hid (And.intro (HQ.out.1.keep b5) (HQ.out.2.trans (b5.mono HQ.out.2.size))); clear b5 HQ hc0 hc1
        have hc0 := HQ5.out.1.2.1
        have hc1 := HQ5.out.1.2.2.1
        have hf0 := HQ5.out.1.2.2.2.1
        have hf1 := HQ5.out.1.2.2.2.2
        have HQ6 := Lib.hid (And.intro (HQ5.out.1.put ((x : Int) + 1) y) ((HQ5.out.2.setCell (p := ⟨w.heap.size, 0, none⟩) (Nat.le_refl _) (.int .i64 ((x : Int) + 1))).setCell (p := ⟨w.heap.size, 1, none⟩) (Nat.le_refl _) (.int .i64 y)))
        clear HQ5
        go_wp2_with fail
        go_roundw
        case rel => exact ⟨k + 1, x + 1, y, m, by go_num, rfl, by omega, HN, by rw [Int.natCast_succ]; exact HQ6⟩
        case measure => simp [intOf] <;> omega
      · have HN := Lib.hid (HF.out.b hlt hc)
        rw [hc] at hsl
        have hfr := fun w' (hb : Below w.heap.size w w') => HFR.out (x + 1) y (by omega) (by omega) w' hb
        simp only [Int.natCast_succ] at hfr
        have hbd := onR_bd tq ld A B ((x : Int) + 1) y
        unfold capR at hbd
        obtain ⟨hbd0, hbd1⟩ := hbd
        generalize onR tq ld A B ((x : Int) + 1) y = v at *
        have HV := Lib.hid hfr; clear hfr
        have wv : IntKind.i64.wrap (m + v) = m + v := IntWalk.i64_in _ (by omega)
        clear hc HF m0 m1 x1 y1 hbd0 hbd1
        go_wp2_with fail
        refine (HC.out.1 _).mono ?_; rintro e w3 ⟨rfl, b3⟩
        have HQ3 := Lib.hid (And.intro (HQ.out.1.keep b3) (HQ.out.2.trans (b3.mono HQ.out.2.size))); clear b3 HQ hc0 hc1
        go_wp2_with fail
        refine (HV.out _ HQ3.out.2).mono ?_; rintro e w4 ⟨rfl, b4⟩
        have HQ4 := Lib.hid (And.intro (HQ3.out.1.keep b4) (HQ3.out.2.trans (b4.mono HQ3.out.2.size))); clear b4 HQ3
        have hc0 := HQ4.out.1.2.1
        have hc1 := HQ4.out.1.2.2.1
        go_wp2_with fail
        refine (HC.out.2 _).mono ?_; rintro e w5 ⟨rfl, b5⟩
        have HQ5 := Lib.hid (And.intro (HQ4.out.1.keep b5) (HQ4.out.2.trans (b5.mono HQ4.out.2.size))); clear b5 HQ4 hc0 hc1
        have hc0 := HQ5.out.1.2.1
        have hc1 := HQ5.out.1.2.2.1
        have hf0 := HQ5.out.1.2.2.2.1
        have hf1 := HQ5.out.1.2.2.2.2
        have HQ6 := Lib.hid (And.intro (HQ5.out.1.put x ((y : Int) + 1)) ((HQ5.out.2.setCell (p := ⟨w.heap.size, 0, none⟩) (Nat.le_refl _) (.int .i64 x)).setCell (p := ⟨w.heap.size, 1, none⟩) (Nat.le_refl _) (.int .i64 ((y : Int) + 1))))
        clear HQ5
        go_wp2_with fail
        go_roundw
        case rel => exact ⟨k + 1, x, y + 1, m + v, by go_num, rfl, by omega, HN, by rw [Int.natCast_succ]; exact HQ6⟩
        case measure => simp [intOf] <;> omega
    · obtain rfl : k = s.size := by omega
      have hv : m = S := by
        have := HF.out.sum
        rw [drop_all] at this
        rw [← this]; simp [beforeP]
      have HV := Lib.hid hv; clear hv HF m0 m1 x1 y1
      go_wp2_with fail
      go_ret
      exact ⟨ret_int (by rw [HV.out]), HQ.out.2⟩

theorem rk_ok {tq ld : Int} {s : ByteArray} (h : isP tq ld s = true) : rkOk tq ld s = !decide (1000000000000000 < rkT tq ld s) ∧ rkV tq ld s = if 1000000000000000 < rkT tq ld s then 0 else rkT tq ld s := by
  have e : rkOk tq ld s = !decide (1000000000000000 < rkT tq ld s) := by unfold rkOk; rw [h, Bool.true_and]
  refine ⟨e, ?_⟩
  unfold rkV
  rw [e]
  by_cases h2 : 1000000000000000 < rkT tq ld s
  · rw [if_pos h2, decide_eq_true h2]; rfl
  · rw [if_neg h2, decide_eq_false h2]; rfl
theorem rk_bad {tq ld : Int} {s : ByteArray} (h : isP tq ld s = false) : rkOk tq ld s = false ∧ rkV tq ld s = 0 := by
  have e : rkOk tq ld s = false := by unfold rkOk; rw [h]; rfl
  exact ⟨e, by unfold rkV; rw [e]; rfl⟩

set_option maxHeartbeats 3200000 in
theorem implRankOfPlay_any (tq ld : Int) (s : ByteArray) (p0 p1 : Addr) (w : World) (hs : (s.size : Int) ≤ 1000000000000) (he : Errs w p0 p1) :
    Calls Tryd.prog 18 #[.agg #[.int .i64 tq, .int .i64 ld], .string s] w fun e w' => e = .returned (.tuple #[.int .i64 (rkV tq ld s), .bool (rkOk tq ld s)]) ∧ Below w.heap.size w w' := by
  have hpb := fun w he => pointsBehind_any tq ld s p0 p1 w hs he
  have HE := Lib.hid he; clear he
  have hb0 : Below w.heap.size w (w.alloc (.cells #[.int .i64 tq, .int .i64 ld] 37)) := (Below.refl _ _).alloc (Nat.le_refl _) _
  have HP0 := Lib.hid (And.intro (Pair.new w tq ld 37) hb0); clear hb0
  cases h1 : isP tq ld s
  · rw [(rk_bad h1).1, (rk_bad h1).2]
    have e1 : pbA tq ld s = 0 := by unfold pbA; rw [h1]; rfl
    have e2 : pbB tq ld s = 0 := by unfold pbB; rw [h1]; rfl
    rw [h1, e1, e2] at hpb
    have HPB := Lib.hid hpb; clear hpb h1 e1 e2
    go_enter Tryd.func18, Tryd.ntmps18
    go_wp2_with fail
    refine (HPB.out _ (HE.out.keep (by exact HP0.out.2))).mono ?_; rintro e w1 ⟨rfl, b1⟩
    have HB1 := Lib.hid (HP0.out.2.trans (b1.mono HP0.out.2.size)); clear b1
    go_wp2_with fail
    refine bodyPost_ret (v := .tuple #[.int .i64 0, .bool false]) (by simp [results, Tryd.results18, go_sem]) rfl ⟨rfl, ?_⟩
    exact HB1.out.alloc HB1.out.size _
  · rw [(rk_ok h1).1, (rk_ok h1).2]
    have e1 : pbA tq ld s = cntA s.data.toList := by unfold pbA; rw [h1]; rfl
    have e2 : pbB tq ld s = cntB s.data.toList := by unfold pbB; rw [h1]; rfl
    rw [h1, e1, e2] at hpb
    obtain ⟨a0, b0, ab, sz, ht, hlb⟩ := isP_bd h1
    have hab := (ptsB_true.1 (isP_true.1 h1).2.1).2
    have hgood := (isP_true.1 h1).1
    have hrk : rkT tq ld s = beforeP tq ld (cntA s.data.toList) (cntB s.data.toList) 0 0 s.data.toList := rfl
    rw [hrk]
    obtain ⟨A, hA⟩ : ∃ A : Nat, cntA s.data.toList = A := ⟨(cntA s.data.toList).toNat, by omega⟩
    obtain ⟨B, hB⟩ : ∃ B : Nat, cntB s.data.toList = B := ⟨(cntB s.data.toList).toNat, by omega⟩
    rw [hA, hB] at hpb ab ⊢
    have hro := fun gh bk w ht => rankOf_any tq ld gh bk A B (by omega) s hab sz hA hB w ht
    have hpl := fun w => playsTo_any tq ld A B w (both_true.2 ⟨hgood, by omega, by omega, by omega⟩)
    have hbb : (0 : Int) ≤ A ∧ (A : Int) ≤ 100 ∧ (0 : Int) ≤ B ∧ (B : Int) ≤ 100 := by omega
    clear hrk e1 e2 h1 a0 b0 ab ht hlb hab hgood hA hB
    generalize beforeP tq ld A B 0 0 s.data.toList = T at *
    have HPB := Lib.hid (And.intro hpb (And.intro hro hpl)); clear hpb hro hpl
    obtain ⟨g1, g2, g3, g4⟩ := hbb
    have hlc := fun w => limitCount_any T 1000000000000000 w
    by_cases hT : 1000000000000000 < T
    · rw [if_pos hT, decide_eq_true hT] at hlc ⊢
      have HLC := Lib.hid hlc; clear hlc hT
      go_enter Tryd.func18, Tryd.ntmps18
      go_wp2_with fail
      refine (HPB.out.1 _ (HE.out.keep (by exact HP0.out.2))).mono ?_; rintro e w1 ⟨rfl, b1⟩
      have hp1 := HP0.out.1.keep b1
      have hq1 := HP0.out.2.trans (b1.mono HP0.out.2.size)
      have hn1 : Below w1.heap.size w1 (w1.alloc (.cells #[.int .i64 A, .int .i64 B] 65)) := (Below.refl _ _).alloc (Nat.le_refl _) _
      have HP1 := Lib.hid (And.intro (hp1.keep hn1) (hq1.trans (hn1.mono hq1.size)))
      obtain ⟨zp, c0, c1, -, -⟩ := hp1
      clear b1 hn1 hq1
      go_wp2_with fail
      refine (HPB.out.2.2 _).mono ?_; rintro e w2 ⟨gh, bk, rfl, t2, b2⟩
      have HB2 := Lib.hid (HP1.out.2.trans (b2.mono HP1.out.2.size))
      have HT := Lib.hid t2; clear t2 b2 c0 c1 zp
      go_wp2_with fail
      refine (HPB.out.2.1 gh bk _ HT.out).mono ?_; rintro e w3 ⟨rfl, b3⟩
      have HB3 := Lib.hid (HB2.out.trans (b3.mono HB2.out.size)); clear b3
      go_wp2_with fail
      refine (HLC.out _).mono ?_; rintro e w4 ⟨rfl, rfl⟩
      go_wp2_with fail
      refine bodyPost_ret (v := .tuple #[.int .i64 0, .bool false]) (by simp [results, Tryd.results18, go_sem]) rfl ⟨rfl, HB3.out⟩
    · rw [if_neg hT, decide_eq_false hT] at hlc ⊢
      have HLC := Lib.hid hlc; clear hlc hT
      go_enter Tryd.func18, Tryd.ntmps18
      go_wp2_with fail
      refine (HPB.out.1 _ (HE.out.keep (by exact HP0.out.2))).mono ?_; rintro e w1 ⟨rfl, b1⟩
      have hp1 := HP0.out.1.keep b1
      have hq1 := HP0.out.2.trans (b1.mono HP0.out.2.size)
      have hn1 : Below w1.heap.size w1 (w1.alloc (.cells #[.int .i64 A, .int .i64 B] 65)) := (Below.refl _ _).alloc (Nat.le_refl _) _
      have HP1 := Lib.hid (And.intro (hp1.keep hn1) (hq1.trans (hn1.mono hq1.size)))
      obtain ⟨zp, c0, c1, -, -⟩ := hp1
      clear b1 hn1 hq1
      go_wp2_with fail
      refine (HPB.out.2.2 _).mono ?_; rintro e w2 ⟨gh, bk, rfl, t2, b2⟩
      have HB2 := Lib.hid (HP1.out.2.trans (b2.mono HP1.out.2.size))
      have HT := Lib.hid t2; clear t2 b2 c0 c1 zp
      go_wp2_with fail
      refine (HPB.out.2.1 gh bk _ HT.out).mono ?_; rintro e w3 ⟨rfl, b3⟩
      have HB3 := Lib.hid (HB2.out.trans (b3.mono HB2.out.size)); clear b3
      go_wp2_with fail
      refine (HLC.out _).mono ?_; rintro e w4 ⟨rfl, rfl⟩
      go_wp2_with fail
      refine bodyPost_ret (v := .tuple #[.int .i64 T, .bool true]) (by simp [results, Tryd.results18, go_sem]) rfl ⟨rfl, HB3.out⟩
end Go.Proofs.YthlkndloggmehaaDoor
