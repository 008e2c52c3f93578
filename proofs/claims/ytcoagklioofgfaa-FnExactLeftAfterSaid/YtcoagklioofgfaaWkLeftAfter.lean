/- LeftAfter: the model and the program, and the law over them. -/
import Derived.Test.YtcoagklioofgfaaDartThrow
import Derived.Test.YtcoagklioofgfaaDartOpen
namespace Go.Proofs.Ytcoagklioofgfaa.ExLeftAfter
open Go.RowKit

def leftV : Option (Int × Bool) → Value
  | some (n, _) => .tuple #[.int .i64 n, .bool true]
  | none => .tuple #[.int .i64 0, .bool false]

def leftB : Option (Int × Bool) → Int | some (n, _) => n | none => 0
def okB : Option (Int × Bool) → Bool | some _ => true | none => false
theorem leftV_eq (t : Option (Int × Bool)) : leftV t = .tuple #[.int .i64 (leftB t), .bool (okB t)] := by
  match t with
  | none => rfl
  | some (_, _) => rfl

set_option maxHeartbeats 1600000 in
theorem spec_any (l : List (Int × Int)) (left : Int) (a : Option Addr) (c : Nat) (w : World) (hl : (l.length : Int) ≤ 1000000000000) (h : Reads w a (darts l)) :
    Calls Try.prog 46 #[.int .i64 left, .slice a l.length c] w fun e w' => e = .returned (leftV (visitRes left l)) ∧ Below w.heap.size w w' := by
  have HR := Lib.hid h; clear h
  cases hq : askedB left l
  · have hv : visitRes left l = none := by simp [visitRes, hq]
    rw [hv]; clear hv
    have HQ := Lib.hid hq; clear hq
    go_enter Try.func46, Try.ntmps46
    go_wp2_with fail
    refine (daAsked_any l _ _ _ _ hl HR.out).mono ?_; rintro e w1 ⟨rfl, bd⟩
    rw [HQ.out]
    go_wp2_with fail
    refine bodyPost_ret (v := leftV none) (by simp [results, Try.results46, go_sem, leftV]) rfl ⟨rfl, bd⟩
  · have hv : visitRes left l = okT (visitT left left l) := by simp [visitRes, hq, visit_throw]
    rw [hv]; clear hv
    obtain ⟨h1, h2, h3, h4, hg⟩ := asked_parts hq
    have HQ := Lib.hid hq; clear hq
    have HG := Lib.hid hg; clear hg
    go_enter Try.func46, Try.ntmps46
    go_wp2_with fail
    refine (daAsked_any l _ _ _ _ hl HR.out).mono ?_; rintro e w1 ⟨rfl, bd⟩
    rw [HQ.out]
    go_wp2_with fail
    refine (daVisit_any l left _ _ _ hl (HR.out.old bd) HG.out h1 h2).mono ?_; rintro e w2 ⟨rfl, bd2⟩
    have HB := Lib.hid (bd.trans (bd2.mono bd.size)); clear bd bd2
    generalize ht : visitT left left l = t
    obtain ⟨n, b, ok⟩ := t
    have HT := Lib.hid ht; clear ht
    unfold tripV
    cases ok
    · go_wp2_with fail
      refine bodyPost_ret (v := leftV none) (by simp [results, Try.results46, go_sem, leftV]) rfl ⟨by rw [HT.out]; rfl, HB.out⟩
    · go_wp2_with fail
      refine bodyPost_ret (v := leftV (some (n, b))) (by simp [results, Try.results46, go_sem, leftV]) rfl ⟨by rw [HT.out]; rfl, HB.out⟩

set_option maxHeartbeats 1600000 in
theorem impl_any (l : List (Int × Int)) (left : Int) (a : Option Addr) (c : Nat) (w : World) (hl : (l.length : Int) ≤ 1000000000000) (h : Reads w a (darts l)) :
    Calls Try.prog 47 #[.int .i64 left, .slice a l.length c] w fun e w' => e = .returned (leftV (visitRes left l)) ∧ Below w.heap.size w w' := by
  have HR := Lib.hid h; clear h
  go_enter Try.func47, Try.ntmps47
  go_wp2_with fail
  refine (throw_any l left _ _ _ hl HR.out).mono ?_; rintro e w1 ⟨rfl, bd⟩
  generalize ht : visitRes left l = t
  match t, ht with
  | none, ht =>
    have HT := Lib.hid ht; clear ht
    unfold throwR
    go_wp2_with fail
    refine bodyPost_ret (v := leftV none) (by simp [results, Try.results47, go_sem, leftV]) rfl ⟨by rw [HT.out], bd⟩
  | some (n, b), ht =>
    have HT := Lib.hid ht; clear ht
    unfold throwR
    go_wp2_with fail
    refine bodyPost_ret (v := leftV (some (n, b))) (by simp [results, Try.results47, go_sem, leftV]) rfl ⟨by rw [HT.out], bd⟩

set_option maxHeartbeats 1600000 in
theorem walk (left : Int) (a : Option Addr) (n c : Nat) (l : List (Int × Int)) (w : World) (h : l.length = n ∧ (n : Int) ≤ 9223372036854775807 ∧ Reads w a (darts l)) :
    Calls Try.prog 14 #[.int .i64 left, .slice a n c] w fun e w' => e = .returned (.bool true) ∧ Below w.heap.size w w' := by
  obtain ⟨rfl, hmx, hr⟩ := h
  by_cases hsz : (1048576 : Int) < (l.length : Int)
  · have hz : szN 1048576 l.length = -1 := by unfold szN; omega
    have HZ := Lib.hid hz; clear hz hr
    go_enter Try.func14, Try.ntmps14
    go_wp2_with fail
    refine (szDartS_any _ _ _ _ _ hmx (by omega) (by omega)).mono ?_; rintro e w1 ⟨rfl, rfl⟩
    rw [HZ.out]
    go_wp2_with fail
    go_ret
    exact ⟨rfl, Below.refl _ _⟩
  · have hz : 0 ≤ szN 1048576 l.length := by unfold szN; omega
    have HR := Lib.hid hr; clear hr
    have hl : (l.length : Int) ≤ 1048576 := by omega
    have hl2 : (l.length : Int) ≤ 1000000000000 := by omega
    clear hsz
    go_enter Try.func14, Try.ntmps14
    go_wp2_with fail
    refine (szDartS_any _ _ _ _ _ hmx (by omega) (by omega)).mono ?_; rintro e w1 ⟨rfl, rfl⟩
    generalize szN 1048576 l.length = sz at *
    go_wp2_with fail
    refine (toDartS_any l _ _ _ hl HR.out).mono ?_; rintro e w1 ⟨g1, rfl, hg1, hf1, b1⟩
    go_wp2_with fail
    refine (spec_any l left _ _ _ hl2 hf1.reads).mono ?_; rintro e w2 ⟨rfl, b2⟩
    have HB2 := Lib.hid (b1.trans (b2.mono b1.size)); clear b1 b2 hf1
    rw [leftV_eq]
    go_wp2_with fail
    refine (toDartS_any l _ _ _ hl (HR.out.old HB2.out)).mono ?_; rintro e w3 ⟨g2, rfl, hg2, hf2, b3⟩
    have HB3 := Lib.hid (HB2.out.trans (b3.mono HB2.out.size)); clear b3 HB2
    go_wp2_with fail
    refine (impl_any l left _ _ _ hl2 hf2.reads).mono ?_; rintro e w4 ⟨rfl, b4⟩
    have HB4 := Lib.hid (HB3.out.trans (b4.mono HB3.out.size)); clear HB3
    have hf4 := hf2.keep b4
    clear b4 hf2
    rw [leftV_eq]
    have q1 : (leftB (visitRes left l) != leftB (visitRes left l)) = false := by simp
    have q2 : (okB (visitRes left l) != okB (visitRes left l)) = false := by simp
    go_wp2_with fail
    refine (toDartS_any l _ _ _ hl (HR.out.old HB4.out)).mono ?_; rintro e w5 ⟨g3, rfl, hg3, hf5, b5⟩
    have HB5 := Lib.hid (HB4.out.trans (b5.mono HB4.out.size)); clear HB4
    have hf6 := hf4.keep b5
    clear b5 hf4
    go_wp2_with fail
    refine (eqDartS_any l l _ _ _ _ _ hl2 hl2 hf6.reads hf5.reads).mono ?_; rintro e w6 ⟨rfl, b6⟩
    have HB6 := Lib.hid (HB5.out.trans (b6.mono HB5.out.size)); clear HB5 b6
    rw [show SameD l l = true from by simp [SameD]]
    go_wp2_with fail
    go_ret
    exact ⟨rfl, HB6.out⟩

end Go.Proofs.Ytcoagklioofgfaa.ExLeftAfter
