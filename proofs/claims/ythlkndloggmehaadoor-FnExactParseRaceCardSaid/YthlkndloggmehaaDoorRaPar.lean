/-
  Two numbers with a mark between them, out of a text: the program (ParseRace).
-/
import Derived.Test.YthlkndloggmehaaDoorRaTx
import Derived.Test.YthlkndloggmehaaDoorRtNum
import Derived.Test.YthlkndloggmehaaDoorObAt
namespace Go.Proofs.YthlkndloggmehaaDoor
open Go.RowKit
set_option linter.unusedVariables false
set_option linter.unusedSimpArgs false

/-- The two numbers that the program reads. -/
def rd1Ra (l : List UInt8) : Int := atoiV (Lib.cut l [43]).1
def rd2Ra (l : List UInt8) : Int := atoiV (Lib.cut l [43]).2.1
def okPRa (l : List UInt8) : Bool := goodR (rd1Ra l) (rd2Ra l) && decide (textRa (rd1Ra l).toNat (rd2Ra l).toNat = l)
def valPRa (l : List UInt8) : Int × Int := if okPRa l then (rd1Ra l, rd2Ra l) else (0, 0)

theorem eq_listRa (T : List UInt8) (s : ByteArray) : ((⟨T.toArray⟩ : ByteArray).toList == s.toList) = decide (T = s.data.toList) := by
  rw [Bool.eq_iff_iff]; simp only [beq_iff_eq, decide_eq_true_eq]
  have e1 : ∀ b : ByteArray, b.toList = b.data.toList := fun b => ByteArray.toList_eq b
  rw [e1, e1]

set_option maxHeartbeats 1600000 in
set_option maxRecDepth 100000 in
theorem implParseRace_any (s : ByteArray) (hs : s.size ≤ 1048576) (w : World) (hd : Door w) :
    Calls Tryd.prog 27 #[.string s] w fun e w' => e = .returned (.tuple #[.agg #[.int .i64 (valPRa s.data.toList).1, .int .i64 (valPRa s.data.toList).2], .bool (okPRa s.data.toList)]) ∧ Below w.heap.size w w' := by
  have hr := fun w hd => readPair_any s ⟨#[43]⟩ hs w hd
  have hv : valPRa s.data.toList = if okPRa s.data.toList then (rd1Ra s.data.toList, rd2Ra s.data.toList) else (0, 0) := rfl
  have hok : okPRa s.data.toList = (goodR (rd1Ra s.data.toList) (rd2Ra s.data.toList) && decide (textRa (rd1Ra s.data.toList).toNat (rd2Ra s.data.toList).toNat = s.data.toList)) := rfl
  rw [show (⟨#[43]⟩ : ByteArray).data.toList = [43] from rfl] at hr
  change ∀ w, Door w → Calls _ _ _ _ (fun e w' => e = .returned (.tuple #[.int .i64 (rd1Ra s.data.toList), .int .i64 (rd2Ra s.data.toList)]) ∧ Below w.heap.size w w') at hr
  rw [hv]; clear hv
  generalize okPRa s.data.toList = o at *
  generalize rd1Ra s.data.toList = x at *
  generalize rd2Ra s.data.toList = y at *
  have HR := Lib.hid hr; clear hr
  have HD := Lib.hid hd; clear hd
  cases hg : goodR x y
  · have ho : o = false := by rw [hok, hg]; rfl
    subst ho
    have HT := Lib.hid (implBadRa x y hg); clear hok hg
    go_enter Tryd.func27, Tryd.ntmps27
    go_wp2_with fail
    have P0 := ObAt.new w 37 #[.int .i64 0, .int .i64 0]
    have B0 := Below.ofNew (w := w) (.cells #[.int .i64 0, .int .i64 0] 37)
    refine (HR.out _ (HD.out.keep B0)).mono ?_; rintro e w1 ⟨rfl, b1⟩
    have P1 := P0.keep b1
    have B1 := B0.trans (b1.mono B0.size)
    clear b1 P0 B0
    have P2 := ObAt.new w1 37 #[.int .i64 x, .int .i64 y]
    obtain ⟨y0, y1, y2, y3⟩ := P2.two
    have P3 := P1.old (.cells #[.int .i64 x, .int .i64 y] 37)
    have B3 := B1.alloc B1.size (.cells #[.int .i64 x, .int .i64 y] 37)
    have HB3 := Lib.hid (And.intro B3 (And.intro P3 P2))
    clear P1 B1 P2 P3 B3
    go_wp2_with fail
    refine (HT.out _).mono ?_; rintro e w2 ⟨rfl, b2⟩
    have P3 := HB3.out.2.1.keep b2
    have P2 := HB3.out.2.2.keep b2
    have B2 := Lib.hid (HB3.out.1.trans (b2.mono HB3.out.1.size)); clear b2 HB3 y0 y1 y2 y3
    obtain ⟨y0, y1, y2, y3⟩ := P3.two
    obtain ⟨z0, z1, z2, z3⟩ := P2.two
    have Q3 := ((P3.put 0 (.int .i64 0)).put 1 (.int .i64 0)).two
    have HQ := Lib.hid Q3; clear Q3 P2 P3
    go_wp2_with fail
    obtain ⟨q0, q1, q2, q3⟩ := HQ.out
    refine bodyPost_ret (v := .tuple #[.agg #[.int .i64 0, .int .i64 0], .bool false]) (by simp [results, Tryd.results27, go_sem, q0, q1]) rfl ⟨rfl, ?_⟩
    exact (B2.out.setCell (p := ⟨w.heap.size, 0, none⟩) (Nat.le_refl _) _).setCell (p := ⟨w.heap.size, 1, none⟩) (Nat.le_refl _) _
  · have hb := goodR_bd.1 hg
    obtain ⟨a, rfl⟩ : ∃ a : Nat, x = a := ⟨x.toNat, by omega⟩
    obtain ⟨b, rfl⟩ : ∃ b : Nat, y = b := ⟨y.toNat, by omega⟩
    have ht := implOkRa a b (by omega) (by omega) hg
    have hq := eq_listRa (textRa a b) s
    rw [hg, Bool.true_and, Int.toNat_natCast, Int.toNat_natCast, ← hq] at hok
    clear hq hb hg
    generalize (⟨(textRa a b).toArray⟩ : ByteArray) = T at *
    have HT := Lib.hid ht; clear ht
    cases o
    · have hq : (T.toList == s.toList) = false := hok.symm
      clear hok
      go_enter Tryd.func27, Tryd.ntmps27
      go_wp2_with fail
      have P0 := ObAt.new w 37 #[.int .i64 0, .int .i64 0]
      have B0 := Below.ofNew (w := w) (.cells #[.int .i64 0, .int .i64 0] 37)
      refine (HR.out _ (HD.out.keep B0)).mono ?_; rintro e w1 ⟨rfl, b1⟩
      have P1 := P0.keep b1
      have B1 := B0.trans (b1.mono B0.size)
      clear b1 P0 B0
      have P2 := ObAt.new w1 37 #[.int .i64 a, .int .i64 b]
      obtain ⟨y0, y1, y2, y3⟩ := P2.two
      have P3 := P1.old (.cells #[.int .i64 a, .int .i64 b] 37)
      have B3 := B1.alloc B1.size (.cells #[.int .i64 a, .int .i64 b] 37)
      have HB3 := Lib.hid (And.intro B3 (And.intro P3 P2))
      clear P1 B1 P2 P3 B3
      go_wp2_with fail
      refine (HT.out _).mono ?_; rintro e w2 ⟨rfl, b2⟩
      have P3 := HB3.out.2.1.keep b2
      have P2 := HB3.out.2.2.keep b2
      have B2 := Lib.hid (HB3.out.1.trans (b2.mono HB3.out.1.size)); clear b2 HB3 y0 y1 y2 y3
      obtain ⟨y0, y1, y2, y3⟩ := P3.two
      obtain ⟨z0, z1, z2, z3⟩ := P2.two
      have Q3 := ((P3.put 0 (.int .i64 0)).put 1 (.int .i64 0)).two
      have HQ := Lib.hid Q3; clear Q3 P2 P3
      go_wp2_with fail
      obtain ⟨q0, q1, q2, q3⟩ := HQ.out
      refine bodyPost_ret (v := .tuple #[.agg #[.int .i64 0, .int .i64 0], .bool false]) (by simp [results, Tryd.results27, go_sem, q0, q1]) rfl ⟨rfl, ?_⟩
      exact (B2.out.setCell (p := ⟨w.heap.size, 0, none⟩) (Nat.le_refl _) _).setCell (p := ⟨w.heap.size, 1, none⟩) (Nat.le_refl _) _
    · have hq : (T.toList == s.toList) = true := hok.symm
      clear hok
      go_enter Tryd.func27, Tryd.ntmps27
      go_wp2_with fail
      have P0 := ObAt.new w 37 #[.int .i64 0, .int .i64 0]
      have B0 := Below.ofNew (w := w) (.cells #[.int .i64 0, .int .i64 0] 37)
      refine (HR.out _ (HD.out.keep B0)).mono ?_; rintro e w1 ⟨rfl, b1⟩
      have P1 := P0.keep b1
      have B1 := B0.trans (b1.mono B0.size)
      clear b1 P0 B0
      have P2 := ObAt.new w1 37 #[.int .i64 a, .int .i64 b]
      obtain ⟨y0, y1, y2, y3⟩ := P2.two
      have P3 := P1.old (.cells #[.int .i64 a, .int .i64 b] 37)
      have B3 := B1.alloc B1.size (.cells #[.int .i64 a, .int .i64 b] 37)
      have HB3 := Lib.hid (And.intro B3 (And.intro P3 P2))
      clear P1 B1 P2 P3 B3
      go_wp2_with fail
      refine (HT.out _).mono ?_; rintro e w2 ⟨rfl, b2⟩
      have P3 := HB3.out.2.1.keep b2
      have P2 := HB3.out.2.2.keep b2
      have B2 := Lib.hid (HB3.out.1.trans (b2.mono HB3.out.1.size)); clear b2 HB3 y0 y1 y2 y3
      obtain ⟨y0, y1, y2, y3⟩ := P3.two
      obtain ⟨z0, z1, z2, z3⟩ := P2.two
      have Q3 := ((P3.put 0 (.int .i64 a)).put 1 (.int .i64 b)).two
      have HQ := Lib.hid Q3; clear Q3 P2 P3
      go_wp2_with fail
      obtain ⟨q0, q1, q2, q3⟩ := HQ.out
      refine bodyPost_ret (v := .tuple #[.agg #[.int .i64 a, .int .i64 b], .bool true]) (by simp [results, Tryd.results27, go_sem, q0, q1]) rfl ⟨rfl, ?_⟩
      exact (B2.out.setCell (p := ⟨w.heap.size, 0, none⟩) (Nat.le_refl _) _).setCell (p := ⟨w.heap.size, 1, none⟩) (Nat.le_refl _) _
end Go.Proofs.YthlkndloggmehaaDoor
