/-
  Frames: the model goes along a break.
-/
import Derived.Test.YtaplkciomagmiabDoorFrAfter
namespace Go.Proofs.YtaplkciomagmiabDoor
open Go.RowKit
set_option linter.unusedVariables false

/-- What the model's frAfter hands back: the frame at which it stands, and whether the break is one. -/
def AfterS (s : ByteArray) (n : Nat) (w : World) (k : Nat) (wr : World) : Prop :=
  ∃ (m : Nat), k ≤ s.size ∧ after n (s.data.toList.take k) = some m ∧ FrAt wr w.heap.size (frR m) (frC m) (frL m) ∧ FrAt wr (w.heap.size + 1) 0 false 0 ∧ Below w.heap.size w wr

/-- A frame laid in a block of its own, beside the two of the call. -/
def StepAt (w X : World) (b p q : Nat) : Prop :=
  FrAt X b (frR p) (frC p) (frL p) ∧ FrAt X w.heap.size (frR q) (frC q) (frL q) ∧ FrAt X (w.heap.size + 1) 0 false 0 ∧ Below w.heap.size w X
abbrev zeroC : Obj := .cells #[.int .i64 0, .bool false, .int .i64 0] 29
abbrev put3 (w : World) (b p : Nat) : World := ((w.setCell ⟨b, 0, none⟩ (.int .i64 (frR p))).setCell ⟨b, 1, none⟩ (.bool (frC p))).setCell ⟨b, 2, none⟩ (.int .i64 (frL p))

theorem FrAt.put3_other {w : World} {g b p : Nat} {r : Int} {c : Bool} {l : Int} (h : FrAt w g r c l) (hne : g ≠ b) : FrAt (put3 w b p) g r c l := ((h.other hne _).other hne _).other hne _
theorem below_put3 {B : Nat} {a w : World} (h : Below B a w) {b p : Nat} (hb : B ≤ b) : Below B a (put3 w b p) := ((h.setCell (p := ⟨b, 0, none⟩) hb _).setCell (p := ⟨b, 1, none⟩) hb _).setCell (p := ⟨b, 2, none⟩) hb _

theorem step1 {w wr w2 : World} {p q : Nat} (hA : FrAt wr w.heap.size (frR q) (frC q) (frL q)) (hB : FrAt wr (w.heap.size + 1) 0 false 0) (hbel : Below w.heap.size w wr)
    (b2 : Below (wr.alloc zeroC).drew.heap.size (wr.alloc zeroC).drew w2) : StepAt w (put3 w2 wr.heap.size p) wr.heap.size p q := by
  have zA := hA.lt
  have zB := hB.lt
  have k : ∀ {g : Nat} {r : Int} {c : Bool} {l : Int}, FrAt (wr.alloc zeroC) g r c l → FrAt w2 g r c l := fun h => h.drew.keep b2
  refine ⟨(k (FrAt.new wr 0 false 0)).stored _ _ _, (k (hA.old _)).put3_other (by omega), (k (hB.old _)).put3_other (by omega), below_put3 (((hbel.alloc (by omega) _).drew).trans (b2.mono (by simp; omega))) (by omega)⟩
theorem step2 {w wr w2 : World} {p q : Nat} (hA : FrAt wr w.heap.size (frR q) (frC q) (frL q)) (hB : FrAt wr (w.heap.size + 1) 0 false 0) (hbel : Below w.heap.size w wr)
    (b2 : Below wr.drew.heap.size wr.drew w2) : StepAt w (w2.alloc (.cells #[.int .i64 (frR p), .bool (frC p), .int .i64 (frL p)] 29)) w2.heap.size p q := by
  have zA := hA.lt
  have z2 := b2.size
  simp at z2
  have k : ∀ {g : Nat} {r : Int} {c : Bool} {l : Int}, FrAt wr g r c l → FrAt w2 g r c l := fun h => h.drew.keep b2
  exact ⟨FrAt.new w2 _ _ _, (k hA).old _, (k hB).old _, ((hbel.drew).trans (b2.mono (by simp; omega))).alloc (by omega) _⟩

set_option maxHeartbeats 6400000 in
set_option maxRecDepth 100000 in
theorem frAfter_n (n : Nat) (hn : n ≤ 36) (s : ByteArray) (hs : ¬ (36 : Int) < s.size) (w : World) :
    Calls Tryd.prog 21 #[frV n, .string s] w fun e w' => (∃ x : Nat, e = .returned (.tuple #[frV ((after n s.data.toList).getD x), .bool (after n s.data.toList).isSome])) ∧ Below w.heap.size w w' := by
  have hs36 : (s.size : Int) ≤ 36 := by omega
  go_enter Tryd.func21, Tryd.ntmps21
  go_wp2_with fail
  go_loopw [6] (fun i wr => ∃ k : Nat, i = .int .i64 k ∧ k ≤ s.size ∧ Hid (AfterS s n w k wr)) (fun i _ => s.size - (intOf i).toNat)
  case atStart => exact ⟨0, rfl, Nat.zero_le _, Lib.hid ⟨n, Nat.zero_le _, by simp [after], (FrAt.new w _ _ _).old _, by have := FrAt.new (w.alloc (.cells #[.int .i64 (frR n), .bool (frC n), .int .i64 (frL n)] 29)) 0 false 0; rw [World.size_alloc] at this; exact this, ((Below.refl w.heap.size w).alloc (Nat.le_refl _) _).alloc (by simp) _⟩⟩
  case round =>
    obtain ⟨k, rfl, hk0, hH⟩ := hrel
    obtain ⟨m, hk, ha, tA, tB, hbel⟩ := hH.out
    clear hH
    have hm36 : m ≤ 36 := by have := after_len _ _ _ ha; omega
    by_cases hp : k < s.size
    · by_cases hmem : s[k] ∈ nextL m
      · obtain ⟨m', rfl⟩ : ∃ m', m = m' + 1 := by
          cases m with
          | zero => cases hmem
          | succ m' => exact ⟨m', rfl⟩
        have hgo := after_go hp ha hmem
        have hcall := frPot_yes m' (by omega) s[k] hmem
        obtain ⟨y0, y1, y2, x0, x1, x2⟩ := tA.cells
        have zA := tA.lt
        have zB := tB.lt
        have HH := Lib.hid (And.intro hbel (And.intro tA (And.intro tB (And.intro hgo hcall)))); clear hbel tA tB ha hgo hcall hmem
        go_wp2_with fail
        go_region_with (go_at_call 33; refine (HH.out.2.2.2.2 _).mono ?_; rintro e w2 ⟨rfl, b2⟩; obtain ⟨c2, f2⟩ := bcell b2; have z2 := b2.size; (try simp at z2))
        all_goals clear c2 f2 y0 y1 y2 x0 x1 x2
        all_goals first
          | (have hP := step1 (p := m') HH.out.2.1 HH.out.2.2.1 HH.out.1 (b2 : Below (wr.alloc zeroC).drew.heap.size (wr.alloc zeroC).drew w2)
             unfold put3 at hP
             generalize (((w2.setCell ⟨wr.heap.size, 0, none⟩ (.int .i64 (frR m'))).setCell ⟨wr.heap.size, 1, none⟩ (.bool (frC m'))).setCell ⟨wr.heap.size, 2, none⟩ (.int .i64 (frL m'))) = X at hP ⊢
             generalize wr.heap.size = bb at hP ⊢)
          | (have hP := step2 (p := m') HH.out.2.1 HH.out.2.2.1 HH.out.1 (b2 : Below wr.drew.heap.size wr.drew w2)
             generalize w2.alloc (.cells #[.int .i64 (frR m'), .bool (frC m'), .int .i64 (frL m')] 29) = X at hP ⊢
             generalize w2.heap.size = bb at hP ⊢)
        all_goals
          obtain ⟨tN, tA, tB, hB⟩ := hP
          clear b2 z2
          obtain ⟨d0, d1, d2, -, -, -⟩ := tN.cells
          obtain ⟨e0, e1, e2, e3, e4, e5⟩ := tA.cells
          have hS := tA.stored (frR m') (frC m') (frL m')
          have tB5 := tB.put3_other (b := w.heap.size) (p := m') (by omega)
          have B5 := below_put3 (b := w.heap.size) (p := m') hB (Nat.le_refl _)
          have H5 := Lib.hid (And.intro hS (And.intro tB5 B5)); clear hS tB5 B5 tA tB hB tN
          go_wp2
          go_roundw
          case rel => exact ⟨k + 1, by go_num, by omega, Lib.hid ⟨m', by omega, HH.out.2.2.2.1, H5.out.1, H5.out.2.1, H5.out.2.2⟩⟩
          case measure => simp [intOf]; omega
      · have hnone := after_fail hp ha hmem
        have hcall := frPot_no m s[k] hmem
        obtain ⟨y0, y1, y2, x0, x1, x2⟩ := tA.cells
        have zA := tA.lt
        have zB := tB.lt
        have HH := Lib.hid (And.intro hbel (And.intro tA (And.intro tB (And.intro hnone hcall)))); clear hbel tA tB ha hnone hcall hmem
        go_wp2_with fail
        go_region_with (go_at_call 33; refine (HH.out.2.2.2.2 _).mono ?_; rintro e w2 ⟨rfl, b2⟩; obtain ⟨c2, f2⟩ := bcell b2; have z2 := b2.size; (try simp at z2))
        all_goals clear c2 f2 y0 y1 y2 x0 x1 x2
        all_goals first
          | (have hP := step1 (p := m) HH.out.2.1 HH.out.2.2.1 HH.out.1 (b2 : Below (wr.alloc zeroC).drew.heap.size (wr.alloc zeroC).drew w2)
             unfold put3 at hP
             generalize (((w2.setCell ⟨wr.heap.size, 0, none⟩ (.int .i64 (frR m))).setCell ⟨wr.heap.size, 1, none⟩ (.bool (frC m))).setCell ⟨wr.heap.size, 2, none⟩ (.int .i64 (frL m))) = X at hP ⊢
             generalize wr.heap.size = bb at hP ⊢)
          | (have hP := step2 (p := m) HH.out.2.1 HH.out.2.2.1 HH.out.1 (b2 : Below wr.drew.heap.size wr.drew w2)
             generalize w2.alloc (.cells #[.int .i64 (frR m), .bool (frC m), .int .i64 (frL m)] 29) = X at hP ⊢
             generalize w2.heap.size = bb at hP ⊢)
        all_goals
          obtain ⟨tN, tA, tB, hB⟩ := hP
          clear b2 z2
          obtain ⟨e0, e1, e2, e3, e4, e5⟩ := tA.cells
          obtain ⟨g0, g1, g2, g3, g4, g5⟩ := tB.cells
          obtain ⟨p0, p1, p2⟩ := tB.put (.int .i64 (frR m)) (.bool (frC m)) (.int .i64 (frL m))
          have H5 := Lib.hid hB; clear tA tB hB tN
          go_wp2
          refine bodyPost_ret (v := .tuple #[frV m, .bool false]) (by simp [results, Tryd.results21, go_sem, p0, p1, p2]) rfl ⟨⟨m, by rw [HH.out.2.2.2.1]; rfl⟩, ?_⟩
          have hbel := H5.out
          (repeat (first | exact Below.refl _ _ | exact ‹Below _ _ _› | refine Below.drew ?_ | refine Below.alloc ?_ (by first | omega | (simp; done) | (simp; omega)) _ | refine Below.setCell ?_ (by first | omega | (simp; done) | (simp; omega)) _ | refine Below.trans ?_ (Below.mono ‹Below _ _ _› (by first | omega | (simp; done) | (simp; omega)))))
    · obtain rfl : k = s.size := by omega
      rw [take_all] at ha
      obtain ⟨y0, y1, y2, x0, x1, x2⟩ := tA.cells
      obtain ⟨z0, z1, z2, v0, v1, v2⟩ := tB.cells
      obtain ⟨p0, p1, p2⟩ := tB.put (.int .i64 (frR m)) (.bool (frC m)) (.int .i64 (frL m))
      have HH := Lib.hid (And.intro ha hbel); clear ha hbel tA tB
      go_wp2
      refine bodyPost_ret (v := .tuple #[frV m, .bool true]) (by simp [results, Tryd.results21, go_sem, p0, p1, p2]) rfl ⟨⟨0, by rw [HH.out.1]; rfl⟩, ?_⟩
      have hbel := HH.out.2
      (repeat (first | exact Below.refl _ _ | exact ‹Below _ _ _› | refine Below.drew ?_ | refine Below.alloc ?_ (by first | omega | (simp; done) | (simp; omega)) _ | refine Below.setCell ?_ (by first | omega | (simp; done) | (simp; omega)) _ | refine Below.trans ?_ (Below.mono ‹Below _ _ _› (by first | omega | (simp; done) | (simp; omega)))))

end Go.Proofs.YtaplkciomagmiabDoor
