/-
  Frames: the program goes along a break.
-/
import Derived.Test.YtaplkciomagmiabDoorFrRune
namespace Go.Proofs.YtaplkciomagmiabDoor
open Go.RowKit
set_option linter.unusedVariables false

theorem FrAt.iterAt {w : World} {g k : Nat} {r : Int} {c : Bool} {l : Int} (h : FrAt w g r c l) (hne : g ≠ k) (s : ByteArray) (pos : Nat) : FrAt (w.iterAt k s pos) g r c l := by
  unfold FrAt at *; rw [Lib.iterAt_other _ _ _ _ _ hne]; exact h
theorem next_ascii (n : Nat) : asciiL (nextS n).data.toList := by
  rw [next_list]; unfold nextL asciiL
  intro b hb
  split at hb
  · cases hb
  · split at hb
    · rename_i h1 h6
      simp only [List.mem_singleton] at hb
      subst hb
      simp; omega
    · split at hb
      · simp at hb; rcases hb with rfl | rfl | rfl | rfl | rfl | rfl <;> decide
      · simp at hb; subst hb; decide

/-- What FrameAfter hands back. -/
def afterV : Option Nat → Value
  | some m => .tuple #[frV m, .bool true]
  | none => .tuple #[frW 0 false 0, .bool false]

theorem hasR_ascii (n : Nat) (c : UInt8) (h : c.toNat < 128) : hasR (nextS n).data.toList (c.toNat : Int) = decide (c ∈ nextL n) := by
  rw [next_list]; unfold hasR
  have : ((c.toNat : Int)).toNat = c.toNat := by omega
  rw [this, Bool.eq_iff_iff]; simp; intro _; omega
theorem hasR_high (l : List UInt8) (r : Int) (h : 128 ≤ r) : hasR l r = false := by unfold hasR; simp; omega
theorem high_not (n : Nat) (c : UInt8) (h : 128 ≤ c.toNat) : c ∉ nextL n := fun hc => by
  have := next_ascii n c (by rw [next_list]; exact hc); omega

/-- What holds at the head of each round. -/
def AfterAt (s : ByteArray) (n : Nat) (w : World) (K : Nat) (wr : World) : Prop :=
  ∃ (pos m : Nat), pos ≤ s.size ∧ after n (s.data.toList.take pos) = some m ∧ FrAt wr w.heap.size (frR m) (frC m) (frL m) ∧ FrAt wr (w.heap.size + 1) 0 false 0 ∧
    wr.heap[K]? = some (.stringIter s pos) ∧ Below w.heap.size w wr

theorem list_split (s : ByteArray) (pos : Nat) (h : pos < s.size) : s.data.toList = s.data.toList.take pos ++ s[pos] :: s.data.toList.drop (pos + 1) := by
  rw [← drop_cons s pos h, List.take_append_drop]
theorem after_fail {s : ByteArray} {n m pos : Nat} (h : pos < s.size) (ha : after n (s.data.toList.take pos) = some m) (hc : s[pos] ∉ nextL m) : after n s.data.toList = none := by
  rw [list_split s pos h]
  cases m with
  | zero => exact after_over _ _ _ _ ha
  | succ m =>
    have h1 := after_snoc _ _ _ s[pos] ha
    rw [if_neg hc] at h1
    have := after_dead _ _ (s.data.toList.drop (pos + 1)) h1
    simpa using this
theorem after_go {s : ByteArray} {n m pos : Nat} (h : pos < s.size) (ha : after n (s.data.toList.take pos) = some (m + 1)) (hc : s[pos] ∈ nextL (m + 1)) : after n (s.data.toList.take (pos + 1)) = some m := by
  rw [take_snoc s pos h, after_snoc _ _ _ _ ha, if_pos hc]

set_option maxHeartbeats 3200000 in
set_option maxRecDepth 100000 in
theorem frameAfter_n (n : Nat) (hn : n ≤ 36) (s : ByteArray) (w : World) :
    Calls Tryd.prog 24 #[frV n, .string s] w fun e w' => e = .returned (afterV (after n s.data.toList)) ∧ Below w.heap.size w w' := by
  have HG := Lib.hid (frG_of hn)
  go_enter Tryd.func24, Tryd.ntmps24
  go_wp2_with fail
  refine (isFrame_any _ _ _ _).mono ?_; rintro e w1 ⟨rfl, b1⟩
  rw [HG.out]
  obtain ⟨tA, tB⟩ := two_new b1
  have hs1 : w.heap.size + 1 < w1.heap.size := tB.lt
  have hA0 : AfterAt s n w w1.heap.size (w1.iter s 0) := ⟨0, n, Nat.zero_le _, by simp [after], tA.old _, tB.old _, World.iter_heap _ _ _, ((((Below.refl w.heap.size w).alloc (Nat.le_refl _) _).alloc (by simp) _).trans (b1.mono (by simp; omega))).alloc (by omega) _⟩
  have HA0 := Lib.hid hA0; clear hA0 tA tB b1
  go_wp2_with fail
  generalize hK : w1.heap.size = K at *
  go_loopw [7] (fun _ wr => Hid (AfterAt s n w K wr)) (fun _ wr => s.size - wr.iterPos K)
  case atStart => exact HA0
  case round =>
    obtain ⟨pos, m, hpos, ha, tA, tB, hit, hbel⟩ := hrel.out
    clear hrel HA0
    have hgK0 : w.heap.size ≠ K := by omega
    have hgK1 : w.heap.size + 1 ≠ K := by omega
    have hm36 : m ≤ 36 := by have := after_len _ _ _ ha; omega
    have HIP := Lib.hid (iterPos_of hit)
    by_cases hp : pos < s.size
    · by_cases hmem : s[pos] ∈ nextL m
      · obtain ⟨m', rfl⟩ : ∃ m', m = m' + 1 := by
          cases m with
          | zero => cases hmem
          | succ m' => exact ⟨m', rfl⟩
        have hasc : s[pos].toNat < 128 := by
          have := next_ascii (m' + 1) s[pos] (by rw [next_list]; exact hmem)
          exact this
        have hnx := fun ty => Lib.run_next_ascii_at (P := Tryd.prog) wr K s pos ty hit hp hasc
        have hhas := hasR_ascii (m' + 1) s[pos] hasc
        rw [decide_eq_true hmem] at hhas
        have hgo := after_go hp ha hmem
        have hr0 : (0 : Int) ≤ (s[pos].toNat : Int) := by omega
        have hr1 : (s[pos].toNat : Int) ≤ 2147483647 := by omega
        have hsz := Lib.iterAt_size wr K s (pos + 1)
        have hB1 := Lib.below_iterAt hbel (by omega : w.heap.size ≤ K) s (pos + 1)
        have tA1 := tA.iterAt hgK0 s (pos + 1)
        have tB1 := tB.iterAt hgK1 s (pos + 1)
        have hit1 := Lib.iterAt_heap wr K s pos (pos + 1) hit
        clear tA tB hit hbel ha
        generalize wr.iterAt K s (pos + 1) = wa at *
        obtain ⟨y0, y1, y2, x0, x1, x2⟩ := tA1.cells
        have HH := Lib.hid (And.intro hB1 (And.intro tA1 (And.intro tB1 (And.intro hit1 (And.intro hgo hhas))))); clear hB1 tA1 tB1 hit1 hgo hhas hmem hasc
        go_wp2_with fail
        refine (ballsToPot_n (m' + 1) _).mono ?_; rintro e w2 ⟨rfl, b2⟩
        have B2 := HH.out.1.trans (b2.mono HH.out.1.size)
        have tA2 := HH.out.2.1.keep b2
        have tB2 := HH.out.2.2.1.keep b2
        have hit2 : w2.heap[K]? = some (.stringIter s (pos + 1)) := by rw [b2.block K (Array.getElem?_eq_some_iff.1 HH.out.2.2.2.1).1]; exact HH.out.2.2.2.1
        have H2 := Lib.hid (And.intro B2 (And.intro tA2 (And.intro tB2 hit2))); clear B2 tA2 tB2 hit2 b2
        go_wp2_with fail
        refine (containsRune_any (nextS (m' + 1)) (next_ascii _) (by have := next_size (m' + 1); omega) _ hr0 hr1 _).mono ?_; rintro e w3 ⟨rfl, b3⟩
        rw [HH.out.2.2.2.2.2]
        have B3 := H2.out.1.trans (b3.mono H2.out.1.size)
        have tA3 := H2.out.2.1.keep b3
        have tB3 := H2.out.2.2.1.keep b3
        have hit3 : w3.heap[K]? = some (.stringIter s (pos + 1)) := by rw [b3.block K (Array.getElem?_eq_some_iff.1 H2.out.2.2.2).1]; exact H2.out.2.2.2
        obtain ⟨d0, d1, d2, d3, d4, d5⟩ := tA3.cells
        have H3 := Lib.hid (And.intro B3 (And.intro tA3 (And.intro tB3 hit3))); clear B3 tA3 tB3 hit3 b3
        clear y0 y1 y2 x0 x1 x2
        go_wp2_with fail
        refine (frameBehind_n m' (by omega) _).mono ?_; rintro e w4 ⟨rfl, b4⟩
        have B4 := H3.out.1.trans (b4.mono H3.out.1.size)
        have tA4 := H3.out.2.1.keep b4
        have tB4 := H3.out.2.2.1.keep b4
        have hit4 : w4.heap[K]? = some (.stringIter s (pos + 1)) := by rw [b4.block K (Array.getElem?_eq_some_iff.1 H3.out.2.2.2).1]; exact H3.out.2.2.2
        obtain ⟨e0, e1, e2, e3, e4, e5⟩ := tA4.cells
        have hS := tA4.stored (frR m') (frC m') (frL m')
        have tB5 := ((tB4.other (h := w.heap.size) (o := 0) (by omega) (.int .i64 (frR m'))).other (h := w.heap.size) (o := 1) (by omega) (.bool (frC m'))).other (h := w.heap.size) (o := 2) (by omega) (.int .i64 (frL m'))
        have hit5 : ((((w4.setCell ⟨w.heap.size, 0, none⟩ (.int .i64 (frR m'))).setCell ⟨w.heap.size, 1, none⟩ (.bool (frC m'))).setCell ⟨w.heap.size, 2, none⟩ (.int .i64 (frL m')))).heap[K]? = some (.stringIter s (pos + 1)) := by
          rw [Below.heap_setCell _ _ _ _ (by show K ≠ w.heap.size; omega), Below.heap_setCell _ _ _ _ (by show K ≠ w.heap.size; omega), Below.heap_setCell _ _ _ _ (by show K ≠ w.heap.size; omega)]; exact hit4
        have B5 := ((B4.setCell (p := ⟨w.heap.size, 0, none⟩) (Nat.le_refl _) (.int .i64 (frR m'))).setCell (p := ⟨w.heap.size, 1, none⟩) (Nat.le_refl _) (.bool (frC m'))).setCell (p := ⟨w.heap.size, 2, none⟩) (Nat.le_refl _) (.int .i64 (frL m'))
        have H5 := Lib.hid (And.intro hS (And.intro tB5 (And.intro hit5 B5))); clear hS tB5 hit5 B5 tA4 tB4 hit4 B4 b4
        clear d0 d1 d2 d3 d4 d5
        go_wp2
        go_roundw
        case rel => exact Lib.hid ⟨pos + 1, m', by omega, HH.out.2.2.2.2.1, H5.out.1, H5.out.2.1, H5.out.2.2.1, H5.out.2.2.2⟩
        case measure => rw [iterPos_of H5.out.2.2.1, HIP.out]; omega
      · have hnone := after_fail hp ha hmem
        have key : ∃ (rn : Int) (wd : Nat), 0 ≤ rn ∧ rn ≤ 2147483647 ∧ hasR (nextS m).data.toList rn = false ∧
            (∀ ty, (Instr.next (.pointer (some ⟨K, 0, none⟩)) true ty).run Tryd.prog wr = .ok (.tuple #[.bool true, .int .i64 pos, .int .i32 rn]) (wr.iterAt K s (pos + wd))) := by
          by_cases hasc : s[pos].toNat < 128
          · refine ⟨s[pos].toNat, 1, by omega, by omega, ?_, fun ty => Lib.run_next_ascii_at (P := Tryd.prog) wr K s pos ty hit hp hasc⟩
            rw [hasR_ascii m _ hasc, decide_eq_false hmem]
          · have hd := decode_high s pos hp (by omega)
            have hd2 := decode_le s pos
            refine ⟨(Utf8.decode s pos).1, (Utf8.decode s pos).2, by omega, by omega, hasR_high _ _ (by omega), fun ty => Lib.run_next_any_at (P := Tryd.prog) wr K s pos ty hit hp⟩
        obtain ⟨rn, wd, hr0, hr1, hhas, hnx⟩ := key
        have hB1 := Lib.below_iterAt hbel (by omega : w.heap.size ≤ K) s (pos + wd)
        have tA1 := tA.iterAt hgK0 s (pos + wd)
        have tB1 := tB.iterAt hgK1 s (pos + wd)
        clear tA tB hit hbel ha
        generalize wr.iterAt K s (pos + wd) = wa at *
        obtain ⟨y0, y1, y2, x0, x1, x2⟩ := tA1.cells
        have HH := Lib.hid (And.intro hB1 (And.intro tA1 (And.intro tB1 (And.intro hnone hhas)))); clear hB1 tA1 tB1 hnone hhas hmem
        go_wp2_with fail
        refine (ballsToPot_n m _).mono ?_; rintro e w2 ⟨rfl, b2⟩
        have B2 := HH.out.1.trans (b2.mono HH.out.1.size)
        have tB2 := HH.out.2.2.1.keep b2
        have H2 := Lib.hid (And.intro B2 tB2); clear B2 tB2 b2
        go_wp2_with fail
        refine (containsRune_any (nextS m) (next_ascii _) (by have := next_size m; omega) _ hr0 hr1 _).mono ?_; rintro e w3 ⟨rfl, b3⟩
        rw [HH.out.2.2.2.2]
        have B3 := H2.out.1.trans (b3.mono H2.out.1.size)
        have tB3 := H2.out.2.keep b3
        obtain ⟨z0, z1, z2, v0, v1, v2⟩ := tB3.cells
        obtain ⟨p0, p1, p2⟩ := tB3.put (.int .i64 0) (.bool false) (.int .i64 0)
        have H3 := Lib.hid B3; clear B3 tB3 b3
        clear y0 y1 y2 x0 x1 x2
        go_wp2
        refine bodyPost_ret (v := .tuple #[frW 0 false 0, .bool false]) (by simp [results, Tryd.results24, go_sem, p0, p1, p2]) rfl ⟨by rw [HH.out.2.2.2.1]; rfl, ?_⟩
        have hbel := H3.out
        (repeat (first | exact Below.refl _ _ | exact ‹Below _ _ _› | refine Below.drew ?_ | refine Below.alloc ?_ (by first | omega | (simp; done) | (simp; omega)) _ | refine Below.setCell ?_ (by first | omega | (simp; done) | (simp; omega)) _ | refine Below.trans ?_ (Below.mono ‹Below _ _ _› (by first | omega | (simp; done) | (simp; omega)))))
    · obtain rfl : pos = s.size := by omega
      have hnx := fun ty => Lib.run_next_end_at (P := Tryd.prog) wr K s s.size ty hit hp
      rw [take_all] at ha
      obtain ⟨y0, y1, y2, x0, x1, x2⟩ := tA.cells
      obtain ⟨z0, z1, z2, v0, v1, v2⟩ := tB.cells
      obtain ⟨p0, p1, p2⟩ := tB.put (.int .i64 (frR m)) (.bool (frC m)) (.int .i64 (frL m))
      have HH := Lib.hid (And.intro ha hbel); clear ha hbel hit tA tB
      go_wp2
      refine bodyPost_ret (v := .tuple #[frV m, .bool true]) (by simp [results, Tryd.results24, go_sem, p0, p1, p2]) rfl ⟨by rw [HH.out.1]; rfl, ?_⟩
      have hbel := HH.out.2
      (repeat (first | exact Below.refl _ _ | exact ‹Below _ _ _› | refine Below.drew ?_ | refine Below.alloc ?_ (by first | omega | (simp; done) | (simp; omega)) _ | refine Below.setCell ?_ (by first | omega | (simp; done) | (simp; omega)) _ | refine Below.trans ?_ (Below.mono ‹Below _ _ _› (by first | omega | (simp; done) | (simp; omega)))))

end Go.Proofs.YtaplkciomagmiabDoor
