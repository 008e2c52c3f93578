/- What the exact law of ParseFrame does, step by step. -/
import Derived.Test.YtlehhkijigglgaaDoorFrParseT
import Derived.Test.YtlehhkijigglgaaDoorFrAfterS
import Derived.WalkMore
import Derived.ScopeJumps
namespace Go.Proofs.YtlehhkijigglgaaDoor.ExParseFrame
open Go.RowKit
set_option linter.unusedVariables false

set_option maxHeartbeats 400000 in
theorem law_long (s0 : ByteArray) (w : World) (hl : (1048576 : Int) < (s0.size : Int)) :
    Calls Tryd.prog 18 #[.string s0] w fun e w' => e = .returned (.bool true) ∧ Below w.heap.size w w' := by
  go_enter Tryd.func18, Tryd.ntmps18
  go_wp2
  go_ret
  refine ⟨rfl, ?_⟩
  (repeat (first | exact Below.refl _ _ | exact ‹Below _ _ _› | refine Below.drew ?_ | refine Below.alloc ?_ (by first | omega | (simp; done) | (simp; omega)) _ | refine Below.setCell ?_ (by first | omega | (simp; done) | (simp; omega)) _ | refine Below.trans ?_ (Below.mono ‹Below _ _ _› (by first | omega | (simp; done) | (simp; omega)))))

set_option maxHeartbeats 800000 in
theorem law_of (s0 : ByteArray) (fr : Int) (fc : Bool) (fl : Int) (o1 : Bool) (hs : (∀ w : World, Calls Tryd.prog 58 #[.string s0] w fun e w' => e = .returned (.tuple #[frW fr fc fl, .bool o1]) ∧ Below w.heap.size w w')) (hi : (∀ w : World, Calls Tryd.prog 59 #[.string s0] w fun e w' => e = .returned (.tuple #[frW fr fc fl, .bool o1]) ∧ Below w.heap.size w w')) (w : World) (hl : ¬ (1048576 : Int) < (s0.size : Int)) :
    Calls Tryd.prog 18 #[.string s0] w fun e w' => e = .returned (.bool true) ∧ Below w.heap.size w w' := by
  have HS := Lib.hid hs; clear hs
  have HI := Lib.hid hi; clear hi
  have q1 : (o1 != o1) = false := by simp
  go_enter Tryd.func18, Tryd.ntmps18
  go_wp2_with fail
  refine (HS.out _).mono ?_; rintro e w1 ⟨rfl, b1⟩
  go_wp2_with fail
  refine (HI.out _).mono ?_; rintro e w2 ⟨rfl, b2⟩
  have tA := ((FrAt.new w1 fr fc fl).keep b2)
  obtain ⟨z0, z1, z2, -, -, -⟩ := tA.cells
  have zA := tA.lt
  go_wp2_with fail
  refine (eqFrame_same _ _ _ _).mono ?_; rintro e w3 ⟨rfl, b3⟩
  go_wp2_with fail
  go_ret
  refine ⟨rfl, ?_⟩
  have sz_b1 := b1.size; (try simp at sz_b1); have sz_b2 := b2.size; (try simp at sz_b2); have sz_b3 := b3.size; (try simp at sz_b3)
  (repeat (first | exact Below.refl _ _ | exact ‹Below _ _ _› | refine Below.drew ?_ | refine Below.alloc ?_ (by first | omega | (simp; done) | (simp; omega)) _ | refine Below.setCell ?_ (by first | omega | (simp; done) | (simp; omega)) _ | refine Below.trans ?_ (Below.mono ‹Below _ _ _› (by first | omega | (simp; done) | (simp; omega)))))

theorem pOk_len {l : List UInt8} (h : ¬ (3 ≤ l.length ∧ l.length ≤ 4)) : pOk l = false := by
  unfold pOk
  have : (decide (3 ≤ l.length) && decide (l.length ≤ 4)) = false := by simp; omega
  rw [this]; rfl

set_option maxHeartbeats 800000 in
theorem frParse_out (s : ByteArray) (h : ¬ (3 ≤ s.size ∧ s.size ≤ 4)) (hz : (s.size : Int) ≤ 1048576) (w : World) :
    Calls Tryd.prog 86 #[.string s] w fun e w' => e = .returned (.tuple #[frW 0 false 0, .bool false]) ∧ Below w.heap.size w w' := by
  have HI := Lib.hid (show inR (s.size : Int) 3 4 = false by unfold inR; simp; omega)
  clear h
  go_enter Tryd.func86, Tryd.ntmps86
  go_wp2_with fail
  refine (l1In_any _ _ _ _).mono ?_; rintro e w' ⟨rfl, rfl⟩
  rw [HI.out]
  go_wp2_with fail
  refine bodyPost_ret (v := .tuple #[frW 0 false 0, .bool false]) (by simp [results, Tryd.results86, go_sem]) rfl ⟨rfl, ?_⟩
  (repeat (first | exact Below.refl _ _ | exact ‹Below _ _ _› | refine Below.drew ?_ | refine Below.alloc ?_ (by first | omega | (simp; done) | (simp; omega)) _ | refine Below.setCell ?_ (by first | omega | (simp; done) | (simp; omega)) _ | refine Below.trans ?_ (Below.mono ‹Below _ _ _› (by first | omega | (simp; done) | (simp; omega)))))

/-- Whatever the text: what the model's frParse hands back. -/
theorem frParse_any (s : ByteArray) (hz : (s.size : Int) ≤ 1048576) :
    ∃ (r : Int) (c : Bool) (l : Int), (pOk s.data.toList = true → r = pR s.data.toList ∧ c = pC s.data.toList ∧ l = pL s.data.toList) ∧
      ∀ w : World, Calls Tryd.prog 86 #[.string s] w fun e w' => e = .returned (.tuple #[frW r c l, .bool (pOk s.data.toList)]) ∧ Below w.heap.size w w' := by
  by_cases h : 3 ≤ s.size ∧ s.size ≤ 4
  · obtain ⟨k, hk⟩ : ∃ k, s.size = k + 2 := ⟨s.size - 2, by omega⟩
    cases hg : frG (pR s.data.toList) (pC s.data.toList) (pL s.data.toList)
    · have hp : pOk s.data.toList = false := by unfold pOk; rw [hg]; simp
      rw [hp]
      exact ⟨_, _, _, fun hh => by (cases hh), frParse_bad s k hk (by omega) (by omega) hg⟩
    · obtain ⟨n, hn, e1, e2, e3⟩ := frG_n hg
      have ht : ∀ w : World, Calls Tryd.prog 84 #[frW (pR s.data.toList) (pC s.data.toList) (pL s.data.toList)] w fun e w' => e = .returned (.string ⟨(textL n).toArray⟩) ∧ Below w.heap.size w w' := by
        rw [e1, e2, e3]; exact specText_n n hn
      have hq := frParse_good s k hk (by omega) (by omega) hg _ ht
      have hp : (ByteArray.toList ⟨(textL n).toArray⟩ == s.toList) = pOk s.data.toList := by
        unfold pOk
        rw [hg, rlen, decide_eq_true (by omega : 3 ≤ s.size), decide_eq_true (by omega : s.size ≤ 4), ByteArray.toList_mk, ByteArray.toList_eq]
        have : textAB (pR s.data.toList).toNat (pL s.data.toList).toNat (pC s.data.toList) = textL n := by
          rw [e1, e2, e3]; unfold textL; rw [frR_N, frL_N]; rfl
        rw [this, Bool.eq_iff_iff]; simp
      rw [hp] at hq
      exact ⟨_, _, _, fun _ => ⟨rfl, rfl, rfl⟩, hq⟩
  · have hp := pOk_len (l := s.data.toList) (by rw [rlen]; exact h)
    rw [hp]
    exact ⟨0, false, 0, fun hh => by (cases hh), frParse_out s h hz⟩

set_option maxHeartbeats 1600000 in
theorem spec_any (s : ByteArray) (hz : (s.size : Int) ≤ 1048576) (w : World) :
    Calls Tryd.prog 58 #[.string s] w fun e w' => e = .returned (afterV (findN s.data.toList 36)) ∧ Below w.heap.size w w' := by
  obtain ⟨r, c, l, hv, hc⟩ := frParse_any s hz
  have HC := Lib.hid hc; clear hc
  obtain ⟨f1, f2⟩ := p_find s.data.toList
  cases hp : pOk s.data.toList
  · rw [f2 hp]
    rw [hp] at HC
    clear f1 f2 hv hp
    go_enter Tryd.func58, Tryd.ntmps58
    go_wp2_with fail
    refine (HC.out _).mono ?_; rintro e w1 ⟨rfl, b1⟩
    have tB := ((FrAt.new w 0 false 0).keep b1).old (.cells #[.int .i64 r, .bool c, .int .i64 l] 26)
    obtain ⟨z0, z1, z2, v0, v1, v2⟩ := tB.cells
    obtain ⟨p0, p1, p2⟩ := tB.put (.int .i64 0) (.bool false) (.int .i64 0)
    clear tB
    go_wp2_with fail
    refine bodyPost_ret (v := .tuple #[frW 0 false 0, .bool false]) (by simp [results, Tryd.results58, go_sem, p0, p1, p2]) rfl ⟨rfl, ?_⟩
    have sz_b1 := b1.size; (try simp at sz_b1)
    (repeat (first | exact Below.refl _ _ | exact ‹Below _ _ _› | refine Below.drew ?_ | refine Below.alloc ?_ (by first | omega | (simp; done) | (simp; omega)) _ | refine Below.setCell ?_ (by first | omega | (simp; done) | (simp; omega)) _ | refine Below.trans ?_ (Below.mono ‹Below _ _ _› (by first | omega | (simp; done) | (simp; omega)))))
  · obtain ⟨m, hm, hf, e1, e2, e3⟩ := f1 hp
    obtain ⟨rfl, rfl, rfl⟩ := hv hp
    rw [hf]
    rw [hp, e1, e2, e3] at HC
    clear f1 f2 hv hp e1 e2 e3 hf
    go_enter Tryd.func58, Tryd.ntmps58
    go_wp2_with fail
    refine (HC.out _).mono ?_; rintro e w1 ⟨rfl, b1⟩
    have tB := ((FrAt.new w 0 false 0).keep b1).old (.cells #[.int .i64 (frR m), .bool (frC m), .int .i64 (frL m)] 26)
    obtain ⟨z0, z1, z2, v0, v1, v2⟩ := tB.cells
    obtain ⟨p0, p1, p2⟩ := tB.put (.int .i64 (frR m)) (.bool (frC m)) (.int .i64 (frL m))
    clear tB
    go_wp2_with fail
    refine bodyPost_ret (v := .tuple #[frV m, .bool true]) (by simp [results, Tryd.results58, go_sem, p0, p1, p2]) rfl ⟨rfl, ?_⟩
    have sz_b1 := b1.size; (try simp at sz_b1)
    (repeat (first | exact Below.refl _ _ | exact ‹Below _ _ _› | refine Below.drew ?_ | refine Below.alloc ?_ (by first | omega | (simp; done) | (simp; omega)) _ | refine Below.setCell ?_ (by first | omega | (simp; done) | (simp; omega)) _ | refine Below.trans ?_ (Below.mono ‹Below _ _ _› (by first | omega | (simp; done) | (simp; omega)))))

set_option maxHeartbeats 400000 in
theorem first15 (w : World) :
    Calls Tryd.prog 87 #[.int .i64 15] w fun e w' => e = .returned (.tuple #[frV 36, .bool true]) ∧ Below w.heap.size w w' := by
  have H := Lib.hid (show frG 15 false 2 = true by decide)
  go_enter Tryd.func87, Tryd.ntmps87
  go_wp2_with fail
  refine (isFrame_any _ _ _ _).mono ?_; rintro e w1 ⟨rfl, b1⟩
  rw [H.out]
  obtain ⟨tA, tB⟩ := two_new b1
  obtain ⟨y0, y1, y2, x0, x1, x2⟩ := tA.cells
  obtain ⟨z0, z1, z2, v0, v1, v2⟩ := tB.cells
  obtain ⟨p0, p1, p2⟩ := tA.put (.int .i64 15) (.bool false) (.int .i64 2)
  clear tA tB
  go_wp2_with fail
  refine bodyPost_ret (v := .tuple #[frW 15 false 2, .bool true]) (by simp [results, Tryd.results87, go_sem, p0, p1, p2]) rfl ⟨rfl, ?_⟩
  (repeat (first | exact Below.refl _ _ | exact ‹Below _ _ _› | refine Below.drew ?_ | refine Below.alloc ?_ (by first | omega | (simp; done) | (simp; omega)) _ | refine Below.setCell ?_ (by first | omega | (simp; done) | (simp; omega)) _ | refine Below.trans ?_ (Below.mono ‹Below _ _ _› (by first | omega | (simp; done) | (simp; omega)))))

def textS (n : Nat) : ByteArray := ⟨(textL n).toArray⟩
theorem textS_eq (n : Nat) (s : ByteArray) : ((textS n).toList == s.toList) = decide (textL n = s.data.toList) := by
  unfold textS
  rw [ByteArray.toList_mk, ByteArray.toList_eq, Bool.eq_iff_iff]; simp

def blkOf : Value → Nat
  | .pointer (some a) => a.block
  | _ => 0

/-- The number of the frame in a block. -/
def numOf (r : Int) (c : Bool) (l : Int) : Nat := if c then 7 + 2 * r.toNat else if r = 0 then (8 - l).toNat else 6 + 2 * r.toNat
def numAt (b : Nat) (w : World) : Nat := match w.cell? ⟨b, 0, none⟩, w.cell? ⟨b, 1, none⟩, w.cell? ⟨b, 2, none⟩ with
  | some (.int _ r), some (.bool c), some (.int _ l) => numOf r c l
  | _, _, _ => 0
theorem numAt_n {b n : Nat} {w : World} (h : FrAt w b (frR n) (frC n) (frL n)) (hn : n ≤ 36) : numAt b w = n := by
  have : ∀ m, m ≤ 36 → numOf (frR m) (frC m) (frL m) = m := by decide +kernel
  obtain ⟨h0, h1, h2, -, -, -⟩ := h.cells
  unfold numAt; rw [h0, h1, h2]; exact this n hn

/-- What holds at every jump. -/
def JmpAt (s : ByteArray) (w : World) (b n : Nat) (wr : World) : Prop :=
  n ≤ 36 ∧ findN s.data.toList n = findN s.data.toList 36 ∧ FrAt wr b (frR n) (frC n) (frL n) ∧ FrAt wr w.heap.size 0 false 0 ∧ Below w.heap.size w wr ∧ w.heap.size < b

theorem find_0 (l : List UInt8) : findN l 0 = if textL 0 = l then some 0 else none := rfl
theorem find_s (l : List UInt8) (n : Nat) : findN l (n + 1) = if textL (n + 1) = l then some (n + 1) else findN l n := rfl
theorem find_hit {l : List UInt8} {n : Nat} (h : textL n = l) : findN l n = some n := by
  cases n with
  | zero => rw [find_0, if_pos h]
  | succ n => rw [find_s, if_pos h]

set_option maxHeartbeats 6400000 in
set_option maxRecDepth 100000 in
theorem impl_any (s : ByteArray) (w : World) :
    Calls Tryd.prog 59 #[.string s] w fun e w' => e = .returned (afterV (findN s.data.toList 36)) ∧ Below w.heap.size w w' := by
  go_enter Tryd.func59, Tryd.ntmps59
  go_wp2
  refine wp_scope_jumps 0 (fun a' w' => ∃ (n b : Nat) (u1 u5 u6 u7 u8 u9 u10 u11 u12 u13 u14 u15 u16 u17 u18 u19 u20 u21 u22 u23 u24 u25 u26 : Value), a' = { tmps := #[.string s, u1, .pointer (some ⟨w.heap.size, 0, none⟩), .bool false, .pointer (some ⟨b, 0, none⟩), u5, u6, u7, u8, u9, u10, u11, u12, u13, u14, u15, u16, u17, u18, u19, u20, u21, u22, u23, u24, u25, u26], defers := [] } ∧ JmpAt s w b n w') (fun a' w' => numAt (blkOf (a'.tmps.getD 4 undef)) w') rfl ?_ ?_
  · go_wp2_with fail
    refine (first15 _).mono ?_; rintro e w1 ⟨rfl, b1⟩
    have hz1 := b1.size
    simp only [World.size_alloc] at hz1
    have hP : JmpAt s w w1.heap.size 36 (w1.alloc (.cells #[.int .i64 (frR 36), .bool (frC 36), .int .i64 (frL 36)] 26)) :=
      ⟨by omega, rfl, FrAt.new w1 _ _ _, ((FrAt.new w 0 false 0).keep b1).old _, (((Below.refl w.heap.size w).alloc (Nat.le_refl _) _).trans (b1.mono (by simp))).alloc (by omega) _, by omega⟩
    clear b1 hz1
    go_wp2_with fail
    go_step3
    generalize w1.alloc (.cells #[.int .i64 (frR 36), .bool (frC 36), .int .i64 (frL 36)] 26) = wr at hP ⊢
    generalize w1.heap.size = b at hP ⊢
    generalize (36 : Nat) = n at hP
    obtain ⟨hn, hfind, tF, tG, hbel, hgb⟩ := hP
    obtain ⟨y0, y1, y2, x0, x1, x2⟩ := tF.cells
    have htx : ∀ w : World, Calls Tryd.prog 57 #[frV n] w fun e w' => e = .returned (.tuple #[.string (textS n), .bool true]) ∧ Below w.heap.size w w' := frameText_n n hn
    have heq := textS_eq n s
    by_cases hm : textL n = s.data.toList
    · rw [decide_eq_true hm] at heq
      have hres : afterV (findN s.data.toList 36) = .tuple #[frV n, .bool true] := by rw [← hfind, find_hit hm]; rfl
      have HH := Lib.hid (And.intro hbel (And.intro tF (And.intro tG (And.intro htx hres)))); clear hbel tF tG htx hres hfind hm
      go_wp2_with fail
      refine (HH.out.2.2.2.1 _).mono ?_; rintro e w2 ⟨rfl, b2⟩
      obtain ⟨e0, e1, e2, -, -, -⟩ := (HH.out.2.1.keep b2).cells
      have tG2 := HH.out.2.2.1.keep b2
      obtain ⟨z0, z1, z2, v0, v1, v2⟩ := tG2.cells
      obtain ⟨p0, p1, p2⟩ := tG2.put (.int .i64 (frR n)) (.bool (frC n)) (.int .i64 (frL n))
      have HG := Lib.hid (HH.out.1.trans (b2.mono HH.out.1.size)); clear tG2 b2 y0 y1 y2 x0 x1 x2
      go_wp2
      simp only [Exit.jump]
      refine bodyPost_ret (v := .tuple #[frV n, .bool true]) (by simp [results, Tryd.results59, go_sem, p0, p1, p2]) rfl ⟨by rw [HH.out.2.2.2.2], ?_⟩
      have hbel := HG.out
      (repeat (first | exact Below.refl _ _ | exact ‹Below _ _ _› | refine Below.drew ?_ | refine Below.alloc ?_ (by first | omega | (simp; done) | (simp; omega)) _ | refine Below.setCell ?_ (by first | omega | (simp; done) | (simp; omega)) _ | refine Below.trans ?_ (Below.mono ‹Below _ _ _› (by first | omega | (simp; done) | (simp; omega)))))
    · rw [decide_eq_false hm] at heq
      have hov := isOver_n n
      cases n with
      | zero =>
        have hres : afterV (findN s.data.toList 36) = .tuple #[frW 0 false 0, .bool false] := by rw [← hfind, find_0, if_neg hm]; rfl
        have hov' : ∀ w : World, Calls Tryd.prog 88 #[frV 0] w fun e w' => e = .returned (.bool true) ∧ Below w.heap.size w w' := hov
        have HH := Lib.hid (And.intro hbel (And.intro tF (And.intro tG (And.intro htx (And.intro hov' hres))))); clear hbel tF tG htx hres hfind hm hov hov'
        go_wp2_with fail
        refine (HH.out.2.2.2.1 _).mono ?_; rintro e w2 ⟨rfl, b2⟩
        have tF2 := HH.out.2.1.keep b2
        have tG2 := HH.out.2.2.1.keep b2
        obtain ⟨e0, e1, e2, -, -, -⟩ := tF2.cells
        have H2 := Lib.hid (And.intro (HH.out.1.trans (b2.mono HH.out.1.size)) tG2); clear tF2 tG2 b2 y0 y1 y2 x0 x1 x2
        go_wp2_with fail
        refine (HH.out.2.2.2.2.1 _).mono ?_; rintro e w3 ⟨rfl, b3⟩
        have tG3 := H2.out.2.keep b3
        obtain ⟨z0, z1, z2, v0, v1, v2⟩ := tG3.cells
        obtain ⟨p0, p1, p2⟩ := tG3.put (.int .i64 0) (.bool false) (.int .i64 0)
        have HG := Lib.hid (H2.out.1.trans (b3.mono H2.out.1.size)); clear tG3 b3 e0 e1 e2
        go_wp2
        simp only [Exit.jump]
        refine bodyPost_ret (v := .tuple #[frW 0 false 0, .bool false]) (by simp [results, Tryd.results59, go_sem, p0, p1, p2]) rfl ⟨by rw [HH.out.2.2.2.2.2], ?_⟩
        have hbel := HG.out
        (repeat (first | exact Below.refl _ _ | exact ‹Below _ _ _› | refine Below.drew ?_ | refine Below.alloc ?_ (by first | omega | (simp; done) | (simp; omega)) _ | refine Below.setCell ?_ (by first | omega | (simp; done) | (simp; omega)) _ | refine Below.trans ?_ (Below.mono ‹Below _ _ _› (by first | omega | (simp; done) | (simp; omega)))))
      | succ n =>
        have hres : findN s.data.toList n = findN s.data.toList 36 := by rw [← hfind, find_s, if_neg hm]
        have hov' : ∀ w : World, Calls Tryd.prog 88 #[frV (n + 1)] w fun e w' => e = .returned (.bool false) ∧ Below w.heap.size w w' := by
          have h := hov
          rw [show decide (n + 1 = 0) = false from by simp] at h; exact h
        have hfb := frameBehind_n n (by omega)
        have hnum := numAt_n tF hn
        have HH := Lib.hid (And.intro hbel (And.intro tF (And.intro tG (And.intro htx (And.intro hov' (And.intro hfb (And.intro hres hnum))))))); clear hbel tF tG htx hres hfind hm hov hov' hfb hnum
        go_wp2_with fail
        refine (HH.out.2.2.2.1 _).mono ?_; rintro e w2 ⟨rfl, b2⟩
        have tF2 := HH.out.2.1.keep b2
        have tG2 := HH.out.2.2.1.keep b2
        obtain ⟨e0, e1, e2, -, -, -⟩ := tF2.cells
        have H2 := Lib.hid (And.intro (HH.out.1.trans (b2.mono HH.out.1.size)) (And.intro tF2 tG2)); clear tF2 tG2 b2 y0 y1 y2 x0 x1 x2
        go_wp2_with fail
        refine (HH.out.2.2.2.2.1 _).mono ?_; rintro e w3 ⟨rfl, b3⟩
        have tF3 := H2.out.2.1.keep b3
        have tG3 := H2.out.2.2.keep b3
        obtain ⟨d0, d1, d2, -, -, -⟩ := tF3.cells
        have H3 := Lib.hid (And.intro (H2.out.1.trans (b3.mono H2.out.1.size)) (And.intro tF3 tG3)); clear tF3 tG3 b3 e0 e1 e2
        go_wp2_with fail
        refine (HH.out.2.2.2.2.2.1 _).mono ?_; rintro e w4 ⟨rfl, b4⟩
        have tF4 := H3.out.2.1.keep b4
        have tG4 := H3.out.2.2.keep b4
        obtain ⟨g0, g1, g2, g3, g4, g5⟩ := tF4.cells
        have hS := tF4.stored (frR n) (frC n) (frL n)
        have tG5 := tG4.put3_other (b := b) (p := n) (by omega)
        have B4 := below_put3 (b := b) (p := n) (H3.out.1.trans (b4.mono H3.out.1.size)) (by omega)
        have H4 := Lib.hid (And.intro B4 (And.intro hS tG5)); clear B4 hS tG5 tF4 tG4 b4 d0 d1 d2
        go_wp2
        go_step3
        exact ⟨rfl, ⟨n, b, _, _, _, _, _, _, _, _, _, _, _, _, _, _, _, _, _, _, _, _, _, _, _, rfl, by omega, HH.out.2.2.2.2.2.2.1, H4.out.2.1, H4.out.2.2, H4.out.1, hgb⟩⟩
  · rintro a' wr ⟨n, b, u1, u5, u6, u7, u8, u9, u10, u11, u12, u13, u14, u15, u16, u17, u18, u19, u20, u21, u22, u23, u24, u25, u26, rfl, hP⟩
    obtain ⟨hn, hfind, tF, tG, hbel, hgb⟩ := hP
    obtain ⟨y0, y1, y2, x0, x1, x2⟩ := tF.cells
    have htx : ∀ w : World, Calls Tryd.prog 57 #[frV n] w fun e w' => e = .returned (.tuple #[.string (textS n), .bool true]) ∧ Below w.heap.size w w' := frameText_n n hn
    have heq := textS_eq n s
    by_cases hm : textL n = s.data.toList
    · rw [decide_eq_true hm] at heq
      have hres : afterV (findN s.data.toList 36) = .tuple #[frV n, .bool true] := by rw [← hfind, find_hit hm]; rfl
      have HH := Lib.hid (And.intro hbel (And.intro tF (And.intro tG (And.intro htx hres)))); clear hbel tF tG htx hres hfind hm
      go_wp2_with fail
      refine (HH.out.2.2.2.1 _).mono ?_; rintro e w2 ⟨rfl, b2⟩
      obtain ⟨e0, e1, e2, -, -, -⟩ := (HH.out.2.1.keep b2).cells
      have tG2 := HH.out.2.2.1.keep b2
      obtain ⟨z0, z1, z2, v0, v1, v2⟩ := tG2.cells
      obtain ⟨p0, p1, p2⟩ := tG2.put (.int .i64 (frR n)) (.bool (frC n)) (.int .i64 (frL n))
      have HG := Lib.hid (HH.out.1.trans (b2.mono HH.out.1.size)); clear tG2 b2 y0 y1 y2 x0 x1 x2
      go_wp2
      simp only [Exit.jump]
      refine bodyPost_ret (v := .tuple #[frV n, .bool true]) (by simp [results, Tryd.results59, go_sem, p0, p1, p2]) rfl ⟨by rw [HH.out.2.2.2.2], ?_⟩
      have hbel := HG.out
      (repeat (first | exact Below.refl _ _ | exact ‹Below _ _ _› | refine Below.drew ?_ | refine Below.alloc ?_ (by first | omega | (simp; done) | (simp; omega)) _ | refine Below.setCell ?_ (by first | omega | (simp; done) | (simp; omega)) _ | refine Below.trans ?_ (Below.mono ‹Below _ _ _› (by first | omega | (simp; done) | (simp; omega)))))
    · rw [decide_eq_false hm] at heq
      have hov := isOver_n n
      cases n with
      | zero =>
        have hres : afterV (findN s.data.toList 36) = .tuple #[frW 0 false 0, .bool false] := by rw [← hfind, find_0, if_neg hm]; rfl
        have hov' : ∀ w : World, Calls Tryd.prog 88 #[frV 0] w fun e w' => e = .returned (.bool true) ∧ Below w.heap.size w w' := hov
        have HH := Lib.hid (And.intro hbel (And.intro tF (And.intro tG (And.intro htx (And.intro hov' hres))))); clear hbel tF tG htx hres hfind hm hov hov'
        go_wp2_with fail
        refine (HH.out.2.2.2.1 _).mono ?_; rintro e w2 ⟨rfl, b2⟩
        have tF2 := HH.out.2.1.keep b2
        have tG2 := HH.out.2.2.1.keep b2
        obtain ⟨e0, e1, e2, -, -, -⟩ := tF2.cells
        have H2 := Lib.hid (And.intro (HH.out.1.trans (b2.mono HH.out.1.size)) tG2); clear tF2 tG2 b2 y0 y1 y2 x0 x1 x2
        go_wp2_with fail
        refine (HH.out.2.2.2.2.1 _).mono ?_; rintro e w3 ⟨rfl, b3⟩
        have tG3 := H2.out.2.keep b3
        obtain ⟨z0, z1, z2, v0, v1, v2⟩ := tG3.cells
        obtain ⟨p0, p1, p2⟩ := tG3.put (.int .i64 0) (.bool false) (.int .i64 0)
        have HG := Lib.hid (H2.out.1.trans (b3.mono H2.out.1.size)); clear tG3 b3 e0 e1 e2
        go_wp2
        simp only [Exit.jump]
        refine bodyPost_ret (v := .tuple #[frW 0 false 0, .bool false]) (by simp [results, Tryd.results59, go_sem, p0, p1, p2]) rfl ⟨by rw [HH.out.2.2.2.2.2], ?_⟩
        have hbel := HG.out
        (repeat (first | exact Below.refl _ _ | exact ‹Below _ _ _› | refine Below.drew ?_ | refine Below.alloc ?_ (by first | omega | (simp; done) | (simp; omega)) _ | refine Below.setCell ?_ (by first | omega | (simp; done) | (simp; omega)) _ | refine Below.trans ?_ (Below.mono ‹Below _ _ _› (by first | omega | (simp; done) | (simp; omega)))))
      | succ n =>
        have hres : findN s.data.toList n = findN s.data.toList 36 := by rw [← hfind, find_s, if_neg hm]
        have hov' : ∀ w : World, Calls Tryd.prog 88 #[frV (n + 1)] w fun e w' => e = .returned (.bool false) ∧ Below w.heap.size w w' := by
          have h := hov
          rw [show decide (n + 1 = 0) = false from by simp] at h; exact h
        have hfb := frameBehind_n n (by omega)
        have hnum := numAt_n tF hn
        have HH := Lib.hid (And.intro hbel (And.intro tF (And.intro tG (And.intro htx (And.intro hov' (And.intro hfb (And.intro hres hnum))))))); clear hbel tF tG htx hres hfind hm hov hov' hfb hnum
        go_wp2_with fail
        refine (HH.out.2.2.2.1 _).mono ?_; rintro e w2 ⟨rfl, b2⟩
        have tF2 := HH.out.2.1.keep b2
        have tG2 := HH.out.2.2.1.keep b2
        obtain ⟨e0, e1, e2, -, -, -⟩ := tF2.cells
        have H2 := Lib.hid (And.intro (HH.out.1.trans (b2.mono HH.out.1.size)) (And.intro tF2 tG2)); clear tF2 tG2 b2 y0 y1 y2 x0 x1 x2
        go_wp2_with fail
        refine (HH.out.2.2.2.2.1 _).mono ?_; rintro e w3 ⟨rfl, b3⟩
        have tF3 := H2.out.2.1.keep b3
        have tG3 := H2.out.2.2.keep b3
        obtain ⟨d0, d1, d2, -, -, -⟩ := tF3.cells
        have H3 := Lib.hid (And.intro (H2.out.1.trans (b3.mono H2.out.1.size)) (And.intro tF3 tG3)); clear tF3 tG3 b3 e0 e1 e2
        go_wp2_with fail
        refine (HH.out.2.2.2.2.2.1 _).mono ?_; rintro e w4 ⟨rfl, b4⟩
        have tF4 := H3.out.2.1.keep b4
        have tG4 := H3.out.2.2.keep b4
        obtain ⟨g0, g1, g2, g3, g4, g5⟩ := tF4.cells
        have hS := tF4.stored (frR n) (frC n) (frL n)
        have tG5 := tG4.put3_other (b := b) (p := n) (by omega)
        have B4 := below_put3 (b := b) (p := n) (H3.out.1.trans (b4.mono H3.out.1.size)) (by omega)
        have H4 := Lib.hid (And.intro B4 (And.intro hS tG5)); clear B4 hS tG5 tF4 tG4 b4 d0 d1 d2
        go_wp2
        go_step3
        refine ⟨rfl, ⟨n, b, _, _, _, _, _, _, _, _, _, _, _, _, _, _, _, _, _, _, _, _, _, _, _, rfl, by omega, HH.out.2.2.2.2.2.2.1, H4.out.2.1, H4.out.2.2, H4.out.1, hgb⟩, ?_⟩
        show numAt b _ < numAt b wr
        rw [HH.out.2.2.2.2.2.2.2, numAt_n H4.out.2.1 (by omega)]; omega

theorem walk (s : ByteArray) (w : World) :
    Calls Tryd.prog 18 #[.string s] w fun e w' => e = .returned (.bool true) ∧ Below w.heap.size w w' := by
  by_cases hl : (1048576 : Int) < (s.size : Int)
  · exact law_long s w hl
  · have h1 := spec_any s (by omega)
    have h2 := impl_any s
    cases hf : findN s.data.toList 36 with
    | none => rw [hf] at h1 h2; exact law_of s 0 false 0 false h1 h2 w hl
    | some m => rw [hf] at h1 h2; exact law_of s (frR m) (frC m) (frL m) true h1 h2 w hl

end Go.Proofs.YtlehhkijigglgaaDoor.ExParseFrame
