/-
  Frames: PlayFrame: the program's.
-/
import Derived.Test.YtaplkciomagmiabDoorFrPts
import Derived.Test.YtaplkciomagmiabDoorPfMath
import Derived.Deep.RegionWith
namespace Go.Proofs.YtaplkciomagmiabDoor
open Go.RowKit
set_option linter.unusedVariables false
set_option linter.unusedSimpArgs false

/-- Both scores, so far. -/
def OkO (o : List Int) (k : Nat) : Prop := o.length = 2 ∧ ∀ j, j < 2 → 0 ≤ o.getD j 0 ∧ o.getD j 0 ≤ 252 * k
theorem okO_zero : OkO [0, 0] 0 := ⟨rfl, fun j hj => by
  match j, hj with
  | 0, _ => simp
  | 1, _ => simp⟩
theorem OkO.next {o : List Int} {k : Nat} (h : OkO o k) {p : Int} (h0 : 0 ≤ p) (h1 : p ≤ 252) {i : Nat} (hi : i < 2) : OkO (o.set i (o.getD i 0 + p)) (k + 1) := by
  refine ⟨by simpa using h.1, fun j hj => ?_⟩
  have a := h.2 j hj
  have b := h.2 i hi
  by_cases e : i = j
  · subst e
    rw [show (o.set i (o.getD i 0 + p)).getD i 0 = o.getD i 0 + p from by simp [h.1, hi]]
    omega
  · rw [show (o.set i (o.getD i 0 + p)).getD j 0 = o.getD j 0 from by simp [List.getElem?_set, e]]
    omega
/-- At the head of a round. -/
def PfA (w : World) (g n : Nat) (o : List Int) (wr : World) : Prop :=
  FrAt wr w.heap.size (frR n) (frC n) (frL n) ∧ RowAt wr g 3 o ∧ Below w.heap.size w wr
theorem PfA.keep {w : World} {g n : Nat} {o : List Int} {wr w' : World} (h : PfA w g n o wr) (hb : Below wr.heap.size wr w') : PfA w g n o w' :=
  ⟨h.1.keep hb, h.2.1.keep hb, h.2.2.trans (hb.mono h.2.2.size)⟩
theorem PfA.put3 {w : World} {g n m : Nat} {o : List Int} {wr : World} (h : PfA w g n o wr) (hne : g ≠ w.heap.size) : PfA w g m o (put3 wr w.heap.size m) :=
  ⟨h.1.stored _ _ _, ((h.2.1.other _ _ hne).other _ _ hne).other _ _ hne, below_put3 h.2.2 (Nat.le_refl _)⟩
theorem pts_after {n m : Nat} (hn : n ≤ 36) {s : ByteArray} (h : after n s.data.toList = some m) : m ≤ n ∧ s.size ≤ 36 ∧ digL s.data.toList = true ∧ 0 ≤ pts s.data.toList ∧ pts s.data.toList ≤ 252 := by
  have h1 := after_len _ _ _ h
  have h2 := after_dig _ _ _ hn h
  have h3 := pts_dig _ h2
  have h4 : s.data.toList.length = s.size := by simp
  exact ⟨by omega, by omega, h2, by omega, by omega⟩

set_option maxHeartbeats 6400000 in
set_option maxRecDepth 100000 in
theorem implPf_n (n : Nat) (hn : n ≤ 36) (l : List ByteArray) (hl : l.length ≤ 100) (a : Option Addr) (c : Nat) (w : World) (h : Reads w a (strs l)) :
    Calls Tryd.prog 10 #[frV n, .slice a l.length c] w fun e w' => RowR (rowOf (plS n 0 [0, 0] l)) (plS n 0 [0, 0] l).isSome w e w' := by
  have H := Lib.hid (frG_of hn)
  have HRd := Lib.hid h; clear h
  have hlb : ¬ (100 : Int) < (l.length : Int) := by omega
  obtain ⟨R, hR⟩ : ∃ R, R = plS n 0 [0, 0] l := ⟨_, rfl⟩
  rw [← hR]
  have HR := Lib.hid hR; clear hR
  have A0 := FrAt.new w (frR n) (frC n) (frL n)
  have b0 := below_new w (.cells #[.int .i64 (frR n), .bool (frC n), .int .i64 (frL n)] 29)
  go_enter Tryd.func10, Tryd.ntmps10
  go_wp2_with fail
  refine (isFrame_any _ _ _ _).mono ?_; rintro e w1 ⟨rfl, b1⟩
  rw [H.out]
  have tA1 := A0.keep b1
  have B1 := b0.trans (b1.mono b0.size)
  have hlt := tA1.lt
  have hn1 := below_new w1 (.cells #[.int .i64 0, .int .i64 0] 3)
  have H1 : Hid (PfA w w1.heap.size n [0, 0] (w1.alloc (.cells #[.int .i64 0, .int .i64 0] 3))) := Lib.hid ⟨tA1.keep hn1, heap_alloc_last w1 _, B1.trans (hn1.mono B1.size)⟩
  obtain ⟨d0, d1, d2, -, -, -⟩ := tA1.cells
  clear tA1 B1 A0 b0 b1 hn1
  go_wp2_with fail
  clear d0 d1 d2
  generalize w1.alloc (.cells #[.int .i64 0, .int .i64 0] 3) = W1 at *
  have HNE : Hid (w1.heap.size ≠ w.heap.size ∧ w.heap.size < w1.heap.size) := Lib.hid ⟨by omega, hlt⟩
  clear hlt
  generalize w1.heap.size = g at *
  go_loopw [24] (fun i wr => ∃ (k m : Nat) (o : List Int), i = .int .i64 k ∧ k ≤ l.length ∧ m ≤ 36 ∧ Hid (OkO o k) ∧ Hid (plS m k o (l.drop k) = R) ∧ Hid (PfA w g m o wr)) (fun i _ => l.length - (intOf i).toNat)
  case atStart => exact ⟨0, n, [0, 0], rfl, Nat.zero_le _, hn, Lib.hid okO_zero, Lib.hid (by rw [List.drop_zero]; exact HR.out.symm), H1⟩
  case round =>
    clear H1 HR
    obtain ⟨k, m, o, rfl, hk, hm, hO, hS, hP⟩ := hrel
    by_cases hlt : k < l.length
    · obtain ⟨b, off, rfl, hblt, hc⟩ := scells_of_reads (HRd.out.old hP.out.2.2) (by omega)
      have c0 := hc k hlt
      have hb : (k : Int) < (l.length : Int) := by omega
      have hd := hS.out
      rw [sdrop hlt] at hd
      clear hc hS hblt
      generalize l.getD k ⟨#[]⟩ = s at *
      have HF := frameAfter_n m hm s
      obtain ⟨d0, d1, d2, -, -, -⟩ := hP.out.1.cells
      cases hA : after m s.data.toList with
      | none =>
        rw [plS_none hA] at hd
        rw [hA, show afterV none = .tuple #[frW 0 false 0, .bool false] from rfl] at HF
        have HF2 := Lib.hid HF; clear HF
        subst hd
        go_wp2_with fail
        refine (HF2.out _).mono ?_; rintro e w2 ⟨rfl, b2⟩
        have H2 := Lib.hid (hP.out.keep b2)
        clear d0 d1 d2 c0 b2
        go_wp2_with fail
        go_ret2
        exact ⟨.slice none 0 0, rfl, owns_nil _ _ _, H2.out.2.2.alloc H2.out.2.2.size _⟩
      | some m' =>
        rw [plS_some hA] at hd
        rw [hA, show afterV (some m') = .tuple #[frV m', .bool true] from rfl] at HF
        obtain ⟨hm', hs36, hdg, hp0, hp1⟩ := pts_after hm hA
        have hpt : ptO s = true := by unfold ptO; rw [hdg]; simp; omega
        have hpr : ptR s = pts s.data.toList := by unfold ptR; rw [if_pos hpt]
        have HPt := Lib.hid (pointsOf_any s)
        rw [hpr, hpt] at HPt
        obtain ⟨j, hj⟩ : ∃ j, j = k % 2 := ⟨_, rfl⟩
        have hj2 : j < 2 := by omega
        rw [← hj] at hd
        generalize hpp : pts s.data.toList = p at *
        have hON := Lib.hid (hO.out.next hp0 hp1 hj2)
        have hob := hO.out.2 j hj2
        have hol : j < o.length := by rw [hO.out.1]; exact hj2
        have HX := Lib.hid (And.intro hd (And.intro hm' hj))
        have HF2 := Lib.hid HF
        have hxw : IntKind.i64.wrap (o.getD j 0 + p) = o.getD j 0 + p := IntWalk.i64_in _ (by omega)
        have t1 : ((k : Int)).tmod 2 = (j : Int) := by rw [Int.tmod_eq_emod_of_nonneg (by omega)]; omega
        have t2 : ((k : Int)) % 2 = (j : Int) := by omega
        have t3 : (j : Int) < 2 := by omega
        clear hd hdg hpt hpr hpp hA HF hO hs36 hj hm'
        go_wp2_with fail
        refine (HF2.out _).mono ?_; rintro e w2 ⟨rfl, b2⟩
        have HP2 := hP.out.keep b2
        have bn := below_new w2 (.cells #[.int .i64 (frR m'), .bool (frC m'), .int .i64 (frL m')] 29)
        have H2 : Hid (PfA w g m o (w2.alloc (.cells #[.int .i64 (frR m'), .bool (frC m'), .int .i64 (frL m')] 29)) ∧ FrAt (w2.alloc (.cells #[.int .i64 (frR m'), .bool (frC m'), .int .i64 (frL m')] 29)) w2.heap.size (frR m') (frC m') (frL m') ∧ g < w2.heap.size) := Lib.hid ⟨HP2.keep bn, FrAt.new w2 _ _ _, HP2.2.1.lt⟩
        clear d0 d1 d2 c0 b2 HP2 bn hP
        go_wp2_with fail
        generalize w2.alloc (.cells #[.int .i64 (frR m'), .bool (frC m'), .int .i64 (frL m')] 29) = W2 at *
        generalize w2.heap.size = gn at *
        refine (HPt.out _).mono ?_; rintro e w3 ⟨rfl, b3⟩
        have H3 := Lib.hid (And.intro (H2.out.1.keep b3) (H2.out.2.1.keep b3))
        have HG := Lib.hid H2.out.2.2
        clear b3 H2
        have e1 := H3.out.1.2.1.cell hol
        have f1 := H3.out.1.2.1.free j
        have hset := H3.out.1.2.1.put hol (o.getD j 0 + p)
        have H4 : Hid (PfA w g m (o.set j (o.getD j 0 + p)) (w3.setCell ⟨g, j, none⟩ (.int .i64 (o.getD j 0 + p)))) := Lib.hid ⟨H3.out.1.1.other (by have := HNE.out.1; omega) _, hset, H3.out.1.2.2.setCell (p := ⟨g, j, none⟩) (by have := HNE.out.2; simp only; omega) _⟩
        obtain ⟨y0, y1, y2, -, -, -⟩ := (H3.out.2.other (h := g) (o := j) (by have := HG.out; omega) (.int .i64 (o.getD j 0 + p))).cells
        clear hset H3
        generalize o.set j (o.getD j 0 + p) = o2 at *
        generalize o.getD j 0 = x at *
        go_wp2_with fail
        generalize w3.setCell ⟨g, j, none⟩ (.int .i64 (x + p)) = W3 at *
        refine (missBall_n m' (by have := HX.out.2.1; omega) _).mono ?_; rintro e w4 ⟨rfl, b4⟩
        have H5 := Lib.hid (H4.out.keep b4); clear b4 H4 y0 y1 y2 e1 f1
        obtain ⟨z0, z1, z2, z3, z4, z5⟩ := H5.out.1.cells
        have H6 := Lib.hid (H5.out.put3 (m := mS m') HNE.out.1)
        clear H5
        go_wp2_with fail
        go_roundw
        case rel => exact ⟨k + 1, mS m', o2, by go_num, by omega, by have := HX.out.2.1; have := mS_le m'; omega, hON, Lib.hid HX.out.1, H6⟩
        case measure => simp [intOf]; omega
    · obtain rfl : k = l.length := by omega
      have hd := hS.out
      rw [List.drop_length, plS] at hd
      have HX := Lib.hid hd; clear hd hS
      go_wp2_with fail
      go_ret2
      refine ⟨.slice (some ⟨g, 0, none⟩) 2 2, by rw [← HX.out]; rfl, ?_, hP.out.2.2⟩
      rw [← HX.out]
      have hw := hP.out.2.1.own (base := w.heap.size) (by have := HNE.out.2; omega) (by rw [hO.out.1]; unfold maxLen; omega)
      rw [hO.out.1] at hw
      show World.ownsRow _ _ _ _ _ o.length _
      rw [hO.out.1]; exact hw

set_option maxHeartbeats 1600000 in
theorem implPf_bad (r : Int) (q : Bool) (t : Int) (l : List ByteArray) (hl : (l.length : Int) ≤ 1000000000) (hb : frG r q t = false ∨ (100 : Int) < (l.length : Int)) (a : Option Addr) (c : Nat) (w : World) :
    Calls Tryd.prog 10 #[frW r q t, .slice a l.length c] w fun e w' => RowR [] false w e w' := by
  have A0 := FrAt.new w r q t
  have b0 := below_new w (.cells #[.int .i64 r, .bool q, .int .i64 t] 29)
  cases hg : frG r q t with
  | false =>
    have H := Lib.hid hg; clear hg hb
    go_enter Tryd.func10, Tryd.ntmps10
    go_wp2_with fail
    refine (isFrame_any _ _ _ _).mono ?_; rintro e w1 ⟨rfl, b1⟩
    rw [H.out]
    have B1 := Lib.hid (b0.trans (b1.mono b0.size)); clear b0 b1 A0
    go_wp2_with fail
    go_ret2
    exact ⟨.slice none 0 0, rfl, owns_nil _ _ _, B1.out⟩
  | true =>
    have H := Lib.hid hg
    have hb2 : (100 : Int) < (l.length : Int) := by rcases hb with h | h; · rw [hg] at h; cases h
                                                    · exact h
    clear hg hb
    go_enter Tryd.func10, Tryd.ntmps10
    go_wp2_with fail
    refine (isFrame_any _ _ _ _).mono ?_; rintro e w1 ⟨rfl, b1⟩
    rw [H.out]
    have B1 := Lib.hid (b0.trans (b1.mono b0.size)); clear b0 b1 A0
    go_wp2_with fail
    go_ret2
    exact ⟨.slice none 0 0, rfl, owns_nil _ _ _, B1.out⟩
end Go.Proofs.YtaplkciomagmiabDoor
