/-
  Frames: PlayFrame: the model's.
-/
import Derived.Test.YtaplkciomagmiabDoorPfImp
import Derived.Test.YtaplkciomagmiabDoorPfMath
import Derived.Deep.RegionWith
namespace Go.Proofs.YtaplkciomagmiabDoor
open Go.RowKit
set_option linter.unusedVariables false
set_option linter.unusedSimpArgs false

theorem pfA_stored {w : World} {g n m : Nat} {o : List Int} {wr : World} (hm : m ≤ 36) (h : PfA w g n o wr) (hne : g ≠ w.heap.size) : PfA w g (mS m) o ((put3 wr w.heap.size m).setCell ⟨w.heap.size, 1, none⟩ (.bool false)) := by
  obtain ⟨h1, h2, h3⟩ := mS_fr hm
  have H := h.put3 (m := m) hne
  refine ⟨?_, H.2.1.other _ _ hne, H.2.2.setCell (p := ⟨w.heap.size, 1, none⟩) (Nat.le_refl _) _⟩
  rw [h1, h2, h3]
  exact H.1.col false

set_option maxHeartbeats 6400000 in
set_option maxRecDepth 100000 in
theorem specPf_n (n : Nat) (hn : n ≤ 36) (l : List ByteArray) (hl : l.length ≤ 100) (a : Option Addr) (c : Nat) (w : World) (h : Reads w a (strs l)) :
    Calls Tryd.prog 7 #[frV n, .slice a l.length c] w fun e w' => RowR (rowOf (plS n 0 [0, 0] l)) (plS n 0 [0, 0] l).isSome w e w' := by
  have H := Lib.hid (frG_of hn)
  have HRd := Lib.hid h; clear h
  have hlb : ¬ (100 : Int) < (l.length : Int) := by omega
  obtain ⟨R, hR⟩ : ∃ R, R = plS n 0 [0, 0] l := ⟨_, rfl⟩
  rw [← hR]
  have HR := Lib.hid hR; clear hR
  have A0 := FrAt.new w (frR n) (frC n) (frL n)
  have b0 := below_new w (.cells #[.int .i64 (frR n), .bool (frC n), .int .i64 (frL n)] 29)
  go_enter Tryd.func7, Tryd.ntmps7
  go_wp2_with fail
  refine (frGood_any _ _ _ _).mono ?_; rintro e w1 ⟨rfl, b1⟩
  rw [H.out]
  have tA1 := A0.keep b1
  have B1 := b0.trans (b1.mono b0.size)
  have hlt := tA1.lt
  have hn1 := below_new w1 (.cells #[.int .i64 0, .int .i64 0] 3)
  have H1 : Hid (PfA w w1.heap.size n [0, 0] (w1.alloc (.cells #[.int .i64 0, .int .i64 0] 3))) := Lib.hid ⟨tA1.keep hn1, heap_alloc_last w1 _, B1.trans (hn1.mono B1.size)⟩
  obtain ⟨d0, d1, d2, -, -, -⟩ := tA1.cells
  clear tA1 B1 A0 b0 b1 hn1
  go_wp2_with fail
  clear d0 d1 d2
  generalize w1.alloc (.cells #[.int .i64 0, .int .i64 0] 3) = W1 at *
  have HNE : Hid (w1.heap.size ≠ w.heap.size ∧ w.heap.size < w1.heap.size) := Lib.hid ⟨by omega, hlt⟩
  clear hlt
  generalize w1.heap.size = g at *
  go_loopw [22] (fun i wr => ∃ (k m : Nat) (o : List Int), i = .int .i64 k ∧ k ≤ l.length ∧ m ≤ 36 ∧ Hid (OkO o k) ∧ Hid (plS m k o (l.drop k) = R) ∧ Hid (PfA w g m o wr)) (fun i _ => l.length - (intOf i).toNat)
  case atStart => exact ⟨0, n, [0, 0], rfl, Nat.zero_le _, hn, Lib.hid okO_zero, Lib.hid (by rw [List.drop_zero]; exact HR.out.symm), H1⟩
  case round =>
    clear H1 HR
    obtain ⟨k, m, o, rfl, hk, hm, hO, hS, hP⟩ := hrel
    by_cases hlt : k < l.length
    · obtain ⟨b, off, rfl, hblt, hc⟩ := scells_of_reads (HRd.out.old hP.out.2.2) (by omega)
      have c0 := hc k hlt
      have hb : (k : Int) < (l.length : Int) := by omega
      have hd := hS.out
      rw [sdrop hlt] at hd
      clear hc hS hblt
      generalize l.getD k ⟨#[]⟩ = s at *
      have HF := frAfter_all m hm s
      obtain ⟨d0, d1, d2, -, -, -⟩ := hP.out.1.cells
      cases hA : after m s.data.toList with
      | none =>
        rw [plS_none hA] at hd
        rw [hA] at HF
        have HF2 := Lib.hid HF; clear HF
        subst hd
        go_wp2_with fail
        refine (HF2.out _).mono ?_; rintro e w2 ⟨⟨x, rfl⟩, b2⟩
        have H2 := Lib.hid (hP.out.keep b2)
        clear d0 d1 d2 c0 b2
        simp only [Option.getD_none, Option.isSome_none]
        go_wp2_with fail
        go_ret2
        exact ⟨.slice none 0 0, rfl, owns_nil _ _ _, H2.out.2.2.alloc H2.out.2.2.size _⟩
      | some m' =>
        rw [plS_some hA] at hd
        rw [hA] at HF
        obtain ⟨hm', hs36, hdg, hp0, hp1⟩ := pts_after hm hA
        have HPt := Lib.hid (fun W => (frPoints_any s hdg (by omega) W).mono (R' := fun e w' => e = .returned (.int .i64 (pts s.data.toList)) ∧ w' = W) (fun e w' h => ⟨h.1, h.2.symm⟩))
        obtain ⟨j, hj⟩ : ∃ j, j = k % 2 := ⟨_, rfl⟩
        have hj2 : j < 2 := by omega
        rw [← hj] at hd
        generalize hpp : pts s.data.toList = p at *
        have hON := Lib.hid (hO.out.next hp0 hp1 hj2)
        have hob := hO.out.2 j hj2
        have hol : j < o.length := by rw [hO.out.1]; exact hj2
        have HX := Lib.hid (And.intro hd (And.intro hm' hj))
        have HF2 := Lib.hid HF
        have hxw : IntKind.i64.wrap (o.getD j 0 + p) = o.getD j 0 + p := IntWalk.i64_in _ (by omega)
        have t1 : ((k : Int)).tmod 2 = (j : Int) := by rw [Int.tmod_eq_emod_of_nonneg (by omega)]; omega
        have t2 : ((k : Int)) % 2 = (j : Int) := by omega
        have t3 : (j : Int) < 2 := by omega
        clear hd hdg hpp hA HF hO hs36 hj hm'
        go_wp2_with fail
        refine (HF2.out _).mono ?_; rintro e w2 ⟨⟨x, rfl⟩, b2⟩
        simp only [Option.getD_some, Option.isSome_some]
        have HP2 := hP.out.keep b2
        have bn := below_new w2 (.cells #[.int .i64 (frR m'), .bool (frC m'), .int .i64 (frL m')] 29)
        have H2 : Hid (PfA w g m o (w2.alloc (.cells #[.int .i64 (frR m'), .bool (frC m'), .int .i64 (frL m')] 29)) ∧ FrAt (w2.alloc (.cells #[.int .i64 (frR m'), .bool (frC m'), .int .i64 (frL m')] 29)) w2.heap.size (frR m') (frC m') (frL m') ∧ g < w2.heap.size) := Lib.hid ⟨HP2.keep bn, FrAt.new w2 _ _ _, HP2.2.1.lt⟩
        have e1 := H2.out.1.2.1.cell hol
        have f1 := H2.out.1.2.1.free j
        clear d0 d1 d2 c0 b2 HP2 bn hP
        go_wp2_with fail
        generalize w2.alloc (.cells #[.int .i64 (frR m'), .bool (frC m'), .int .i64 (frL m')] 29) = W2 at *
        generalize w2.heap.size = gn at *
        have hset := H2.out.1.2.1.put hol (o.getD j 0 + p)
        have H4 : Hid (PfA w g m (o.set j (o.getD j 0 + p)) (W2.setCell ⟨g, j, none⟩ (.int .i64 (o.getD j 0 + p))).drew) := Lib.hid ⟨H2.out.1.1.other (by have := HNE.out.1; omega) _, hset, (H2.out.1.2.2.setCell (p := ⟨g, j, none⟩) (by have := HNE.out.2; simp only; omega) _).drew⟩
        have hfn : FrAt (W2.setCell ⟨g, j, none⟩ (.int .i64 (o.getD j 0 + p))).drew gn (frR m') (frC m') (frL m') := H2.out.2.1.other (h := g) (o := j) (by have := H2.out.2.2; omega) (.int .i64 (o.getD j 0 + p))
        clear hset H2
        generalize o.set j (o.getD j 0 + p) = o2 at *
        generalize o.getD j 0 = x at *
        have HFn := Lib.hid hfn; clear hfn
        go_still_tail 9, (by kernel_rfl)
        still_call (HPt.out _)
        repeat still_step
        refine wpStill_nil ?_
        go_upto_region 11 with fail
        generalize (W2.setCell ⟨g, j, none⟩ (.int .i64 (x + p))).drew = W3 at *
        obtain ⟨y0, y1, y2, -, -, -⟩ := HFn.out.cells
        obtain ⟨z0, z1, z2, z3, z4, z5⟩ := H4.out.1.cells
        obtain ⟨u0, u1, u2, u3, u4, u5⟩ := (H4.out.put3 (m := m') HNE.out.1).1.cells
        have H6 := Lib.hid (pfA_stored (m := m') (by have := HX.out.2.1; omega) H4.out HNE.out.1)
        clear H4
        go_wp2_with fail
        go_roundw
        case rel => exact ⟨k + 1, mS m', o2, by go_num, by omega, by have := HX.out.2.1; have := mS_le m'; omega, hON, Lib.hid HX.out.1, H6⟩
        case measure => simp [intOf]; omega
    · obtain rfl : k = l.length := by omega
      have hd := hS.out
      rw [List.drop_length, plS] at hd
      have HX := Lib.hid hd; clear hd hS
      go_wp2_with fail
      go_ret2
      refine ⟨.slice (some ⟨g, 0, none⟩) 2 2, by rw [← HX.out]; rfl, ?_, hP.out.2.2⟩
      rw [← HX.out]
      have hw := hP.out.2.1.own (base := w.heap.size) (by have := HNE.out.2; omega) (by rw [hO.out.1]; unfold maxLen; omega)
      rw [hO.out.1] at hw
      show World.ownsRow _ _ _ _ _ o.length _
      rw [hO.out.1]; exact hw

set_option maxHeartbeats 1600000 in
theorem specPf_bad (r : Int) (q : Bool) (t : Int) (l : List ByteArray) (hl : (l.length : Int) ≤ 1000000000) (hb : frG r q t = false ∨ (100 : Int) < (l.length : Int)) (a : Option Addr) (c : Nat) (w : World) :
    Calls Tryd.prog 7 #[frW r q t, .slice a l.length c] w fun e w' => RowR [] false w e w' := by
  have A0 := FrAt.new w r q t
  have b0 := below_new w (.cells #[.int .i64 r, .bool q, .int .i64 t] 29)
  cases hg : frG r q t with
  | false =>
    have H := Lib.hid hg; clear hg hb
    go_enter Tryd.func7, Tryd.ntmps7
    go_wp2_with fail
    refine (frGood_any _ _ _ _).mono ?_; rintro e w1 ⟨rfl, b1⟩
    rw [H.out]
    have B1 := Lib.hid (b0.trans (b1.mono b0.size)); clear b0 b1 A0
    go_wp2_with fail
    go_ret2
    exact ⟨.slice none 0 0, rfl, owns_nil _ _ _, B1.out⟩
  | true =>
    have H := Lib.hid hg
    have hb2 : (100 : Int) < (l.length : Int) := by
      rcases hb with h | h
      · rw [hg] at h; cases h
      · exact h
    clear hg hb
    go_enter Tryd.func7, Tryd.ntmps7
    go_wp2_with fail
    refine (frGood_any _ _ _ _).mono ?_; rintro e w1 ⟨rfl, b1⟩
    rw [H.out]
    have B1 := Lib.hid (b0.trans (b1.mono b0.size)); clear b0 b1 A0
    go_wp2_with fail
    go_ret2
    exact ⟨.slice none 0 0, rfl, owns_nil _ _ _, B1.out⟩

/-- What both answer. -/
theorem plO_cases (r : Int) (q : Bool) (t : Int) (l : List ByteArray) :
    ((frG r q t = false ∨ (100 : Int) < (l.length : Int)) ∧ plO r q t l = none) ∨ ∃ n, n ≤ 36 ∧ l.length ≤ 100 ∧ r = frR n ∧ q = frC n ∧ t = frL n ∧ plO r q t l = plS n 0 [0, 0] l := by
  cases hg : frG r q t with
  | false => exact .inl ⟨.inl rfl, by unfold plO; rw [hg]; simp⟩
  | true =>
    by_cases hl : (l.length : Int) ≤ 100
    · obtain ⟨n, hn, rfl, rfl, rfl⟩ := frG_n hg
      refine .inr ⟨n, hn, by omega, rfl, rfl, rfl, ?_⟩
      unfold plO
      rw [if_pos ⟨hg, hl⟩, numF2_n hn]
    · exact .inl ⟨.inr (by omega), by unfold plO; rw [if_neg (fun h => hl h.2)]⟩
theorem implPf_any (r : Int) (q : Bool) (t : Int) (l : List ByteArray) (hl : (l.length : Int) ≤ 1000000000) (a : Option Addr) (c : Nat) (w : World) (h : Reads w a (strs l)) :
    Calls Tryd.prog 10 #[frW r q t, .slice a l.length c] w fun e w' => RowR (rowOf (plO r q t l)) (plO r q t l).isSome w e w' := by
  rcases plO_cases r q t l with ⟨hb, he⟩ | ⟨n, hn, hl2, rfl, rfl, rfl, he⟩
  · rw [he]; exact implPf_bad r q t l hl hb a c w
  · rw [he]; exact implPf_n n hn l hl2 a c w h
theorem specPf_any (r : Int) (q : Bool) (t : Int) (l : List ByteArray) (hl : (l.length : Int) ≤ 1000000000) (a : Option Addr) (c : Nat) (w : World) (h : Reads w a (strs l)) :
    Calls Tryd.prog 7 #[frW r q t, .slice a l.length c] w fun e w' => RowR (rowOf (plO r q t l)) (plO r q t l).isSome w e w' := by
  rcases plO_cases r q t l with ⟨hb, he⟩ | ⟨n, hn, hl2, rfl, rfl, rfl, he⟩
  · rw [he]; exact specPf_bad r q t l hl hb a c w
  · rw [he]; exact specPf_n n hn l hl2 a c w h
end Go.Proofs.YtaplkciomagmiabDoor
