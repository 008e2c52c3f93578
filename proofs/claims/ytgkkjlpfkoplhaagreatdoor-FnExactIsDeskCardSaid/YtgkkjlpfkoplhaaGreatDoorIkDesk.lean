/-
  Desks that come in: opened, counted, copied, compared; IsDesk of both sides.
  Desks that come in: IsDesk of both sides.
-/
import Derived.Test.YtgkkjlpfkoplhaaGreatDoorPnLawA
import Derived.Test.YtgkkjlpfkoplhaaGreatDoorLgIsA
import Derived.Lib.SmallJoins
import Derived.Deep.Strs
import Derived.Test.YtgkkjlpfkoplhaaGreatDoorTnGood
namespace Go.Proofs.YtgkkjlpfkoplhaaGreatDoor
open Go.RowKit Go.ChangeShapes Go.WideShapes Go.Joins
set_option linter.unusedVariables false
set_option linter.unusedSimpArgs false

theorem array7 {α : Type} {cs : Array α} (h : cs.size = 7) : ∃ c0 c1 c2 c3 c4 c5 c6, cs = #[c0, c1, c2, c3, c4, c5, c6] := by
  obtain ⟨l⟩ := cs
  match l, h with
  | [c0, c1, c2, c3, c4, c5, c6], _ => exact ⟨c0, c1, c2, c3, c4, c5, c6, rfl⟩
theorem trod_struct5 {H : Type} {enc : TypeId × Value → H} {P : Program} {w : World} {base : Nat} {spare : Nat → Bool} {held : Bool} {t : TypeId} {f0 f1 f2 f3 f4 : Field} {fuel : Nat} {cs : List Value} {x : DataW H × List MemPlace} (ht : P.underlying t = some (.struct #[f0, f1, f2, f3, f4])) (h : DataW.trod enc P w base spare held fuel t cs = some x) :
    ∃ y0 y1 y2 y3 y4 n, DataW.trod enc P w base spare held n f0.type ((cs.drop f0.offset).take (P.cellsOf f0.type)) = some y0 ∧ DataW.trod enc P w base spare held n f1.type ((cs.drop f1.offset).take (P.cellsOf f1.type)) = some y1 ∧ DataW.trod enc P w base spare held n f2.type ((cs.drop f2.offset).take (P.cellsOf f2.type)) = some y2 ∧
      DataW.trod enc P w base spare held n f3.type ((cs.drop f3.offset).take (P.cellsOf f3.type)) = some y3 ∧ DataW.trod enc P w base spare held n f4.type ((cs.drop f4.offset).take (P.cellsOf f4.type)) = some y4 := by
  obtain ⟨xs, n, _, rfl, hl, hlen, hf⟩ := DataW.trod_struct ht h
  match xs, hlen with
  | [y0, y1, y2, y3, y4], _ => exact ⟨y0, y1, y2, y3, y4, n, by simpa using hf 0 f0 rfl, by simpa using hf 1 f1 rfl, by simpa using hf 2 f2 rfl, by simpa using hf 3 f3 rfl, by simpa using hf 4 f4 rfl⟩
set_option maxRecDepth 100000 in
set_option maxHeartbeats 800000 in
/-- A desk that came in. -/
theorem open_desk {H : Type} {enc : TypeId × Value → H} {w : World} {b0 : Nat} {v : Value} {d : DataW H} {p : List MemPlace} (hv : Value.okWide Tryz.prog w .any b0 27 v) (h : DataW.Trod enc Tryz.prog w 0 (fun _ => true) true 27 v d p) :
    ∃ (l : Int) (s : ByteArray) (f : Int) (a : Option Addr) (n c : Nat) (t wn : Int) (b : Option Addr) (m dd : Nat) (L : List Int) (rs : List Lg.Rs), v = .agg #[.int .i64 l, .string s, .int .i64 f, .slice a n c, .int .i64 t, .int .i64 wn, .slice b m dd] ∧ (s.size : Int) ≤ 9223372036854775807 ∧ ((L.length = n ∧ Reads w a (ints L)) ∧ (n : Int) ≤ 9223372036854775807) ∧ ((rs.length = m ∧ Reads w b (Lg.ress rs)) ∧ (m : Int) ≤ 9223372036854775807) := by
  obtain ⟨cs, rfl, hsz⟩ := okWide_struct Tryz.underlying27 hv
  obtain ⟨c0, c1, c2, c3, c4, c5, c6, rfl⟩ := array7 (hsz.trans (show Tryz.prog.cellsOf 27 = 7 by kernel_rfl))
  obtain ⟨fuel, hf⟩ := h
  obtain ⟨y0, y1, y2, y3, y4, n, e0, e1, e2, e3, e4⟩ := trod_struct5 Tryz.underlying27 hf
  have k1 : Tryz.prog.cellsOf 3 = 1 := by kernel_rfl
  have k2 : Tryz.prog.cellsOf 9 = 1 := by kernel_rfl
  have k3 : Tryz.prog.cellsOf 22 = 1 := by kernel_rfl
  have k4 : Tryz.prog.cellsOf 25 = 3 := by kernel_rfl
  have k5 : Tryz.prog.cellsOf 23 = 1 := by kernel_rfl
  simp only [k1, k2, k3, k4, Value.cells, List.drop_zero, List.drop_succ_cons, List.take_succ_cons, List.take_zero] at e0 e1 e2 e3 e4
  obtain ⟨l, q0, _, _⟩ := DataW.trod_int Tryz.underlying3 e0
  obtain ⟨s, q1, _, q1s⟩ := DataW.trod_string Tryz.underlying9 e1
  obtain ⟨f, q2, _, _⟩ := DataW.trod_int Tryz.underlying3 e2
  obtain ⟨a, m, c, q3⟩ := slice_form Tryz.underlying22 e3
  simp at q0 q1 q2 q3
  subst q0 q1 q2 q3
  obtain ⟨L, hL⟩ := Pn.open_ints (enc := enc) (d := _) (p := _) ⟨_, by simpa [Value.cells] using e3⟩
  obtain ⟨z0, z1, z2, n2, _, _, u0, u1, u2⟩ := Go.Deep.trod_struct3 Tryz.underlying25 e4
  simp only [k1, k5, List.drop_zero, List.drop_succ_cons, List.take_succ_cons, List.take_zero] at u0 u1 u2
  obtain ⟨t, q4, _, _⟩ := DataW.trod_int Tryz.underlying3 u0
  obtain ⟨wn, q5, _, _⟩ := DataW.trod_int Tryz.underlying3 u1
  simp at q4 q5
  subst q4 q5
  obtain ⟨b, m2, dd, rs, rfl, hr⟩ := Lg.open_results u2
  unfold maxLen at q1s
  exact ⟨l, s, f, a, m, c, t, wn, b, m2, dd, L, rs, rfl, by omega, hL, hr⟩

theorem szInts_any (a : Option Addr) (n c : Nat) (k : Int) (w : World) (hn : (n : Int) ≤ 9223372036854775807) (h0 : 0 ≤ k) (h1 : k ≤ 1000000000000) :
    Calls Tryz.prog 9 #[.slice a n c, .int .i64 k] w fun e w' => e = .returned (.int .i64 (Lg.szN k n)) ∧ w = w' := by
  have hs : Lg.szN k n = if k < n then -1 else k - n := rfl
  by_cases h : k < n
  · rw [hs, if_pos h]
    go_enter Tryz.func9, Tryz.ntmps9
    go_wp2
    go_ret
    exact ⟨rfl, rfl⟩
  · rw [hs, if_neg h]
    go_enter Tryz.func9, Tryz.ntmps9
    go_wp2
    go_ret
    exact ⟨ret_int (by omega), rfl⟩
/-- What is left of the law's bound. -/
def szD (s : ByteArray) (n m : Nat) : Int := if 1048576 < (s.size : Int) then -1 else if 1048576 - (s.size : Int) < n then -1 else if 1048576 - (s.size : Int) - n < m then -1 else 1048576 - (s.size : Int) - n - m
set_option maxHeartbeats 1600000 in
theorem szDesk_any (l : Int) (s : ByteArray) (f : Int) (a : Option Addr) (n c : Nat) (t wn : Int) (b : Option Addr) (m d : Nat) (w : World) (hs : (s.size : Int) ≤ 9223372036854775807) (hn : (n : Int) ≤ 9223372036854775807) (hm : (m : Int) ≤ 9223372036854775807) :
    Calls Tryz.prog 4 #[.agg #[.int .i64 l, .string s, .int .i64 f, .slice a n c, .int .i64 t, .int .i64 wn, .slice b m d], .int .i64 1048576] w fun e w' => e = .returned (.int .i64 (szD s n m)) ∧ Below w.heap.size w w' := by
  have HB := Lib.hid (Lg.Below.ofNew (w := w) (.cells #[.int .i64 l, .string s, .int .i64 f, .slice a n c, .int .i64 t, .int .i64 wn, .slice b m d] 27))
  have hv : szD s n m = if 1048576 < (s.size : Int) then -1 else if 1048576 - (s.size : Int) < n then -1 else if 1048576 - (s.size : Int) - n < m then -1 else 1048576 - (s.size : Int) - n - m := rfl
  rw [hv]; clear hv
  by_cases h1 : 1048576 < (s.size : Int)
  · rw [if_pos h1]
    have e1 : (1048576 : Int) - (s.size : Int) < 0 := by omega
    go_enter Tryz.func4, Tryz.ntmps4
    go_wp2
    go_ret
    exact ⟨rfl, HB.out⟩
  · rw [if_neg h1]
    have e1 : ¬ (1048576 : Int) - (s.size : Int) < 0 := by omega
    have HZ := Lib.hid (fun W => szInts_any a n c (1048576 - (s.size : Int)) W hn (by omega) (by omega))
    by_cases h2 : 1048576 - (s.size : Int) < n
    · rw [if_pos h2]
      rw [show Lg.szN (1048576 - (s.size : Int)) n = -1 from if_pos h2] at HZ
      clear h1 h2
      go_enter Tryz.func4, Tryz.ntmps4
      go_wp2_with fail
      refine (HZ.out _).mono ?_; rintro e w1 ⟨rfl, rfl⟩
      go_wp2_with fail
      go_ret
      exact ⟨rfl, HB.out⟩
    · rw [if_neg h2]
      rw [show Lg.szN (1048576 - (s.size : Int)) n = 1048576 - (s.size : Int) - n from if_neg h2] at HZ
      have HY := Lib.hid (fun W => Lg.szLeague_any t wn b m d (1048576 - (s.size : Int) - n) W hm (by omega) (by omega))
      have e2 : ¬ (1048576 : Int) - (s.size : Int) - (n : Int) < 0 := by omega
      by_cases h3 : 1048576 - (s.size : Int) - n < m
      · rw [if_pos h3]
        rw [show Lg.szN (1048576 - (s.size : Int) - n) m = -1 from if_pos h3] at HY
        clear h1 h2 h3
        go_enter Tryz.func4, Tryz.ntmps4
        go_wp2_with fail
        refine (HZ.out _).mono ?_; rintro e w1 ⟨rfl, rfl⟩
        go_wp2_with fail
        refine (HY.out _).mono ?_; rintro e w2 ⟨rfl, b2⟩
        have H2 := Lib.hid (HB.out.trans (b2.mono HB.out.size)); clear b2
        go_wp2_with fail
        go_ret
        exact ⟨rfl, H2.out⟩
      · rw [if_neg h3]
        rw [show Lg.szN (1048576 - (s.size : Int) - n) m = 1048576 - (s.size : Int) - n - m from if_neg h3] at HY
        have e3 : ¬ (1048576 : Int) - (s.size : Int) - (n : Int) - (m : Int) < 0 := by omega
        clear h1 h2 h3
        go_enter Tryz.func4, Tryz.ntmps4
        go_wp2_with fail
        refine (HZ.out _).mono ?_; rintro e w1 ⟨rfl, rfl⟩
        go_wp2_with fail
        refine (HY.out _).mono ?_; rintro e w2 ⟨rfl, b2⟩
        have H2 := Lib.hid (HB.out.trans (b2.mono HB.out.size)); clear b2
        go_wp2_with fail
        go_ret
        exact ⟨rfl, H2.out⟩

theorem put_0 {w : World} {g : Nat} {T : TypeId} {x0 x1 x2 x3 x4 x5 x6 : Value} (h : Lg.ObAt w g T #[x0, x1, x2, x3, x4, x5, x6]) (u : Value) : Lg.ObAt (w.setCell ⟨g, 0, none⟩ u) g T #[u, x1, x2, x3, x4, x5, x6] := h.put 0 u
theorem put_1 {w : World} {g : Nat} {T : TypeId} {x0 x1 x2 x3 x4 x5 x6 : Value} (h : Lg.ObAt w g T #[x0, x1, x2, x3, x4, x5, x6]) (u : Value) : Lg.ObAt (w.setCell ⟨g, 1, none⟩ u) g T #[x0, u, x2, x3, x4, x5, x6] := h.put 1 u
theorem put_2 {w : World} {g : Nat} {T : TypeId} {x0 x1 x2 x3 x4 x5 x6 : Value} (h : Lg.ObAt w g T #[x0, x1, x2, x3, x4, x5, x6]) (u : Value) : Lg.ObAt (w.setCell ⟨g, 2, none⟩ u) g T #[x0, x1, u, x3, x4, x5, x6] := h.put 2 u
theorem put_3 {w : World} {g : Nat} {T : TypeId} {x0 x1 x2 x3 x4 x5 x6 : Value} (h : Lg.ObAt w g T #[x0, x1, x2, x3, x4, x5, x6]) (u : Value) : Lg.ObAt (w.setCell ⟨g, 3, none⟩ u) g T #[x0, x1, x2, u, x4, x5, x6] := h.put 3 u
theorem put_4 {w : World} {g : Nat} {T : TypeId} {x0 x1 x2 x3 x4 x5 x6 : Value} (h : Lg.ObAt w g T #[x0, x1, x2, x3, x4, x5, x6]) (u : Value) : Lg.ObAt (w.setCell ⟨g, 4, none⟩ u) g T #[x0, x1, x2, x3, u, x5, x6] := h.put 4 u
theorem put_5 {w : World} {g : Nat} {T : TypeId} {x0 x1 x2 x3 x4 x5 x6 : Value} (h : Lg.ObAt w g T #[x0, x1, x2, x3, x4, x5, x6]) (u : Value) : Lg.ObAt (w.setCell ⟨g, 5, none⟩ u) g T #[x0, x1, x2, x3, x4, u, x6] := h.put 5 u
theorem put_6 {w : World} {g : Nat} {T : TypeId} {x0 x1 x2 x3 x4 x5 x6 : Value} (h : Lg.ObAt w g T #[x0, x1, x2, x3, x4, x5, x6]) (u : Value) : Lg.ObAt (w.setCell ⟨g, 6, none⟩ u) g T #[x0, x1, x2, x3, x4, x5, u] := h.put 6 u
theorem dput7 {w : World} {g : Nat} {T : TypeId} {x0 x1 x2 x3 x4 x5 x6 : Value} (h : Lg.ObAt w g T #[x0, x1, x2, x3, x4, x5, x6]) (u0 u1 u2 u3 u4 u5 u6 : Value) : Lg.ObAt ((((((((w.setCell ⟨g, 0, none⟩ u0).setCell ⟨g, 1, none⟩ u1).setCell ⟨g, 2, none⟩ u2).setCell ⟨g, 3, none⟩ u3).setCell ⟨g, 4, none⟩ u4).setCell ⟨g, 5, none⟩ u5).setCell ⟨g, 6, none⟩ u6)) g T #[u0, u1, u2, u3, u4, u5, u6] :=
  put_6 (put_5 (put_4 (put_3 (put_2 (put_1 (put_0 h u0) u1) u2) u3) u4) u5) u6
theorem dput3 {w : World} {g : Nat} {T : TypeId} {x0 x1 x2 x3 x4 x5 x6 : Value} (h : Lg.ObAt w g T #[x0, x1, x2, x3, x4, x5, x6]) (u4 u5 u6 : Value) : Lg.ObAt ((((w.setCell ⟨g, 4, none⟩ u4).setCell ⟨g, 5, none⟩ u5).setCell ⟨g, 6, none⟩ u6)) g T #[x0, x1, x2, x3, u4, u5, u6] :=
  put_6 (put_5 (put_4 h u4) u5) u6
theorem cell7 {w : World} {g : Nat} {T : TypeId} {x0 x1 x2 x3 x4 x5 x6 : Value} (h : Lg.ObAt w g T #[x0, x1, x2, x3, x4, x5, x6]) : w.cell? ⟨g, 0, none⟩ = some x0 ∧ w.cell? ⟨g, 1, none⟩ = some x1 ∧ w.cell? ⟨g, 2, none⟩ = some x2 ∧ w.cell? ⟨g, 3, none⟩ = some x3 ∧ w.cell? ⟨g, 4, none⟩ = some x4 ∧ w.cell? ⟨g, 5, none⟩ = some x5 ∧ w.cell? ⟨g, 6, none⟩ = some x6 :=
  ⟨h.cell 0, h.cell 1, h.cell 2, h.cell 3, h.cell 4, h.cell 5, h.cell 6⟩

set_option maxHeartbeats 6400000 in
set_option maxRecDepth 100000 in
theorem toDesk_any (l : Int) (s : ByteArray) (f : Int) (L : List Int) (t wn : Int) (rs : List Lg.Rs) (a : Option Addr) (c : Nat) (b : Option Addr) (d : Nat) (w : World) (hL : (L.length : Int) ≤ 1048576) (hrs : (rs.length : Int) ≤ 1048576) (h : Reads w a (ints L)) (h' : Reads w b (Lg.ress rs)) :
    Calls Tryz.prog 6 #[.agg #[.int .i64 l, .string s, .int .i64 f, .slice a L.length c, .int .i64 t, .int .i64 wn, .slice b rs.length d]] w fun e w' => ∃ g1 g2, e = .returned (.agg #[.int .i64 l, .string s, .int .i64 f, .slice (some ⟨g1, 0, none⟩) L.length L.length, .int .i64 t, .int .i64 wn, .slice (some ⟨g2, 0, none⟩) rs.length rs.length]) ∧ Reads w' (some ⟨g1, 0, none⟩) (ints L) ∧ Reads w' (some ⟨g2, 0, none⟩) (Lg.ress rs) ∧ Below w.heap.size w w' := by
  have b0 := Lg.Below.ofNew (w := w) (.cells #[.int .i64 l, .string s, .int .i64 f, .slice a L.length c, .int .i64 t, .int .i64 wn, .slice b rs.length d] 27)
  have b1 := Lg.Below.ofNew (w := w.alloc (.cells #[.int .i64 l, .string s, .int .i64 f, .slice a L.length c, .int .i64 t, .int .i64 wn, .slice b rs.length d] 27)) (.cells #[.int .i64 0, .string ⟨#[]⟩, .int .i64 0, .slice none 0 0, .int .i64 0, .int .i64 0, .slice none 0 0] 34)
  have b2 := Lg.Below.ofNew (w := (w.alloc (.cells #[.int .i64 l, .string s, .int .i64 f, .slice a L.length c, .int .i64 t, .int .i64 wn, .slice b rs.length d] 27)).alloc (.cells #[.int .i64 0, .string ⟨#[]⟩, .int .i64 0, .slice none 0 0, .int .i64 0, .int .i64 0, .slice none 0 0] 34)) (.cells #[.int .i64 l, .string s, .int .i64 f, .slice none 0 0, .int .i64 0, .int .i64 0, .slice none 0 0] 34)
  have o0 := ((Lg.ObAt.new w 27 #[.int .i64 l, .string s, .int .i64 f, .slice a L.length c, .int .i64 t, .int .i64 wn, .slice b rs.length d]).keep b1).keep b2
  have o1 := (Lg.ObAt.new (w.alloc (.cells #[.int .i64 l, .string s, .int .i64 f, .slice a L.length c, .int .i64 t, .int .i64 wn, .slice b rs.length d] 27)) 34 #[.int .i64 0, .string ⟨#[]⟩, .int .i64 0, .slice none 0 0, .int .i64 0, .int .i64 0, .slice none 0 0]).keep b2
  have o2 := Lg.ObAt.new ((w.alloc (.cells #[.int .i64 l, .string s, .int .i64 f, .slice a L.length c, .int .i64 t, .int .i64 wn, .slice b rs.length d] 27)).alloc (.cells #[.int .i64 0, .string ⟨#[]⟩, .int .i64 0, .slice none 0 0, .int .i64 0, .int .i64 0, .slice none 0 0] 34)) 34 #[.int .i64 l, .string s, .int .i64 f, .slice none 0 0, .int .i64 0, .int .i64 0, .slice none 0 0]
  have hb := (b0.trans (b1.mono b0.size)).trans (b2.mono (b0.trans (b1.mono b0.size)).size)
  rw [show (w.alloc (.cells #[.int .i64 l, .string s, .int .i64 f, .slice a L.length c, .int .i64 t, .int .i64 wn, .slice b rs.length d] 27)).heap.size = w.heap.size + 1 by simp] at o1
  rw [show ((w.alloc (.cells #[.int .i64 l, .string s, .int .i64 f, .slice a L.length c, .int .i64 t, .int .i64 wn, .slice b rs.length d] 27)).alloc (.cells #[.int .i64 0, .string ⟨#[]⟩, .int .i64 0, .slice none 0 0, .int .i64 0, .int .i64 0, .slice none 0 0] 34)).heap.size = w.heap.size + 1 + 1 by simp] at o2
  have H0 := Lib.hid (And.intro hb (And.intro o0 (And.intro o1 o2))); clear b0 b1 b2 o0 o1 o2 hb
  have HH := Lib.hid (And.intro h h'); clear h h'
  go_enter Tryz.func6, Tryz.ntmps6
  go_wp2_with fail
  have hz0 : w.heap.size + 1 + 1 < (((w.alloc (.cells #[.int .i64 l, .string s, .int .i64 f, .slice a L.length c, .int .i64 t, .int .i64 wn, .slice b rs.length d] 27)).alloc (.cells #[.int .i64 0, .string ⟨#[]⟩, .int .i64 0, .slice none 0 0, .int .i64 0, .int .i64 0, .slice none 0 0] 34)).alloc (.cells #[.int .i64 l, .string s, .int .i64 f, .slice none 0 0, .int .i64 0, .int .i64 0, .slice none 0 0] 34)).heap.size := by simp
  generalize ((w.alloc (.cells #[.int .i64 l, .string s, .int .i64 f, .slice a L.length c, .int .i64 t, .int .i64 wn, .slice b rs.length d] 27)).alloc (.cells #[.int .i64 0, .string ⟨#[]⟩, .int .i64 0, .slice none 0 0, .int .i64 0, .int .i64 0, .slice none 0 0] 34)).alloc (.cells #[.int .i64 l, .string s, .int .i64 f, .slice none 0 0, .int .i64 0, .int .i64 0, .slice none 0 0] 34) = w1 at *
  refine (Pn.toIntS_any L _ _ _ hL (HH.out.1.old H0.out.1)).mono ?_; rintro e w2 ⟨g1, rfl, hg1, r1, b1⟩
  have o0 := H0.out.2.1.keep b1
  have o1 := H0.out.2.2.1.keep b1
  have o2 := H0.out.2.2.2.keep b1
  have hb := H0.out.1.trans (b1.mono H0.out.1.size)
  have hz2 := b1.size
  have n1 : w.heap.size + 1 + 1 < g1 := by omega
  have q3 : w2.cell? ⟨(w.heap.size + 1 + 1), 3, none⟩ = some (.slice none 0 0) := o2.cell 3
  have f3 : w2.frozen? ⟨(w.heap.size + 1 + 1), 3, none⟩ = false := o2.free 3
  have H1 := Lib.hid (And.intro (hb.setCell (p := ⟨(w.heap.size + 1 + 1), 3, none⟩) (by show w.heap.size ≤ (w.heap.size + 1 + 1); omega) (.slice (some ⟨g1, 0, none⟩) L.length L.length)) (And.intro (o0.other (h := (w.heap.size + 1 + 1)) (o := 3) (by omega) (.slice (some ⟨g1, 0, none⟩) L.length L.length)) (And.intro (o1.other (h := (w.heap.size + 1 + 1)) (o := 3) (by omega) (.slice (some ⟨g1, 0, none⟩) L.length L.length)) (And.intro (put_3 o2 (.slice (some ⟨g1, 0, none⟩) L.length L.length)) (And.intro (Pn.reads_other r1 (g := (w.heap.size + 1 + 1)) (fun b off e => by injection e with e; injection e with e1 e2; omega) (fun k hk => Below.heap_setCell w2 ⟨(w.heap.size + 1 + 1), 3, none⟩ (.slice (some ⟨g1, 0, none⟩) L.length L.length) k hk) (by simp)) n1)))))
  clear o0 o1 o2 hb r1 b1 H0
  go_upto_region 6 with fail
  clear q3 f3
  have hz3 : w.heap.size + 1 + 1 < (w2.setCell ⟨(w.heap.size + 1 + 1), 3, none⟩ (.slice (some ⟨g1, 0, none⟩) L.length L.length)).heap.size := by simp; omega
  generalize w2.setCell ⟨(w.heap.size + 1 + 1), 3, none⟩ (.slice (some ⟨g1, 0, none⟩) L.length L.length) = w3 at *
  have q4 : w3.cell? ⟨w.heap.size, 4, none⟩ = some (.int .i64 t) := H1.out.2.1.cell 4
  have q5 : w3.cell? ⟨w.heap.size, 5, none⟩ = some (.int .i64 wn) := H1.out.2.1.cell 5
  have q6 : w3.cell? ⟨w.heap.size, 6, none⟩ = some (.slice b rs.length d) := H1.out.2.1.cell 6
  go_wp2_with fail
  refine (Lg.toLeague_any t wn rs b d _ hrs (HH.out.2.old H1.out.1)).mono ?_; rintro e w4 ⟨g2, rfl, hg2, r2, b4⟩
  have o1 := H1.out.2.2.1.keep b4
  have o2 := H1.out.2.2.2.1.keep b4
  have hb := H1.out.1.trans (b4.mono H1.out.1.size)
  have r1 := H1.out.2.2.2.2.1.old b4
  have hz4 := b4.size
  have n2 : w.heap.size + 1 + 1 < g2 := by omega
  clear q4 q5 q6
  have q4 : w4.cell? ⟨(w.heap.size + 1 + 1), 4, none⟩ = some (.int .i64 0) := o2.cell 4
  have q5 : w4.cell? ⟨(w.heap.size + 1 + 1), 5, none⟩ = some (.int .i64 0) := o2.cell 5
  have q6 : w4.cell? ⟨(w.heap.size + 1 + 1), 6, none⟩ = some (.slice none 0 0) := o2.cell 6
  have f4 : w4.frozen? ⟨(w.heap.size + 1 + 1), 4, none⟩ = false := o2.free 4
  have f5 : w4.frozen? ⟨(w.heap.size + 1 + 1), 5, none⟩ = false := o2.free 5
  have f6 : w4.frozen? ⟨(w.heap.size + 1 + 1), 6, none⟩ = false := o2.free 6
  have H2 := Lib.hid (And.intro (((hb.setCell (p := ⟨(w.heap.size + 1 + 1), 4, none⟩) (by show w.heap.size ≤ (w.heap.size + 1 + 1); omega) (.int .i64 t)).setCell (p := ⟨(w.heap.size + 1 + 1), 5, none⟩) (by show w.heap.size ≤ (w.heap.size + 1 + 1); omega) (.int .i64 wn)).setCell (p := ⟨(w.heap.size + 1 + 1), 6, none⟩) (by show w.heap.size ≤ (w.heap.size + 1 + 1); omega) (.slice (some ⟨g2, 0, none⟩) rs.length rs.length)) (And.intro (((o1.other (h := (w.heap.size + 1 + 1)) (o := 4) (by omega) (.int .i64 t)).other (h := (w.heap.size + 1 + 1)) (o := 5) (by omega) (.int .i64 wn)).other (h := (w.heap.size + 1 + 1)) (o := 6) (by omega) (.slice (some ⟨g2, 0, none⟩) rs.length rs.length)) (And.intro (dput3 o2 (.int .i64 t) (.int .i64 wn) (.slice (some ⟨g2, 0, none⟩) rs.length rs.length)) (And.intro (Pn.reads_other (W := (((w4.setCell ⟨(w.heap.size + 1 + 1), 4, none⟩ (.int .i64 t)).setCell ⟨(w.heap.size + 1 + 1), 5, none⟩ (.int .i64 wn)).setCell ⟨(w.heap.size + 1 + 1), 6, none⟩ (.slice (some ⟨g2, 0, none⟩) rs.length rs.length))) r1 (g := (w.heap.size + 1 + 1)) (fun b off e => by injection e with e; injection e with e1 e2; omega) (fun k hk => by rw [Below.heap_setCell _ _ _ _ hk]; rw [Below.heap_setCell _ _ _ _ hk]; rw [Below.heap_setCell _ _ _ _ hk]) (by simp)) (And.intro (Pn.reads_other (W := (((w4.setCell ⟨(w.heap.size + 1 + 1), 4, none⟩ (.int .i64 t)).setCell ⟨(w.heap.size + 1 + 1), 5, none⟩ (.int .i64 wn)).setCell ⟨(w.heap.size + 1 + 1), 6, none⟩ (.slice (some ⟨g2, 0, none⟩) rs.length rs.length))) r2.reads (g := (w.heap.size + 1 + 1)) (fun b off e => by injection e with e; injection e with e1 e2; omega) (fun k hk => by rw [Below.heap_setCell _ _ _ _ hk]; rw [Below.heap_setCell _ _ _ _ hk]; rw [Below.heap_setCell _ _ _ _ hk]) (by simp)) (And.intro n1 n2))))))
  clear o1 o2 hb r1 r2 b4 H1
  go_upto_region 7 with fail
  clear q4 q5 q6 f4 f5 f6
  generalize (((w4.setCell ⟨(w.heap.size + 1 + 1), 4, none⟩ (.int .i64 t)).setCell ⟨(w.heap.size + 1 + 1), 5, none⟩ (.int .i64 wn)).setCell ⟨(w.heap.size + 1 + 1), 6, none⟩ (.slice (some ⟨g2, 0, none⟩) rs.length rs.length)) = w5 at *
  obtain ⟨p0, p1, p2, p3, p4, p5, p6⟩ := cell7 H2.out.2.2.1
  obtain ⟨q0, q1, q2, q3, q4, q5, q6⟩ := cell7 H2.out.2.1
  have f0 : w5.frozen? ⟨(w.heap.size + 1), 0, none⟩ = false := H2.out.2.1.free 0
  have f1 : w5.frozen? ⟨(w.heap.size + 1), 1, none⟩ = false := H2.out.2.1.free 1
  have f2 : w5.frozen? ⟨(w.heap.size + 1), 2, none⟩ = false := H2.out.2.1.free 2
  have f3 : w5.frozen? ⟨(w.heap.size + 1), 3, none⟩ = false := H2.out.2.1.free 3
  have f4 : w5.frozen? ⟨(w.heap.size + 1), 4, none⟩ = false := H2.out.2.1.free 4
  have f5 : w5.frozen? ⟨(w.heap.size + 1), 5, none⟩ = false := H2.out.2.1.free 5
  have f6 : w5.frozen? ⟨(w.heap.size + 1), 6, none⟩ = false := H2.out.2.1.free 6
  have H3 := Lib.hid (And.intro (((((((H2.out.1.setCell (p := ⟨(w.heap.size + 1), 0, none⟩) (by show w.heap.size ≤ (w.heap.size + 1); omega) (.int .i64 l)).setCell (p := ⟨(w.heap.size + 1), 1, none⟩) (by show w.heap.size ≤ (w.heap.size + 1); omega) (.string s)).setCell (p := ⟨(w.heap.size + 1), 2, none⟩) (by show w.heap.size ≤ (w.heap.size + 1); omega) (.int .i64 f)).setCell (p := ⟨(w.heap.size + 1), 3, none⟩) (by show w.heap.size ≤ (w.heap.size + 1); omega) (.slice (some ⟨g1, 0, none⟩) L.length L.length)).setCell (p := ⟨(w.heap.size + 1), 4, none⟩) (by show w.heap.size ≤ (w.heap.size + 1); omega) (.int .i64 t)).setCell (p := ⟨(w.heap.size + 1), 5, none⟩) (by show w.heap.size ≤ (w.heap.size + 1); omega) (.int .i64 wn)).setCell (p := ⟨(w.heap.size + 1), 6, none⟩) (by show w.heap.size ≤ (w.heap.size + 1); omega) (.slice (some ⟨g2, 0, none⟩) rs.length rs.length)) (And.intro (dput7 H2.out.2.1 (.int .i64 l) (.string s) (.int .i64 f) (.slice (some ⟨g1, 0, none⟩) L.length L.length) (.int .i64 t) (.int .i64 wn) (.slice (some ⟨g2, 0, none⟩) rs.length rs.length)) (And.intro (Pn.reads_other (W := (((((((w5.setCell ⟨(w.heap.size + 1), 0, none⟩ (.int .i64 l)).setCell ⟨(w.heap.size + 1), 1, none⟩ (.string s)).setCell ⟨(w.heap.size + 1), 2, none⟩ (.int .i64 f)).setCell ⟨(w.heap.size + 1), 3, none⟩ (.slice (some ⟨g1, 0, none⟩) L.length L.length)).setCell ⟨(w.heap.size + 1), 4, none⟩ (.int .i64 t)).setCell ⟨(w.heap.size + 1), 5, none⟩ (.int .i64 wn)).setCell ⟨(w.heap.size + 1), 6, none⟩ (.slice (some ⟨g2, 0, none⟩) rs.length rs.length))) H2.out.2.2.2.1 (g := (w.heap.size + 1)) (fun b off e => by injection e with e; injection e with e1 e2; omega) (fun k hk => by rw [Below.heap_setCell _ _ _ _ hk]; rw [Below.heap_setCell _ _ _ _ hk]; rw [Below.heap_setCell _ _ _ _ hk]; rw [Below.heap_setCell _ _ _ _ hk]; rw [Below.heap_setCell _ _ _ _ hk]; rw [Below.heap_setCell _ _ _ _ hk]; rw [Below.heap_setCell _ _ _ _ hk]) (by simp)) (Pn.reads_other (W := (((((((w5.setCell ⟨(w.heap.size + 1), 0, none⟩ (.int .i64 l)).setCell ⟨(w.heap.size + 1), 1, none⟩ (.string s)).setCell ⟨(w.heap.size + 1), 2, none⟩ (.int .i64 f)).setCell ⟨(w.heap.size + 1), 3, none⟩ (.slice (some ⟨g1, 0, none⟩) L.length L.length)).setCell ⟨(w.heap.size + 1), 4, none⟩ (.int .i64 t)).setCell ⟨(w.heap.size + 1), 5, none⟩ (.int .i64 wn)).setCell ⟨(w.heap.size + 1), 6, none⟩ (.slice (some ⟨g2, 0, none⟩) rs.length rs.length))) H2.out.2.2.2.2.1 (g := (w.heap.size + 1)) (fun b off e => by injection e with e; injection e with e1 e2; omega) (fun k hk => by rw [Below.heap_setCell _ _ _ _ hk]; rw [Below.heap_setCell _ _ _ _ hk]; rw [Below.heap_setCell _ _ _ _ hk]; rw [Below.heap_setCell _ _ _ _ hk]; rw [Below.heap_setCell _ _ _ _ hk]; rw [Below.heap_setCell _ _ _ _ hk]; rw [Below.heap_setCell _ _ _ _ hk]) (by simp)))))
  clear H2
  go_wp2_with fail
  clear p0 p1 p2 p3 p4 p5 p6 q0 q1 q2 q3 q4 q5 q6 f0 f1 f2 f3 f4 f5 f6
  obtain ⟨w6, hw6⟩ : ∃ x, x = (((((((w5.setCell ⟨(w.heap.size + 1), 0, none⟩ (.int .i64 l)).setCell ⟨(w.heap.size + 1), 1, none⟩ (.string s)).setCell ⟨(w.heap.size + 1), 2, none⟩ (.int .i64 f)).setCell ⟨(w.heap.size + 1), 3, none⟩ (.slice (some ⟨g1, 0, none⟩) L.length L.length)).setCell ⟨(w.heap.size + 1), 4, none⟩ (.int .i64 t)).setCell ⟨(w.heap.size + 1), 5, none⟩ (.int .i64 wn)).setCell ⟨(w.heap.size + 1), 6, none⟩ (.slice (some ⟨g2, 0, none⟩) rs.length rs.length)) := ⟨_, rfl⟩
  rw [← hw6] at H3 ⊢
  clear hw6
  obtain ⟨r0, r1, r2, r3, r4, r5, r6⟩ := cell7 H3.out.2.1
  refine bodyPost_ret (v := .agg #[.int .i64 l, .string s, .int .i64 f, .slice (some ⟨g1, 0, none⟩) L.length L.length, .int .i64 t, .int .i64 wn, .slice (some ⟨g2, 0, none⟩) rs.length rs.length]) ?_ rfl ⟨g1, g2, rfl, H3.out.2.2.1, H3.out.2.2.2, H3.out.1⟩
  simp [results, Tryz.results6, go_sem, r0, r1, r2, r3, r4, r5, r6]

set_option maxHeartbeats 3200000 in
set_option maxRecDepth 100000 in
theorem eqDesk_same (l : Int) (V : Array UInt8) (f : Int) (L : List Int) (t wn : Int) (rs : List Lg.Rs) (a : Option Addr) (c : Nat) (b : Option Addr) (d : Nat) (a' : Option Addr) (c' : Nat) (b' : Option Addr) (d' : Nat) (w : World) (hL : (L.length : Int) ≤ 1048576) (hrs : (rs.length : Int) ≤ 1048576) (h1 : Reads w a (ints L)) (h2 : Reads w b (Lg.ress rs)) (h3 : Reads w a' (ints L)) (h4 : Reads w b' (Lg.ress rs)) :
    Calls Tryz.prog 8 #[.agg #[.int .i64 l, .string ⟨V⟩, .int .i64 f, .slice a L.length c, .int .i64 t, .int .i64 wn, .slice b rs.length d], .agg #[.int .i64 l, .string ⟨V⟩, .int .i64 f, .slice a' L.length c', .int .i64 t, .int .i64 wn, .slice b' rs.length d']] w fun e w' => e = .returned (.bool true) ∧ Below w.heap.size w w' := by
  have B0 := Lg.Below.ofNew (w := w) (.cells #[.int .i64 l, .string ⟨V⟩, .int .i64 f, .slice a L.length c, .int .i64 t, .int .i64 wn, .slice b rs.length d] 34)
  have B1 := Lg.Below.ofNew (w := w.alloc (.cells #[.int .i64 l, .string ⟨V⟩, .int .i64 f, .slice a L.length c, .int .i64 t, .int .i64 wn, .slice b rs.length d] 34)) (.cells #[.int .i64 l, .string ⟨V⟩, .int .i64 f, .slice a' L.length c', .int .i64 t, .int .i64 wn, .slice b' rs.length d'] 34)
  have hb := B0.trans (B1.mono B0.size)
  have p0 := (Lg.ObAt.new w 34 #[.int .i64 l, .string ⟨V⟩, .int .i64 f, .slice a L.length c, .int .i64 t, .int .i64 wn, .slice b rs.length d]).keep B1
  have p1 := Lg.ObAt.new (w.alloc (.cells #[.int .i64 l, .string ⟨V⟩, .int .i64 f, .slice a L.length c, .int .i64 t, .int .i64 wn, .slice b rs.length d] 34)) 34 #[.int .i64 l, .string ⟨V⟩, .int .i64 f, .slice a' L.length c', .int .i64 t, .int .i64 wn, .slice b' rs.length d']
  rw [show (w.alloc (.cells #[.int .i64 l, .string ⟨V⟩, .int .i64 f, .slice a L.length c, .int .i64 t, .int .i64 wn, .slice b rs.length d] 34)).heap.size = w.heap.size + 1 by simp] at p1
  have H0 := Lib.hid (And.intro hb (And.intro p0 (And.intro p1 (And.intro (h1.old hb) (And.intro (h2.old hb) (And.intro (h3.old hb) (h4.old hb))))))); clear B0 B1 hb p0 p1 h1 h2 h3 h4
  have HE := Lib.hid (fun W h h' => eqIntS_any L L a a' c c' W (by omega) (by omega) h h')
  rw [show SameB L L = true from by simp [SameB]] at HE
  have HR := Lib.hid (fun W h h' => Lg.eqLeague_any t wn t wn rs rs b b' d d' W (by omega) (by omega) h h')
  rw [show Lg.eqL t wn t wn rs rs = true from by simp [Lg.eqL, Lg.SameR]] at HR
  have x0 : (l != l) = false := by simp
  have x1 : (V.toList != V.toList) = false := by simp
  have x2 : (V != V) = false := by simp
  have x3 : (f != f) = false := by simp
  go_enter Tryz.func8, Tryz.ntmps8
  go_wp2_with fail
  refine (HE.out _ H0.out.2.2.2.1 H0.out.2.2.2.2.2.1).mono ?_; rintro e w1 ⟨rfl, b1⟩
  have H1 := Lib.hid (And.intro (H0.out.1.trans (b1.mono H0.out.1.size)) (And.intro (H0.out.2.1.keep b1) (And.intro (H0.out.2.2.1.keep b1) (And.intro (H0.out.2.2.2.2.1.old b1) (H0.out.2.2.2.2.2.2.old b1))))); clear b1 H0
  have q4 : w1.cell? ⟨w.heap.size, 4, none⟩ = some (.int .i64 t) := H1.out.2.1.cell 4
  have q5 : w1.cell? ⟨w.heap.size, 5, none⟩ = some (.int .i64 wn) := H1.out.2.1.cell 5
  have q6 : w1.cell? ⟨w.heap.size, 6, none⟩ = some (.slice b rs.length d) := H1.out.2.1.cell 6
  have s4 : w1.cell? ⟨w.heap.size + 1, 4, none⟩ = some (.int .i64 t) := H1.out.2.2.1.cell 4
  have s5 : w1.cell? ⟨w.heap.size + 1, 5, none⟩ = some (.int .i64 wn) := H1.out.2.2.1.cell 5
  have s6 : w1.cell? ⟨w.heap.size + 1, 6, none⟩ = some (.slice b' rs.length d') := H1.out.2.2.1.cell 6
  go_wp2_with fail
  refine (HR.out _ H1.out.2.2.2.1 H1.out.2.2.2.2).mono ?_; rintro e w2 ⟨rfl, b2⟩
  have H2 := Lib.hid (H1.out.1.trans (b2.mono H1.out.1.size)); clear b2
  go_wp2_with fail
  go_ret
  exact ⟨rfl, H2.out⟩
end Go.Proofs.YtgkkjlpfkoplhaaGreatDoor

namespace Go.Proofs.YtgkkjlpfkoplhaaGreatDoor
open Go.RowKit Go.ChangeShapes Go.WideShapes Go.Joins
set_option linter.unusedVariables false
set_option linter.unusedSimpArgs false

/-- What makes a desk. -/
def deskG (l : Int) (s : ByteArray) (f : Int) (L : List Int) (t wn : Int) (rs : List Lg.Rs) : Bool := inR l 0 1001 && (goodB s && ((Pn.goodR f L).isSome && Lg.goodL t wn rs))

theorem daLeft_any (l : Int) (w : World) : Calls Tryz.prog 21 #[.int .i64 l] w fun e w' => e = .returned (.bool (inR l 0 1001)) ∧ w = w' := by
  go_enter Tryz.func21, Tryz.ntmps21
  go_wp2_with fail
  refine (Pn.l1In_any _ _ _ _).mono ?_; rintro e w1 ⟨rfl, rfl⟩
  go_wp2_with fail
  go_ret
  exact ⟨rfl, rfl⟩
theorem isLeft_any (l : Int) (w : World) : Calls Tryz.prog 14 #[.int .i64 l] w fun e w' => e = .returned (.bool (inR l 0 1001)) ∧ w = w' := by
  by_cases h1 : 0 ≤ l <;> by_cases h2 : l ≤ 1001
  all_goals
    go_enter Tryz.func14, Tryz.ntmps14
    go_wp2
    go_ret
    exact ⟨ret_bool (by simp [inR, *]), rfl⟩
set_option maxHeartbeats 3200000 in
theorem coGood_any (l : Int) (s : ByteArray) (f : Int) (L : List Int) (t wn : Int) (rs : List Lg.Rs) (a : Option Addr) (c : Nat) (b : Option Addr) (d : Nat) (w : World) (hs : (s.size : Int) ≤ 1048576) (hL : (L.length : Int) ≤ 1048576) (hrs : (rs.length : Int) ≤ 1048576) (hd : rs.length ≤ d) (h : Reads w a (ints L)) (h' : Reads w b (Lg.ress rs)) :
    Calls Tryz.prog 11 #[.agg #[.int .i64 l, .string s, .int .i64 f, .slice a L.length c, .int .i64 t, .int .i64 wn, .slice b rs.length d]] w fun e w' => e = .returned (.bool (deskG l s f L t wn rs)) ∧ Below w.heap.size w w' := by
  have b0 := Lg.Below.ofNew (w := w) (.cells #[.int .i64 l, .string s, .int .i64 f, .slice a L.length c, .int .i64 t, .int .i64 wn, .slice b rs.length d] 34)
  have H0 := Lib.hid (And.intro b0 (And.intro (Lg.ObAt.new w 34 #[.int .i64 l, .string s, .int .i64 f, .slice a L.length c, .int .i64 t, .int .i64 wn, .slice b rs.length d]) (And.intro (h.old b0) (h'.old b0))))
  clear b0 h h'
  have hv : deskG l s f L t wn rs = (inR l 0 1001 && (goodB s && ((Pn.goodR f L).isSome && Lg.goodL t wn rs))) := rfl
  rw [hv]; clear hv
  have HL := Lib.hid (fun W => daLeft_any l W)
  have HS := Lib.hid (fun W => tnGood_any s W (by omega))
  have HP := Lib.hid (fun W h => Pn.boGood_any f L a c W (by omega) h)
  have HG := Lib.hid (fun W h => Lg.lgGood_any t wn rs b d W (by omega) hd h)
  cases h1 : inR l 0 1001
  · rw [h1] at HL
    clear h1
    go_enter Tryz.func11, Tryz.ntmps11
    go_wp2_with fail
    refine (HL.out _).mono ?_; rintro e w1 ⟨rfl, rfl⟩
    go_wp2_with fail
    go_ret
    exact ⟨rfl, H0.out.1⟩
  rw [h1] at HL
  clear h1
  cases h2 : goodB s
  · rw [h2] at HS
    clear h2
    go_enter Tryz.func11, Tryz.ntmps11
    go_wp2_with fail
    refine (HL.out _).mono ?_; rintro e w1 ⟨rfl, rfl⟩
    go_wp2_with fail
    refine (HS.out _).mono ?_; rintro e w2 ⟨rfl, b2⟩
    have H2 := Lib.hid (H0.out.1.trans (b2.mono H0.out.1.size)); clear b2
    go_wp2_with fail
    go_ret
    exact ⟨rfl, H2.out⟩
  rw [h2] at HS
  clear h2
  cases h3 : (Pn.goodR f L).isSome
  · rw [h3] at HP
    clear h3
    go_enter Tryz.func11, Tryz.ntmps11
    go_wp2_with fail
    refine (HL.out _).mono ?_; rintro e w1 ⟨rfl, rfl⟩
    go_wp2_with fail
    refine (HS.out _).mono ?_; rintro e w2 ⟨rfl, b2⟩
    have H2 := Lib.hid (And.intro (H0.out.1.trans (b2.mono H0.out.1.size)) (And.intro (H0.out.2.1.keep b2) (And.intro (H0.out.2.2.1.old b2) (H0.out.2.2.2.old b2)))); clear b2
    have q2 : w2.cell? ⟨w.heap.size, 2, none⟩ = some (.int .i64 f) := H2.out.2.1.cell 2
    have q3 : w2.cell? ⟨w.heap.size, 3, none⟩ = some (.slice a L.length c) := H2.out.2.1.cell 3
    go_wp2_with fail
    refine (HP.out _ H2.out.2.2.1).mono ?_; rintro e w3 ⟨rfl, b3⟩
    have H3 := Lib.hid (H2.out.1.trans (b3.mono H2.out.1.size)); clear b3 q2 q3
    go_wp2_with fail
    go_ret
    exact ⟨rfl, H3.out⟩
  rw [h3] at HP
  clear h3
  cases h4 : Lg.goodL t wn rs
  all_goals
    rw [h4] at HG
    clear h4
    go_enter Tryz.func11, Tryz.ntmps11
    go_wp2_with fail
    refine (HL.out _).mono ?_; rintro e w1 ⟨rfl, rfl⟩
    go_wp2_with fail
    refine (HS.out _).mono ?_; rintro e w2 ⟨rfl, b2⟩
    have H2 := Lib.hid (And.intro (H0.out.1.trans (b2.mono H0.out.1.size)) (And.intro (H0.out.2.1.keep b2) (And.intro (H0.out.2.2.1.old b2) (H0.out.2.2.2.old b2)))); clear b2
    have q2 : w2.cell? ⟨w.heap.size, 2, none⟩ = some (.int .i64 f) := H2.out.2.1.cell 2
    have q3 : w2.cell? ⟨w.heap.size, 3, none⟩ = some (.slice a L.length c) := H2.out.2.1.cell 3
    go_wp2_with fail
    refine (HP.out _ H2.out.2.2.1).mono ?_; rintro e w3 ⟨rfl, b3⟩
    have H3 := Lib.hid (And.intro (H2.out.1.trans (b3.mono H2.out.1.size)) (And.intro (H2.out.2.1.keep b3) (H2.out.2.2.2.old b3))); clear b3 q2 q3 H2
    have q4 : w3.cell? ⟨w.heap.size, 4, none⟩ = some (.int .i64 t) := H3.out.2.1.cell 4
    have q5 : w3.cell? ⟨w.heap.size, 5, none⟩ = some (.int .i64 wn) := H3.out.2.1.cell 5
    have q6 : w3.cell? ⟨w.heap.size, 6, none⟩ = some (.slice b rs.length d) := H3.out.2.1.cell 6
    go_wp2_with fail
    refine (HG.out _ H3.out.2.2).mono ?_; rintro e w4 ⟨rfl, b4⟩
    have H4 := Lib.hid (H3.out.1.trans (b4.mono H3.out.1.size)); clear b4 q4 q5 q6
    go_wp2_with fail
    go_ret
    exact ⟨rfl, H4.out⟩

set_option maxHeartbeats 3200000 in
theorem implIsDesk_any (l : Int) (s : ByteArray) (f : Int) (L : List Int) (t wn : Int) (rs : List Lg.Rs) (a : Option Addr) (c : Nat) (b : Option Addr) (d : Nat) (p0 p1 : Addr) (w : World) (hs : (s.size : Int) ≤ 1048576) (hL : (L.length : Int) ≤ 1048576) (hrs : (rs.length : Int) ≤ 1048576) (hd : rs.length ≤ d) (h : Reads w a (ints L)) (h' : Reads w b (Lg.ress rs)) (he : Laid w p0 p1) :
    Calls Tryz.prog 7 #[.agg #[.int .i64 l, .string s, .int .i64 f, .slice a L.length c, .int .i64 t, .int .i64 wn, .slice b rs.length d]] w fun e w' => e = .returned (.bool (deskG l s f L t wn rs)) ∧ Below w.heap.size w w' := by
  have b0 := Lg.Below.ofNew (w := w) (.cells #[.int .i64 l, .string s, .int .i64 f, .slice a L.length c, .int .i64 t, .int .i64 wn, .slice b rs.length d] 34)
  have H0 := Lib.hid (And.intro b0 (And.intro (Lg.ObAt.new w 34 #[.int .i64 l, .string s, .int .i64 f, .slice a L.length c, .int .i64 t, .int .i64 wn, .slice b rs.length d]) (And.intro (h.old b0) (h'.old b0))))
  have HE := Lib.hid (he.keep b0); clear he
  clear b0 h h'
  have hv : deskG l s f L t wn rs = (inR l 0 1001 && (goodB s && ((Pn.goodR f L).isSome && Lg.goodL t wn rs))) := rfl
  rw [hv]; clear hv
  have HL := Lib.hid (fun W => isLeft_any l W)
  have HS := Lib.hid (fun W he => implIsSet_any s p0 p1 W (by omega) he)
  have HP := Lib.hid (fun W h => Pn.implAreRolls_any f L a c W (by omega) h)
  have HG := Lib.hid (fun W h => Lg.isLeague_any t wn rs b d W (by omega) hd h)
  cases h1 : inR l 0 1001
  · rw [h1] at HL
    clear h1
    go_enter Tryz.func7, Tryz.ntmps7
    go_wp2_with fail
    refine (HL.out _).mono ?_; rintro e w1 ⟨rfl, rfl⟩
    go_wp2_with fail
    go_ret
    exact ⟨rfl, H0.out.1⟩
  rw [h1] at HL
  clear h1
  cases h2 : goodB s
  · rw [h2] at HS
    clear h2
    go_enter Tryz.func7, Tryz.ntmps7
    go_wp2_with fail
    refine (HL.out _).mono ?_; rintro e w1 ⟨rfl, rfl⟩
    go_wp2_with fail
    refine (HS.out _ HE.out).mono ?_; rintro e w2 ⟨rfl, b2⟩
    have H2 := Lib.hid (H0.out.1.trans (b2.mono H0.out.1.size)); clear b2
    go_wp2_with fail
    go_ret
    exact ⟨rfl, H2.out⟩
  rw [h2] at HS
  clear h2
  cases h3 : (Pn.goodR f L).isSome
  · rw [h3] at HP
    clear h3
    go_enter Tryz.func7, Tryz.ntmps7
    go_wp2_with fail
    refine (HL.out _).mono ?_; rintro e w1 ⟨rfl, rfl⟩
    go_wp2_with fail
    refine (HS.out _ HE.out).mono ?_; rintro e w2 ⟨rfl, b2⟩
    have H2 := Lib.hid (And.intro (H0.out.1.trans (b2.mono H0.out.1.size)) (And.intro (H0.out.2.1.keep b2) (And.intro (H0.out.2.2.1.old b2) (H0.out.2.2.2.old b2)))); clear b2
    have q2 : w2.cell? ⟨w.heap.size, 2, none⟩ = some (.int .i64 f) := H2.out.2.1.cell 2
    have q3 : w2.cell? ⟨w.heap.size, 3, none⟩ = some (.slice a L.length c) := H2.out.2.1.cell 3
    go_wp2_with fail
    refine (HP.out _ H2.out.2.2.1).mono ?_; rintro e w3 ⟨rfl, b3⟩
    have H3 := Lib.hid (H2.out.1.trans (b3.mono H2.out.1.size)); clear b3 q2 q3
    go_wp2_with fail
    go_ret
    exact ⟨rfl, H3.out⟩
  rw [h3] at HP
  clear h3
  cases h4 : Lg.goodL t wn rs
  all_goals
    rw [h4] at HG
    clear h4
    go_enter Tryz.func7, Tryz.ntmps7
    go_wp2_with fail
    refine (HL.out _).mono ?_; rintro e w1 ⟨rfl, rfl⟩
    go_wp2_with fail
    refine (HS.out _ HE.out).mono ?_; rintro e w2 ⟨rfl, b2⟩
    have H2 := Lib.hid (And.intro (H0.out.1.trans (b2.mono H0.out.1.size)) (And.intro (H0.out.2.1.keep b2) (And.intro (H0.out.2.2.1.old b2) (H0.out.2.2.2.old b2)))); clear b2
    have q2 : w2.cell? ⟨w.heap.size, 2, none⟩ = some (.int .i64 f) := H2.out.2.1.cell 2
    have q3 : w2.cell? ⟨w.heap.size, 3, none⟩ = some (.slice a L.length c) := H2.out.2.1.cell 3
    go_wp2_with fail
    refine (HP.out _ H2.out.2.2.1).mono ?_; rintro e w3 ⟨rfl, b3⟩
    have H3 := Lib.hid (And.intro (H2.out.1.trans (b3.mono H2.out.1.size)) (And.intro (H2.out.2.1.keep b3) (H2.out.2.2.2.old b3))); clear b3 q2 q3 H2
    have q4 : w3.cell? ⟨w.heap.size, 4, none⟩ = some (.int .i64 t) := H3.out.2.1.cell 4
    have q5 : w3.cell? ⟨w.heap.size, 5, none⟩ = some (.int .i64 wn) := H3.out.2.1.cell 5
    have q6 : w3.cell? ⟨w.heap.size, 6, none⟩ = some (.slice b rs.length d) := H3.out.2.1.cell 6
    go_wp2_with fail
    refine (HG.out _ H3.out.2.2).mono ?_; rintro e w4 ⟨rfl, b4⟩
    have H4 := Lib.hid (H3.out.1.trans (b4.mono H3.out.1.size)); clear b4 q4 q5 q6
    go_wp2_with fail
    go_ret
    exact ⟨rfl, H4.out⟩

set_option maxHeartbeats 1600000 in
theorem specIsDesk_any (l : Int) (s : ByteArray) (f : Int) (L : List Int) (t wn : Int) (rs : List Lg.Rs) (a : Option Addr) (c : Nat) (b : Option Addr) (d : Nat) (w : World) (hs : (s.size : Int) ≤ 1048576) (hL : (L.length : Int) ≤ 1048576) (hrs : (rs.length : Int) ≤ 1048576) (hd : rs.length ≤ d) (h : Reads w a (ints L)) (h' : Reads w b (Lg.ress rs)) :
    Calls Tryz.prog 5 #[.agg #[.int .i64 l, .string s, .int .i64 f, .slice a L.length c, .int .i64 t, .int .i64 wn, .slice b rs.length d]] w fun e w' => e = .returned (.bool (deskG l s f L t wn rs)) ∧ Below w.heap.size w w' := by
  have HB := Lib.hid (Lg.Below.ofNew (w := w) (.cells #[.int .i64 l, .string s, .int .i64 f, .slice a L.length c, .int .i64 t, .int .i64 wn, .slice b rs.length d] 34))
  have HG := Lib.hid (coGood_any l s f L t wn rs a c b d _ hs hL hrs hd (h.old HB.out) (h'.old HB.out)); clear h h'
  go_enter Tryz.func5, Tryz.ntmps5
  go_wp2_with fail
  refine HG.out.mono ?_; rintro e w1 ⟨rfl, b1⟩
  have B1 := Lib.hid (HB.out.trans (b1.mono HB.out.size)); clear b1
  go_wp2_with fail
  go_ret
  exact ⟨rfl, B1.out⟩

end Go.Proofs.YtgkkjlpfkoplhaaGreatDoor
