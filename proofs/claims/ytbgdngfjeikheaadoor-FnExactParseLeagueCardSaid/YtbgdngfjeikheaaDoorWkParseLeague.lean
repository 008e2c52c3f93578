/- What the exact law of ParseLeague does, step by step. -/
import Derived.Test.YtbgdngfjeikheaaDoorLqSpe4
namespace Go.Proofs.YtbgdngfjeikheaaDoor.ExParseLeague
open Go.RowKit
set_option linter.unusedVariables false
set_option linter.unusedSimpArgs false

set_option maxHeartbeats 400000 in
theorem law_long (s : ByteArray) (w : World) (hl : (1048576 : Int) < (s.size : Int)) :
    Calls Tryd.prog 6 #[.string s] w fun e w' => e = .returned (.bool true) ∧ Below w.heap.size w w' := by
  go_enter Tryd.func6, Tryd.ntmps6
  go_wp2
  go_ret
  exact ⟨rfl, Below.refl _ _⟩

def SwB (w : World) (m : List Rs) (a2 : Option Addr) (B : Nat) (v4 : Value) (t' wn' : Int) (c2 g4 c4 g7 : Nat) (a4 : Option Addr) (wi : World) : Prop :=
  (Below w.heap.size w wi ∧ Reads wi a2 (ress m) ∧ wi.ownsRow B 97 4 v4 m.length (ress m)) ∧ BxL t' wn' m.length a2 c2 g4 a4 c4 g7 wi
theorem SwB.keep {w : World} {m : List Rs} {a2 : Option Addr} {B : Nat} {v4 : Value} {t' wn' : Int} {c2 g4 c4 g7 : Nat} {a4 : Option Addr} {wi wj : World} (h : SwB w m a2 B v4 t' wn' c2 g4 c4 g7 a4 wi) (hb : Below wi.heap.size wi wj) : SwB w m a2 B v4 t' wn' c2 g4 c4 g7 a4 wj := ⟨⟨h.1.1.trans (hb.mono h.1.1.size), h.1.2.1.old hb, owns_below h.1.2.2 hb⟩, h.2.keep hb⟩
def SkB (w : World) (m : List Rs) (a2 : Option Addr) (t' wn' : Int) (c2 g4 c4 g7 : Nat) (a4 : Option Addr) (wi : World) : Prop :=
  (Below w.heap.size w wi ∧ Reads wi a2 (ress m) ∧ Reads wi a4 (ints (marks 1 (m.length * 4)))) ∧ BxL t' wn' m.length a2 c2 g4 a4 c4 g7 wi
theorem SkB.keep {w : World} {m : List Rs} {a2 : Option Addr} {t' wn' : Int} {c2 g4 c4 g7 : Nat} {a4 : Option Addr} {wi wj : World} (h : SkB w m a2 t' wn' c2 g4 c4 g7 a4 wi) (hb : Below wi.heap.size wi wj) : SkB w m a2 t' wn' c2 g4 c4 g7 a4 wj := ⟨⟨h.1.1.trans (hb.mono h.1.1.size), h.1.2.1.old hb, h.1.2.2.old hb⟩, h.2.keep hb⟩

set_option maxHeartbeats 3200000 in
theorem law_of (s : ByteArray) (t' wn' : Int) (m : List Rs) (o : Bool) (hL : (m.length : Int) ≤ 1000) (hs : (∀ w : World, Calls Tryd.prog 24 #[.string s] w fun e w' => LgR t' wn' m o w e w')) (hi : (∀ w : World, Door w → Calls Tryd.prog 25 #[.string s] w fun e w' => LgR t' wn' m o w e w')) (w : World) (hl : ¬ (1048576 : Int) < (s.size : Int)) (hd : Door w) :
    Calls Tryd.prog 6 #[.string s] w fun e w' => e = .returned (.bool true) ∧ Below w.heap.size w w' := by
  have HS := Lib.hid hs; clear hs
  have HI := Lib.hid hi; clear hi
  have HD := Lib.hid hd; clear hd
  have q1 : (o != o) = false := by simp
  go_enter Tryd.func6, Tryd.ntmps6
  go_wp2_with fail
  refine (HS.out _).mono ?_; rintro e w2 ⟨a2, c2, rfl, o2, b2⟩
  obtain ⟨x2, y2, ev, r2, -, -, -⟩ := Reads.own o2
  injection ev with ev1 ev2 ev3
  subst ev1 ev3
  clear ev2
  have lt2 : ∀ b, blockOf a2 = some b → b < w2.heap.size := fun b e => (owns_ge o2 (own_block.trans e)).2
  have bn2 := Below.ofNew (w := w2) (.cells #[.int .i64 t', .int .i64 wn', .slice a2 m.length c2] 42)
  have L3 : Hid (Below w.heap.size w (w2.alloc (.cells #[.int .i64 t', .int .i64 wn', .slice a2 m.length c2] 42)) ∧ Reads (w2.alloc (.cells #[.int .i64 t', .int .i64 wn', .slice a2 m.length c2] 42)) a2 (ress m) ∧ (∀ b, blockOf a2 = some b → b < w2.heap.size) ∧ ObAt (w2.alloc (.cells #[.int .i64 t', .int .i64 wn', .slice a2 m.length c2] 42)) w2.heap.size 42 #[.int .i64 t', .int .i64 wn', .slice a2 m.length c2]) :=
    ⟨b2.trans (bn2.mono b2.size), r2.old bn2, lt2, ObAt.new _ _ _⟩
  have hws := b2.size
  clear b2 o2 r2 lt2 bn2
  obtain ⟨B, hB⟩ : ∃ B, B = (w2.alloc (.cells #[.int .i64 t', .int .i64 wn', .slice a2 m.length c2] 42)).heap.size := ⟨_, rfl⟩
  have HF : Hid (w.heap.size ≤ w2.heap.size ∧ w2.heap.size < B ∧ (∀ b, blockOf a2 = some b → b < w2.heap.size)) := ⟨hws, by rw [hB]; simp, L3.out.2.2.1⟩
  clear hws
  generalize hg4 : w2.heap.size = g4 at *
  go_wp2_with fail
  refine (HI.out _ (HD.out.keep L3.out.1)).mono ?_; rintro e w4 ⟨a4, c4, rfl, o4, b4⟩
  have hB4 := b4.size
  rw [← hB] at o4 hB4
  clear hB
  have lt4 : ∀ b, blockOf a4 = some b → b < w4.heap.size := fun b e => (owns_ge o4 (own_block.trans e)).2
  have ge4 : ∀ b, blockOf a4 = some b → B ≤ b := fun b e => (owns_ge o4 (own_block.trans e)).1
  have bn4 := Below.ofNew (w := w4) (.cells #[.int .i64 t', .int .i64 wn', .slice a4 m.length c4] 42)
  obtain ⟨g7, hg7⟩ : ∃ g7, g7 = w4.heap.size := ⟨_, rfl⟩
  have HF4 : Hid ((∀ b, blockOf a4 = some b → B ≤ b ∧ b < g7) ∧ B ≤ g7) := ⟨fun b e => ⟨ge4 b e, by rw [hg7]; exact lt4 b e⟩, by rw [hg7]; exact hB4⟩
  have Y5 : Hid (SwB w m a2 B (.slice a4 m.length c4) t' wn' c2 g4 c4 g7 a4 (w4.alloc (.cells #[.int .i64 t', .int .i64 wn', .slice a4 m.length c4] 42))) :=
    ⟨⟨(L3.out.1.trans (b4.mono L3.out.1.size)).trans (bn4.mono (L3.out.1.trans (b4.mono L3.out.1.size)).size), (L3.out.2.1.old b4).old bn4, owns_below o4 bn4⟩, (L3.out.2.2.2.keep b4).keep bn4, by rw [hg7]; exact ObAt.new _ _ _⟩
  clear ge4 lt4 o4 b4 bn4 hB4 L3
  obtain ⟨b0, b1, b2, b3, b4, b5⟩ := Y5.out.2.full
  rw [hg7] at b3 b4 b5
  go_wp2_with fail
  try rw [← hg7]
  rw [← hg7] at b3 b4 b5
  clear hg7
  obtain ⟨x4, y4, ev, r4, -, -, -⟩ := Reads.own Y5.out.1.2.2
  injection ev with ev1 ev2 ev3
  subst ev1 ev3
  clear ev2
  refine (eq_sameL t' wn' m _ _ _ _ _ (by omega) r4 Y5.out.1.2.1).mono ?_; rintro e w9 ⟨rfl, b9⟩
  have Z9 := Lib.hid (Y5.out.keep b9); clear b9 Y5 r4 b0 b1 b2 b3 b4 b5
  obtain ⟨b0, b1, b2, b3, b4, b5⟩ := Z9.out.2.full
  go_wp2_with fail
  have bn9 := Below.ofNew (w := w9) (.cells #[.int .i64 t', .int .i64 wn', .slice a4 m.length c4] 42)
  have wr9 := Writable.own Z9.out.1.2.2
  refine (markLeague_any t' wn' m.length _ _ 1 _ (by omega) (by omega) (by omega) wr9).mono ?_; rintro e w10 ⟨rfl, hw10⟩
  have Z10 : Hid (SkB w m a2 t' wn' c2 g4 c4 g7 a4 w10) := by
    have h9 := Z9.out.keep bn9
    rw [hw10]
    refine ⟨⟨Below.writeAt h9.1.1 (fun b e => by have := HF4.out.1 b e; have := HF.out.1; have := HF.out.2.1; omega) _, h9.1.2.1.write_other (fun b e e2 => by have := HF4.out.1 b e2; have := HF.out.2.2 b e; have := HF.out.2.1; omega) _, Reads.written (by rw [ints_len, marks_len]; exact wr9.keep bn9)⟩, h9.2.write (fun e => by have := HF4.out.1 _ e; have := HF.out.2.1; omega) (fun e => by have := HF4.out.1 _ e; omega) _⟩
  clear hw10 wr9 Z9 bn9 b0 b1 b2 b3 b4 b5
  have k2 : ((1 : Int) + ((m.length * 4 : Nat) : Int) < 0) = False := by simp; omega
  have k3 : ((1 : Int) + ((m.length * 4 : Nat) : Int) != 1 + ((m.length * 4 : Nat) : Int)) = false := by simp
  obtain ⟨b0, b1, b2, b3, b4, b5⟩ := Z10.out.2.full
  go_wp2_with fail
  refine (heldLeague_any t' wn' m.length _ _ 1 _ (by omega) (by omega) (by omega) Z10.out.1.2.2).mono ?_; rintro e w11 ⟨rfl, b11⟩
  have Z11 := Lib.hid (Z10.out.keep b11); clear b11 Z10 b0 b1 b2 b3 b4 b5
  obtain ⟨b0, b1, b2, b3, b4, b5⟩ := Z11.out.2.full
  go_wp2_with fail
  refine (HI.out _ (HD.out.keep Z11.out.1.1)).mono ?_; rintro e w13 ⟨a13, c13, rfl, o13, b13⟩
  obtain ⟨x13, y13, ev, r13, -, -, -⟩ := Reads.own o13
  injection ev with ev1 ev2 ev3
  subst ev1 ev3
  clear ev2
  have bn13 := Below.ofNew (w := w13) (.cells #[.int .i64 t', .int .i64 wn', .slice a13 m.length c13] 42)
  have Z13 := Lib.hid (And.intro (r13.old bn13) ((Z11.out.keep b13).keep bn13))
  have hz13 := ((Z11.out.2.keep b13).1).lt
  clear r13 b13 o13 Z11 bn13 b0 b1 b2 b3 b4 b5
  obtain ⟨b0, b1, b2, b3, b4, b5⟩ := Z13.out.2.2.full
  go_wp2_with fail
  refine (eq_sameL t' wn' m _ _ _ _ _ (by omega) Z13.out.1 Z13.out.2.1.2.1).mono ?_; rintro e w14 ⟨rfl, b14⟩
  have Z14 := Lib.hid (Z13.out.2.keep b14); clear b14 Z13 b0 b1 b2 b3 b4 b5
  obtain ⟨b0, b1, b2, b3, b4, b5⟩ := Z14.out.2.full
  go_wp2_with fail
  refine (heldLeague_any t' wn' m.length _ _ 1 _ (by omega) (by omega) (by omega) Z14.out.1.2.2).mono ?_; rintro e w15 ⟨rfl, b15⟩
  have Z15 := Lib.hid (Z14.out.1.1.trans (b15.mono Z14.out.1.1.size)); clear b15 Z14
  go_wp2_with fail
  go_ret
  exact ⟨rfl, Z15.out⟩

theorem walk (s : ByteArray) (w : World) (hd : Door w) :
    Calls Tryd.prog 6 #[.string s] w fun e w' => e = .returned (.bool true) ∧ Below w.heap.size w w' := by
  by_cases hl : (1048576 : Int) < (s.size : Int)
  · exact law_long s w hl
  · have hl' : (s.size : Int) ≤ 1048576 := by omega
    obtain ⟨e1, e2⟩ := ways_lg s.data.toList
    have hs := fun w => specParseLeague_any s hl' w
    rw [e1, e2] at hs
    exact law_of s _ _ _ _ (valP_len s.data.toList) hs (fun w he => implParseLeague_any s (by omega) w he) w hl hd
end Go.Proofs.YtbgdngfjeikheaaDoor.ExParseLeague
