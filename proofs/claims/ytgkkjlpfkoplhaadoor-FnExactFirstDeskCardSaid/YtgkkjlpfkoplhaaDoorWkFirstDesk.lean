/- What the exact law of FirstDesk does, step by step. -/
import Derived.Test.YtgkkjlpfkoplhaaDoorDkDesk
namespace Go.Proofs.YtgkkjlpfkoplhaaDoor.ExFirstDesk
open Go.RowKit
set_option linter.unusedVariables false
set_option linter.unusedSimpArgs false

set_option maxHeartbeats 6400000 in
set_option maxRecDepth 100000 in
theorem walk (w : World) (hd : Door w) :
    Calls Tryd.prog 5 #[] w fun e w' => e = .returned (.bool true) ∧ Below w.heap.size w w' := by
  have HS := Lib.hid (fun W => specFirstDesk_any W)
  have HI := Lib.hid (fun W h => implFirstDesk_any W h)
  have HD := Lib.hid hd; clear hd
  go_enter Tryd.func5, Tryd.ntmps5
  go_wp2_with fail
  refine (HS.out _).mono ?_; rintro e w2 ⟨a2, c2, rfl, o2, b2⟩
  obtain ⟨z2, y2, ev, r2, -, -, -⟩ := Reads.own o2
  injection ev with ev1 ev2 ev3
  subst ev1 ev3
  clear ev2
  have lt2 : ∀ b, blockOf a2 = some b → b < w2.heap.size := fun b e => (owns_ge o2 (own_block.trans e)).2
  have bn2 := Below.ofNew (w := w2) (.cells #[.int .i64 170, .string ⟨#[]⟩, .int .i64 2, .slice none 0 0, .int .i64 3, .int .i64 3, .slice a2 4 c2] 36)
  have L3 : Hid (Below w.heap.size w (w2.alloc (.cells #[.int .i64 170, .string ⟨#[]⟩, .int .i64 2, .slice none 0 0, .int .i64 3, .int .i64 3, .slice a2 4 c2] 36)) ∧ Reads (w2.alloc (.cells #[.int .i64 170, .string ⟨#[]⟩, .int .i64 2, .slice none 0 0, .int .i64 3, .int .i64 3, .slice a2 4 c2] 36)) a2 (ress rs0) ∧ (∀ b, blockOf a2 = some b → b < w2.heap.size) ∧ ObAt (w2.alloc (.cells #[.int .i64 170, .string ⟨#[]⟩, .int .i64 2, .slice none 0 0, .int .i64 3, .int .i64 3, .slice a2 4 c2] 36)) w2.heap.size 36 #[.int .i64 170, .string ⟨#[]⟩, .int .i64 2, .slice none 0 0, .int .i64 3, .int .i64 3, .slice a2 4 c2]) :=
    ⟨b2.trans (bn2.mono b2.size), r2.old bn2, lt2, ObAt.new _ _ _⟩
  have hws := b2.size
  clear b2 o2 r2 lt2 bn2
  obtain ⟨B, hB⟩ : ∃ B, B = (w2.alloc (.cells #[.int .i64 170, .string ⟨#[]⟩, .int .i64 2, .slice none 0 0, .int .i64 3, .int .i64 3, .slice a2 4 c2] 36)).heap.size := ⟨_, rfl⟩
  have HF : Hid (w.heap.size ≤ w2.heap.size ∧ w2.heap.size < B ∧ (∀ b, blockOf a2 = some b → b < w2.heap.size)) := ⟨hws, by rw [hB]; simp, L3.out.2.2.1⟩
  clear hws
  generalize hg4 : w2.heap.size = g4 at *
  go_wp2_with fail
  refine (HI.out _ (HD.out.keep L3.out.1)).mono ?_; rintro e w4 ⟨a4, c4, rfl, o4, b4⟩
  have hB4 := b4.size
  rw [← hB] at o4 hB4
  clear hB
  have lt4 : ∀ b, blockOf a4 = some b → b < w4.heap.size := fun b e => (owns_ge o4 (own_block.trans e)).2
  have ge4 : ∀ b, blockOf a4 = some b → B ≤ b := fun b e => (owns_ge o4 (own_block.trans e)).1
  have bn4 := Below.ofNew (w := w4) (.cells #[.int .i64 170, .string ⟨#[]⟩, .int .i64 2, .slice none 0 0, .int .i64 3, .int .i64 3, .slice a4 4 c4] 36)
  obtain ⟨g7, hg7⟩ : ∃ g7, g7 = w4.heap.size := ⟨_, rfl⟩
  have HF4 : Hid ((∀ b, blockOf a4 = some b → B ≤ b ∧ b < g7) ∧ B ≤ g7) := ⟨fun b e => ⟨ge4 b e, by rw [hg7]; exact lt4 b e⟩, by rw [hg7]; exact hB4⟩
  have Y5 : Hid (SwD w a2 B (.slice a4 4 c4) c2 g4 c4 g7 a4 (w4.alloc (.cells #[.int .i64 170, .string ⟨#[]⟩, .int .i64 2, .slice none 0 0, .int .i64 3, .int .i64 3, .slice a4 4 c4] 36))) :=
    ⟨⟨(L3.out.1.trans (b4.mono L3.out.1.size)).trans (bn4.mono (L3.out.1.trans (b4.mono L3.out.1.size)).size), (L3.out.2.1.old b4).old bn4, owns_below o4 bn4⟩, (L3.out.2.2.2.keep b4).keep bn4, by rw [hg7]; exact ObAt.new _ _ _⟩
  clear ge4 lt4 o4 b4 bn4 hB4 L3
  have x0 := Y5.out.2.1.cell 0
  have x1 := Y5.out.2.1.cell 1
  have x2 := Y5.out.2.1.cell 2
  have x3 := Y5.out.2.1.cell 3
  have x4 := Y5.out.2.1.cell 4
  have x5 := Y5.out.2.1.cell 5
  have x6 := Y5.out.2.1.cell 6
  have y0 := Y5.out.2.2.cell 0
  have y1 := Y5.out.2.2.cell 1
  have y2 := Y5.out.2.2.cell 2
  have y3 := Y5.out.2.2.cell 3
  have y4 := Y5.out.2.2.cell 4
  have y5 := Y5.out.2.2.cell 5
  have y6 := Y5.out.2.2.cell 6
  rw [hg7] at y0 y1 y2 y3 y4 y5 y6
  go_wp2_with fail
  try rw [← hg7]
  rw [← hg7] at y0 y1 y2 y3 y4 y5 y6
  clear hg7
  obtain ⟨z4, v4, ev, r4, -, -, -⟩ := Reads.own Y5.out.1.2.2
  injection ev with ev1 ev2 ev3
  subst ev1 ev3
  clear ev2
  refine (eqDesk_same _ _ _ _ _ r4 Y5.out.1.2.1).mono ?_; rintro e w9 ⟨rfl, b9⟩
  have Z9 := Lib.hid (Y5.out.keep b9); clear b9 Y5 r4
  clear x0 y0 x1 y1 x2 y2 x3 y3 x4 y4 x5 y5 x6 y6
  have x0 := Z9.out.2.1.cell 0
  have x1 := Z9.out.2.1.cell 1
  have x2 := Z9.out.2.1.cell 2
  have x3 := Z9.out.2.1.cell 3
  have x4 := Z9.out.2.1.cell 4
  have x5 := Z9.out.2.1.cell 5
  have x6 := Z9.out.2.1.cell 6
  have y0 := Z9.out.2.2.cell 0
  have y1 := Z9.out.2.2.cell 1
  have y2 := Z9.out.2.2.cell 2
  have y3 := Z9.out.2.2.cell 3
  have y4 := Z9.out.2.2.cell 4
  have y5 := Z9.out.2.2.cell 5
  have y6 := Z9.out.2.2.cell 6
  go_wp2_with fail
  have bn9 := Below.ofNew (w := w9) (.cells #[.int .i64 170, .string ⟨#[]⟩, .int .i64 2, .slice none 0 0, .int .i64 3, .int .i64 3, .slice a4 4 c4] 36)
  have bm9 := Below.ofNew (w := w9.alloc (.cells #[.int .i64 170, .string ⟨#[]⟩, .int .i64 2, .slice none 0 0, .int .i64 3, .int .i64 3, .slice a4 4 c4] 36)) (.cells #[.int .i64 3, .int .i64 3, .slice a4 4 c4] 34)
  have wr9 := Writable.own Z9.out.1.2.2
  refine (markDesk_any _ _ _ wr9).mono ?_; rintro e w10 ⟨rfl, hw10⟩
  have Z10 : Hid (SkD w a2 c2 g4 c4 g7 a4 w10) := by
    have h9 := (Z9.out.keep bn9).keep bm9
    rw [hw10]
    refine ⟨⟨Below.writeAt h9.1.1 (fun b e => by have := HF4.out.1 b e; have := HF.out.1; have := HF.out.2.1; omega) _, h9.1.2.1.write_other (fun b e e2 => by have := HF4.out.1 b e2; have := HF.out.2.2 b e; have := HF.out.2.1; omega) _, Reads.written (by rw [ints_len, marks_len]; exact (wr9.keep bn9).keep bm9)⟩, h9.2.write (fun e => by have := HF4.out.1 _ e; have := HF.out.2.1; omega) (fun e => by have := HF4.out.1 _ e; omega) _⟩
  clear hw10 wr9 Z9 bn9 bm9
  clear x0 y0 x1 y1 x2 y2 x3 y3 x4 y4 x5 y5 x6 y6
  have x0 := Z10.out.2.1.cell 0
  have x1 := Z10.out.2.1.cell 1
  have x2 := Z10.out.2.1.cell 2
  have x3 := Z10.out.2.1.cell 3
  have x4 := Z10.out.2.1.cell 4
  have x5 := Z10.out.2.1.cell 5
  have x6 := Z10.out.2.1.cell 6
  have y0 := Z10.out.2.2.cell 0
  have y1 := Z10.out.2.2.cell 1
  have y2 := Z10.out.2.2.cell 2
  have y3 := Z10.out.2.2.cell 3
  have y4 := Z10.out.2.2.cell 4
  have y5 := Z10.out.2.2.cell 5
  have y6 := Z10.out.2.2.cell 6
  go_wp2_with fail
  refine (heldDesk_any _ _ _ Z10.out.1.2.2).mono ?_; rintro e w11 ⟨rfl, b11⟩
  have Z11 := Lib.hid (Z10.out.keep b11); clear b11 Z10
  clear x0 y0 x1 y1 x2 y2 x3 y3 x4 y4 x5 y5 x6 y6
  have x0 := Z11.out.2.1.cell 0
  have x1 := Z11.out.2.1.cell 1
  have x2 := Z11.out.2.1.cell 2
  have x3 := Z11.out.2.1.cell 3
  have x4 := Z11.out.2.1.cell 4
  have x5 := Z11.out.2.1.cell 5
  have x6 := Z11.out.2.1.cell 6
  have y0 := Z11.out.2.2.cell 0
  have y1 := Z11.out.2.2.cell 1
  have y2 := Z11.out.2.2.cell 2
  have y3 := Z11.out.2.2.cell 3
  have y4 := Z11.out.2.2.cell 4
  have y5 := Z11.out.2.2.cell 5
  have y6 := Z11.out.2.2.cell 6
  go_wp2_with fail
  refine (HI.out _ (HD.out.keep Z11.out.1.1)).mono ?_; rintro e w13 ⟨a13, c13, rfl, o13, b13⟩
  obtain ⟨z13, v13, ev, r13, -, -, -⟩ := Reads.own o13
  injection ev with ev1 ev2 ev3
  subst ev1 ev3
  clear ev2
  have bn13 := Below.ofNew (w := w13) (.cells #[.int .i64 170, .string ⟨#[]⟩, .int .i64 2, .slice none 0 0, .int .i64 3, .int .i64 3, .slice a13 4 c13] 36)
  have Z13 := Lib.hid (And.intro (r13.old bn13) ((Z11.out.keep b13).keep bn13))
  have hz13 := ((Z11.out.2.keep b13).1).lt
  clear r13 b13 o13 Z11 bn13
  clear x0 y0 x1 y1 x2 y2 x3 y3 x4 y4 x5 y5 x6 y6
  have x0 := Z13.out.2.2.1.cell 0
  have x1 := Z13.out.2.2.1.cell 1
  have x2 := Z13.out.2.2.1.cell 2
  have x3 := Z13.out.2.2.1.cell 3
  have x4 := Z13.out.2.2.1.cell 4
  have x5 := Z13.out.2.2.1.cell 5
  have x6 := Z13.out.2.2.1.cell 6
  have y0 := Z13.out.2.2.2.cell 0
  have y1 := Z13.out.2.2.2.cell 1
  have y2 := Z13.out.2.2.2.cell 2
  have y3 := Z13.out.2.2.2.cell 3
  have y4 := Z13.out.2.2.2.cell 4
  have y5 := Z13.out.2.2.2.cell 5
  have y6 := Z13.out.2.2.2.cell 6
  go_wp2_with fail
  refine (eqDesk_same _ _ _ _ _ Z13.out.1 Z13.out.2.1.2.1).mono ?_; rintro e w14 ⟨rfl, b14⟩
  have Z14 := Lib.hid (Z13.out.2.keep b14); clear b14 Z13
  clear x0 y0 x1 y1 x2 y2 x3 y3 x4 y4 x5 y5 x6 y6
  have x0 := Z14.out.2.1.cell 0
  have x1 := Z14.out.2.1.cell 1
  have x2 := Z14.out.2.1.cell 2
  have x3 := Z14.out.2.1.cell 3
  have x4 := Z14.out.2.1.cell 4
  have x5 := Z14.out.2.1.cell 5
  have x6 := Z14.out.2.1.cell 6
  have y0 := Z14.out.2.2.cell 0
  have y1 := Z14.out.2.2.cell 1
  have y2 := Z14.out.2.2.cell 2
  have y3 := Z14.out.2.2.cell 3
  have y4 := Z14.out.2.2.cell 4
  have y5 := Z14.out.2.2.cell 5
  have y6 := Z14.out.2.2.cell 6
  go_wp2_with fail
  refine (heldDesk_any _ _ _ Z14.out.1.2.2).mono ?_; rintro e w15 ⟨rfl, b15⟩
  have Z15 := Lib.hid (Z14.out.1.1.trans (b15.mono Z14.out.1.1.size)); clear b15 Z14
  go_wp2_with fail
  go_ret
  exact ⟨rfl, Z15.out⟩
end Go.Proofs.YtgkkjlpfkoplhaaDoor.ExFirstDesk
