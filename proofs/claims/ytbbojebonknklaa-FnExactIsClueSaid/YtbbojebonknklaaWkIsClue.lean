/- What the exact law of IsClue does, step by step. -/
import Derived.Test.YtbbojebonknklaaPzGood
namespace Go.Proofs.Ytbbojebonknklaa.ExIsClue
open Go.RowKit
set_option linter.unusedVariables false
set_option linter.unusedSimpArgs false

set_option maxHeartbeats 1600000 in
theorem walk (p x y z : Int) (w : World) :
    Calls Try.prog 3 #[.int .i64 p, .agg #[.int .i64 x, .int .i64 y, .int .i64 z]] w fun e w' => e = .returned (.bool true) ∧ Below w.heap.size w w' := by
  have HS := Lib.hid (fun W => specIsClue_any p x y z W)
  have HI := Lib.hid (fun W => implIsClue_any p x y z W)
  generalize (inP p 1 8 && goodC p (x, y, z)) = V at *
  have q0 : (V != V) = false := by simp
  have A0 := Lib.hid (And.intro (ObAt.new w 23 #[.int .i64 x, .int .i64 y, .int .i64 z]) (Below.ofNew (w := w) (.cells #[.int .i64 x, .int .i64 y, .int .i64 z] 23)))
  obtain ⟨c0, c1, c2, -, -, -⟩ := A0.out.1.three
  go_enter Try.func3, Try.ntmps3
  go_wp2_with fail
  refine (toClue_any x y z _).mono ?_; rintro e w1 ⟨rfl, b1⟩
  have A1 := Lib.hid (And.intro (A0.out.1.keep b1) (A0.out.2.trans (b1.mono A0.out.2.size))); clear b1 A0 c0 c1 c2
  obtain ⟨c0, c1, c2, -, -, -⟩ := A1.out.1.three
  go_wp2_with fail
  refine (HS.out _).mono ?_; rintro e w2 ⟨rfl, b2⟩
  have A2 := Lib.hid (And.intro (A1.out.1.keep b2) (A1.out.2.trans (b2.mono A1.out.2.size))); clear b2 A1 c0 c1 c2
  obtain ⟨c0, c1, c2, -, -, -⟩ := A2.out.1.three
  go_wp2_with fail
  refine (toClue_any x y z _).mono ?_; rintro e w3 ⟨rfl, b3⟩
  have A3 := Lib.hid (A2.out.2.trans (b3.mono A2.out.2.size)); clear b3 A2 c0 c1 c2
  go_wp2_with fail
  refine (HI.out _).mono ?_; rintro e w4 ⟨rfl, b4⟩
  have A4 := Lib.hid (A3.out.trans (b4.mono A3.out.size)); clear b4 A3
  go_wp2_with fail
  go_ret
  exact ⟨rfl, A4.out⟩
end Go.Proofs.Ytbbojebonknklaa.ExIsClue
