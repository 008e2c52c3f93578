/- What the exact law of DoesFit does, step by step. -/
import Derived.Test.YtcigighklghjkaaDoorPzTold
namespace Go.Proofs.YtcigighklghjkaaDoor.ExDoesFit
open Go.RowKit
set_option linter.unusedVariables false
set_option linter.unusedSimpArgs false

set_option maxHeartbeats 1600000 in
theorem walk (x y z : Int) (s : ByteArray) (pe0 pe1 : Addr) (w : World) (hd : PzDoor w pe0 pe1) :
    Calls Tryd.prog 3 #[.agg #[.int .i64 x, .int .i64 y, .int .i64 z], .string s] w fun e w' => e = .returned (.bool true) ∧ Below w.heap.size w w' := by
  have A0 := Lib.hid (And.intro (ObAt.new w 23 #[.int .i64 x, .int .i64 y, .int .i64 z]) (Below.ofNew (w := w) (.cells #[.int .i64 x, .int .i64 y, .int .i64 z] 23)))
  obtain ⟨c0, c1, c2, -, -, -⟩ := A0.out.1.three
  by_cases hl : (1048576 : Int) < (s.size : Int)
  · go_enter Tryd.func3, Tryd.ntmps3
    go_wp2
    go_ret
    exact ⟨rfl, A0.out.2⟩
  · have HS := Lib.hid (fun W => specDoesFit_any x y z s W (by omega))
    have HI := Lib.hid (fun W (hW : PzDoor W pe0 pe1) => implDoesFit_any x y z s pe0 pe1 W (by omega) hW)
    have HD := Lib.hid hd; clear hd
    generalize doesV (x, y, z) s = V at *
    generalize doesOk (x, y, z) s = O at *
    have q0 : (V != V) = false := by simp
    have q1 : (O != O) = false := by simp
    go_enter Tryd.func3, Tryd.ntmps3
    go_wp2_with fail
    refine (toClue_any x y z _).mono ?_; rintro e w1 ⟨rfl, b1⟩
    have A1 := Lib.hid (And.intro (A0.out.1.keep b1) (A0.out.2.trans (b1.mono A0.out.2.size))); clear b1 A0 c0 c1 c2
    obtain ⟨c0, c1, c2, -, -, -⟩ := A1.out.1.three
    go_wp2_with fail
    refine (HS.out _).mono ?_; rintro e w2 ⟨rfl, b2⟩
    have A2 := Lib.hid (And.intro (A1.out.1.keep b2) (A1.out.2.trans (b2.mono A1.out.2.size))); clear b2 A1 c0 c1 c2
    obtain ⟨c0, c1, c2, -, -, -⟩ := A2.out.1.three
    go_wp2_with fail
    refine (toClue_any x y z _).mono ?_; rintro e w3 ⟨rfl, b3⟩
    have A3 := Lib.hid (A2.out.2.trans (b3.mono A2.out.2.size)); clear b3 A2 c0 c1 c2
    go_wp2_with fail
    refine (HI.out _ (HD.out.keep A3.out)).mono ?_; rintro e w4 ⟨rfl, b4⟩
    have A4 := Lib.hid (A3.out.trans (b4.mono A3.out.size)); clear b4 A3
    go_wp2_with fail
    go_ret
    exact ⟨rfl, A4.out⟩
end Go.Proofs.YtcigighklghjkaaDoor.ExDoesFit
