/-
  Closed facts on the whole program, over its own words as signs: what every row of this seat asks of it.
-/
import Derived.Test.YthbkclgdoopbpaaInit
namespace Go.Proofs.Ythbkclgdoopbpaa
open Go

theorem strip_cut (r : List (List Char)) : stripLifts liftWords ("cut".toList :: r) = ([], "cut".toList :: r) := by kernel_rfl
theorem make_cut (P : Program) {ws r : List (List Char)} (h : wordsSigns P.initOrder.toList = ws) (hb : behindMainWord ws = "cut".toList :: r) : P.make = some .cut := by
  unfold Program.make
  rw [h, hb]
  kernel_rfl
theorem lifts_cut (P : Program) {ws r : List (List Char)} (h : wordsSigns P.initOrder.toList = ws) (hb : behindMainWord ws = "cut".toList :: r) : P.liftsFinal = false := by
  unfold Program.liftsFinal Program.headLifts
  rw [h, hb]
  dsimp only
  rw [strip_cut]
  kernel_rfl
theorem may_cut (P : Program) {ws r : List (List Char)} (h : wordsSigns P.initOrder.toList = ws) (hb : behindMainWord ws = "cut".toList :: r) (hl : P.laysLater = false) (hr : P.bearsReflect = false) (hd : P.doorFits [] = true) : P.mayEnter = true := by
  unfold Program.mayEnter
  rw [h, hb]
  dsimp only
  rw [strip_cut, hl, hr, hd]
  kernel_rfl

def restWs : List (List Char) := (initWs.map signsOf).drop 3
theorem behind : behindMainWord (initWs.map signsOf) = "cut".toList :: restWs := by kernel_rfl
set_option maxRecDepth 100000 in
theorem laysC : Try.prog.laysLater = false := by kernel_rfl
set_option maxRecDepth 100000 in
theorem reflC : Try.prog.bearsReflect = false := by kernel_rfl
set_option maxRecDepth 100000 in
theorem doorC : Try.prog.doorFits [] = true := by kernel_rfl

theorem mayEnterC : Try.prog.mayEnter = true := may_cut _ init_words behind laysC reflC doorC
theorem liftsC : Try.prog.liftsFinal = Rows.fnExactCountGamesOfRow.lifted := lifts_cut _ init_words behind
theorem makeC : Try.prog.make = some Rows.fnExactCountGamesOfRow.make := make_cut _ init_words behind
end Go.Proofs.Ythbkclgdoopbpaa
