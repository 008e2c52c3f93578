/-
  Darts: the program's least numbers, as one array under a name.
-/
import Derived.Test.YtaplkciomagmiaaDnFew
namespace Go.Proofs.Ytaplkciomagmiaa
open Go.RowKit
set_option linter.unusedVariables false
set_option linter.unusedSimpArgs false

/-- All of them, as a value: never opened. -/
def fewA0 : { a : Array Value // a = (ints (fewT 1002)).toArray } := ⟨_, rfl⟩
def fewA : Array Value := fewA0.1
theorem fewA_is : fewA = (ints (fewT 1002)).toArray := fewA0.2
theorem fewest_all (w : World) : Calls Try.prog 48 #[] w fun e w' => e = .returned (.agg fewA) ∧ Below w.heap.size w w' := by
  rw [fewA_is]; exact fewest_any w
theorem fewA_get (n : Nat) (h : n ≤ 1001) : fewA[n]? = some (.int .i64 (fewN n)) := by
  rw [fewA_is, List.getElem?_toArray, ints_get _ _ (by rw [fewT_len]; omega), fewT_at 1002 n (by omega)]
theorem fewA_size : fewA.size = 1002 := by rw [fewA_is, List.size_toArray, ints_len, fewT_len]
theorem underInt : Try.prog.underlying 3 = some (.int .i64) := by kernel_rfl
theorem index_few (n : Nat) (h : n ≤ 1001) (w : World) : (Instr.index 47 (.agg fewA) (.int .i64 (n : Int))).run Try.prog w = .ok (.int .i64 (fewN n)) w := by
  obtain ⟨i0, hi, hz0, hz1, hz2⟩ := info_parts infoInt
  exact run_index_cell Try.underlying47 underInt rfl hi hz1 fewA n _ (by omega) (by omega) (by rw [Int.toNat_natCast]; exact fewA_get n h) w
end Go.Proofs.Ytaplkciomagmiaa
