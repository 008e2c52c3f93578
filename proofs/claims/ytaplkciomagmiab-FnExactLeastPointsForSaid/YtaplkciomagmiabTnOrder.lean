/-
  Tennis: the model's look at an order of games.
-/
import Derived.Test.YtaplkciomagmiabTnSide
namespace Go.Proofs.Ytaplkciomagmiab
open Go.RowKit

theorem ord_list (s : ByteArray) : ordI 0 0 s.data.toList = (decide (s.data.toList.length ≤ 13) && abL s.data.toList && ordS 0 0 s.data.toList) := by
  rw [ord_eq _ 0 0 near_00]; congr 2; exact decide_eq_decide.2 (by omega)

end Go.Proofs.Ytaplkciomagmiab
