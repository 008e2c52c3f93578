/- LeftAfter: the model and the program, and the law over them. -/
import Derived.Test.YtaplkciomagmiaaPlThrow
import Derived.Test.YtaplkciomagmiaaPlOpen0
namespace Go.Proofs.Ytaplkciomagmiaa.ExLeftAfter
open Go.RowKit

def leftV : Option (Int × Bool) → Value
  | some (n, _) => .tuple #[.int .i64 n, .bool true]
  | none => .tuple #[.int .i64 0, .bool false]

def leftB : Option (Int × Bool) → Int | some (n, _) => n | none => 0
def okB : Option (Int × Bool) → Bool | some _ => true | none => false
theorem leftV_eq (t : Option (Int × Bool)) : leftV t = .tuple #[.int .i64 (leftB t), .bool (okB t)] := by
  match t with
  | none => rfl
  | some (_, _) => rfl

set_option maxHeartbeats 1600000 in
theorem impl_any (l : List (Int × Int)) (left : Int) (a : Option Addr) (c : Nat) (w : World) (hl : (l.length : Int) ≤ 1000000000000) (h : Reads w a (darts l)) :
    Calls Try.prog 62 #[.int .i64 left, .slice a l.length c] w fun e w' => e = .returned (leftV (visitRes left l)) ∧ Below w.heap.size w w' := by
  have HR := Lib.hid h; clear h
  go_enter Try.func62, Try.ntmps62
  go_wp2_with fail
  refine (throw_any l left _ _ _ hl HR.out).mono ?_; rintro e w1 ⟨rfl, bd⟩
  generalize ht : visitRes left l = t
  match t, ht with
  | none, ht =>
    have HT := Lib.hid ht; clear ht
    unfold throwR
    go_wp2_with fail
    refine bodyPost_ret (v := leftV none) (by simp [results, Try.results62, go_sem, leftV]) rfl ⟨by rw [HT.out], bd⟩
  | some (n, b), ht =>
    have HT := Lib.hid ht; clear ht
    unfold throwR
    go_wp2_with fail
    refine bodyPost_ret (v := leftV (some (n, b))) (by simp [results, Try.results62, go_sem, leftV]) rfl ⟨by rw [HT.out], bd⟩

end Go.Proofs.Ytaplkciomagmiaa.ExLeftAfter
