/-
  Tennis: how a tie break stands: the model's text.
-/
import Derived.Test.YtgkkjlpfkoplhaaGreatDoorText
namespace Go.Proofs.YtgkkjlpfkoplhaaGreatDoor
open Go.RowKit
set_option linter.unusedVariables false
set_option linter.unusedSimpArgs false

/-- Numbers below a million as texts, and how a tie break stands. -/
def num6 (n : Nat) : List UInt8 := numF 5 n
theorem num6_len (n : Nat) : (num6 n).length ≤ 6 := (numF_len 5 n).2
def tieL (x y : Nat) (ended : Bool) : List UInt8 := num6 x ++ [58] ++ num6 y ++ (if ended then [33] else [])

set_option maxHeartbeats 1600000 in
theorem tnTieStands_any (x y : Nat) (ended : Bool) (w : World) (hx : x < 1000000) (hy : y < 1000000) :
    Calls Tryz.prog 57 #[.int .i64 x, .int .i64 y, .bool ended] w fun e w' => e = .returned (.string ⟨(tieL x y ended).toArray⟩) ∧ Below w.heap.size w w' := by
  have h1 := fun w => l1Num_any 5 x w (by omega) (by omega)
  have h2 := fun w => l1Num_any 5 y w (by omega) (by omega)
  have l1 := num6_len x
  have l2 := num6_len y
  have ht : tieL x y ended = num6 x ++ [58] ++ num6 y ++ (if ended then [33] else []) := rfl
  unfold numV at h1 h2
  change ∀ w, Calls _ _ _ w fun e w' => e = .returned (.string ⟨(num6 x).toArray⟩) ∧ Below w.heap.size w w' at h1
  change ∀ w, Calls _ _ _ w fun e w' => e = .returned (.string ⟨(num6 y).toArray⟩) ∧ Below w.heap.size w w' at h2
  have H := Lib.hid (And.intro ht (And.intro h1 h2)); clear ht h1 h2
  generalize num6 x = n1 at *
  generalize num6 y = n2 at *
  have d1 : ∀ W : World, (Op.stringOp .add ⟨n1.toArray⟩ ⟨#[58]⟩).run Tryz.prog W = .ok (.string ⟨(n1 ++ [58]).toArray⟩) W := fun W => run_string_add_lists W n1 [58] (by omega) (by simp)
  have d2 : ∀ W : World, (Op.stringOp .add ⟨(n1 ++ [58]).toArray⟩ ⟨n2.toArray⟩).run Tryz.prog W = .ok (.string ⟨(n1 ++ [58] ++ n2).toArray⟩) W := fun W => run_string_add_lists W (n1 ++ [58]) n2 (by simp; omega) (by omega)
  have d3 : ∀ W : World, (Op.stringOp .add ⟨(n1 ++ [58] ++ n2).toArray⟩ ⟨#[33]⟩).run Tryz.prog W = .ok (.string ⟨(n1 ++ [58] ++ n2 ++ [33]).toArray⟩) W := fun W => run_string_add_lists W (n1 ++ [58] ++ n2) [33] (by simp; omega) (by simp)
  clear l1 l2 hx hy
  generalize n1 ++ [58] = n3 at *
  generalize n3 ++ n2 = n4 at *
  generalize h5 : n4 ++ [33] = n5 at *
  have H5 := Lib.hid h5; clear h5
  cases ended
  all_goals
    have hr := H.out.1
    simp only [if_true, if_false, Bool.false_eq_true, List.append_nil] at hr
    have HR := Lib.hid hr; clear hr
    go_enter Tryz.func57, Tryz.ntmps57
    go_wp2_with fail
    refine (H.out.2.1 _).mono ?_; rintro e w1 ⟨rfl, b1⟩
    go_wp2_with fail
    refine (H.out.2.2 _).mono ?_; rintro e w2 ⟨rfl, b2⟩
    go_wp2_with fail
    go_ret
    exact ⟨by rw [HR.out]; first | rfl | (rw [H5.out]; rfl), b1.trans (b2.mono b1.size)⟩

end Go.Proofs.YtgkkjlpfkoplhaaGreatDoor
