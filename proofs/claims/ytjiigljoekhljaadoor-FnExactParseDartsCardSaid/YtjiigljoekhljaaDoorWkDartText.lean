/- What the exact law of DartText does, step by step. -/
import Derived.Test.YtjiigljoekhljaaDoorDaText
import Derived.Deep.QuietTactic
namespace Go.Proofs.YtjiigljoekhljaaDoor.ExDartText
open Go.RowKit
set_option linter.unusedVariables false

set_option maxHeartbeats 800000 in
theorem impl_bad (n t : Int) (hg : goodB n t = false) (w : World) :
    Calls Tryd.prog 87 #[.agg #[.int .i64 n, .int .i64 t]] w fun e w' => e = .returned (.tuple #[.string ⟨#[]⟩, .bool false]) ∧ Below w.heap.size w w' := by
  have H := Lib.hid hg; clear hg
  go_enter Tryd.func87, Tryd.ntmps87
  go_wp2_with fail
  refine (isDart_any _ _ _).mono ?_; rintro e w1 ⟨rfl, b1⟩
  rw [H.out]
  go_wp2_with fail
  refine bodyPost_ret (v := .tuple #[.string ⟨#[]⟩, .bool false]) (by simp [results, Tryd.results87, go_sem]) rfl ⟨rfl, ?_⟩
  (repeat (first | exact Below.refl _ _ | exact ‹Below _ _ _› | refine Below.drew ?_ | refine Below.alloc ?_ (by first | omega | (simp; done) | (simp; omega)) _ | refine Below.setCell ?_ (by first | omega | (simp; done) | (simp; omega)) _ | refine Below.trans ?_ (Below.mono ‹Below _ _ _› (by first | omega | (simp; done) | (simp; omega)))))

set_option maxHeartbeats 1600000 in
theorem impl_good (n : Nat) (hn : n < 100) (t : Int) (ht : t = 1 ∨ t = 2 ∨ t = 3) (hg : goodB n t = true) (w : World) :
    Calls Tryd.prog 87 #[.agg #[.int .i64 n, .int .i64 t]] w fun e w' => e = .returned (.tuple #[.string ⟨(textD n t).toArray⟩, .bool true]) ∧ Below w.heap.size w w' := by
  have H := Lib.hid hg; clear hg
  have ih : ∀ w : World, Calls Tryd.prog 57 #[.int .i64 n] w fun e w' => e = .returned (.string ⟨(numF 1 n).toArray⟩) ∧ w' = w := fun w => by
    rw [← num_dec n hn]; exact Tryd.strconv_Itoa_small n hn w
  have IH := Lib.hid ih; clear ih
  have hlen := (numF_len 1 n).2
  rcases ht with rfl | rfl | rfl
  · rw [show textD n 1 = numF 1 n from by simp [textD, preD]]
    clear hlen
    generalize numF 1 n = A at *
    go_enter Tryd.func87, Tryd.ntmps87
    go_wp2_with fail
    refine (isDart_any _ _ _).mono ?_; rintro e w1 ⟨rfl, b1⟩
    rw [H.out]
    obtain ⟨c1, f1⟩ := bcell b1; have z1 : w.heap.size < w1.heap.size := (by have := b1.size; (try simp at this); omega)
    go_wp2_with fail
    refine (IH.out _).mono ?_; rintro e w2 ⟨rfl, hw⟩; subst hw
    go_wp2
    refine bodyPost_ret (v := .tuple #[.string ⟨A.toArray⟩, .bool true]) (by simp [results, Tryd.results87, go_sem]) rfl ⟨rfl, ?_⟩
    (repeat (first | exact Below.refl _ _ | exact ‹Below _ _ _› | refine Below.drew ?_ | refine Below.alloc ?_ (by first | omega | (simp; done) | (simp; omega)) _ | refine Below.setCell ?_ (by first | omega | (simp; done) | (simp; omega)) _ | refine Below.trans ?_ (Below.mono ‹Below _ _ _› (by first | omega | (simp; done) | (simp; omega)))))
  · have hadd : ∀ W : World, (Op.stringOp .add ⟨#[100]⟩ ⟨(numF 1 n).toArray⟩).run Tryd.prog W = .ok (.string ⟨([100] ++ numF 1 n).toArray⟩) W := fun W => run_string_add_lists W [100] (numF 1 n) (by simp) (by omega)
    rw [show textD n 2 = [100] ++ numF 1 n from by simp [textD, preD]]
    clear hlen
    generalize ([100] ++ numF 1 n) = T at *
    generalize numF 1 n = A at *
    go_enter Tryd.func87, Tryd.ntmps87
    go_wp2_with fail
    refine (isDart_any _ _ _).mono ?_; rintro e w1 ⟨rfl, b1⟩
    rw [H.out]
    obtain ⟨c1, f1⟩ := bcell b1; have z1 : w.heap.size < w1.heap.size := (by have := b1.size; (try simp at this); omega)
    go_wp2_with fail
    refine (IH.out _).mono ?_; rintro e w2 ⟨rfl, hw⟩; subst hw
    go_wp2
    refine bodyPost_ret (v := .tuple #[.string ⟨T.toArray⟩, .bool true]) (by simp [results, Tryd.results87, go_sem]) rfl ⟨rfl, ?_⟩
    (repeat (first | exact Below.refl _ _ | exact ‹Below _ _ _› | refine Below.drew ?_ | refine Below.alloc ?_ (by first | omega | (simp; done) | (simp; omega)) _ | refine Below.setCell ?_ (by first | omega | (simp; done) | (simp; omega)) _ | refine Below.trans ?_ (Below.mono ‹Below _ _ _› (by first | omega | (simp; done) | (simp; omega)))))
  · have hadd : ∀ W : World, (Op.stringOp .add ⟨#[116]⟩ ⟨(numF 1 n).toArray⟩).run Tryd.prog W = .ok (.string ⟨([116] ++ numF 1 n).toArray⟩) W := fun W => run_string_add_lists W [116] (numF 1 n) (by simp) (by omega)
    rw [show textD n 3 = [116] ++ numF 1 n from by simp [textD, preD]]
    clear hlen
    generalize ([116] ++ numF 1 n) = T at *
    generalize numF 1 n = A at *
    go_enter Tryd.func87, Tryd.ntmps87
    go_wp2_with fail
    refine (isDart_any _ _ _).mono ?_; rintro e w1 ⟨rfl, b1⟩
    rw [H.out]
    obtain ⟨c1, f1⟩ := bcell b1; have z1 : w.heap.size < w1.heap.size := (by have := b1.size; (try simp at this); omega)
    go_wp2_with fail
    refine (IH.out _).mono ?_; rintro e w2 ⟨rfl, hw⟩; subst hw
    go_wp2
    refine bodyPost_ret (v := .tuple #[.string ⟨T.toArray⟩, .bool true]) (by simp [results, Tryd.results87, go_sem]) rfl ⟨rfl, ?_⟩
    (repeat (first | exact Below.refl _ _ | exact ‹Below _ _ _› | refine Below.drew ?_ | refine Below.alloc ?_ (by first | omega | (simp; done) | (simp; omega)) _ | refine Below.setCell ?_ (by first | omega | (simp; done) | (simp; omega)) _ | refine Below.trans ?_ (Below.mono ‹Below _ _ _› (by first | omega | (simp; done) | (simp; omega)))))

end Go.Proofs.YtjiigljoekhljaaDoor.ExDartText
