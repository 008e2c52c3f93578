/- What the exact law of DartText does, step by step. -/
import Derived.Test.YtbcihnecbplefaaDoorDaText
import Derived.Deep.QuietTactic
namespace Go.Proofs.YtbcihnecbplefaaDoor.ExDartText
open Go.RowKit
set_option linter.unusedVariables false

set_option maxHeartbeats 800000 in
theorem law_of (n : Int) (t : Int) (t0 : ByteArray) (o1 : Bool) (hs : (∀ w : World, Calls Tryd.prog 7 #[.agg #[.int .i64 n, .int .i64 t]] w fun e w' => e = .returned (.tuple #[.string t0, .bool o1]) ∧ Below w.heap.size w w')) (hi : (∀ w : World, Calls Tryd.prog 9 #[.agg #[.int .i64 n, .int .i64 t]] w fun e w' => e = .returned (.tuple #[.string t0, .bool o1]) ∧ Below w.heap.size w w')) (w : World) :
    Calls Tryd.prog 3 #[.agg #[.int .i64 n, .int .i64 t]] w fun e w' => e = .returned (.bool true) ∧ Below w.heap.size w w' := by
  have HS := Lib.hid hs; clear hs
  have HI := Lib.hid hi; clear hi
  have q1 : (o1 != o1) = false := by simp
  go_enter Tryd.func3, Tryd.ntmps3
  go_wp2_with fail
  refine (toDart_any n t _).mono ?_; rintro e w1 ⟨rfl, b1⟩
  obtain ⟨c1, f1⟩ := bcell b1; have z1 : w.heap.size < w1.heap.size := (by have := b1.size; (try simp at this); omega)
  go_wp2_with fail
  refine (HS.out _).mono ?_; rintro e w2 ⟨rfl, b2⟩
  obtain ⟨c2, f2⟩ := bcell b2; have z2 : w.heap.size < w2.heap.size := (by have := b2.size; (try simp at this); omega)
  go_wp2_with fail
  refine (toDart_any n t _).mono ?_; rintro e w3 ⟨rfl, b3⟩
  obtain ⟨c3, f3⟩ := bcell b3; have z3 : w.heap.size < w3.heap.size := (by have := b3.size; (try simp at this); omega)
  go_wp2_with fail
  refine (HI.out _).mono ?_; rintro e w4 ⟨rfl, b4⟩
  obtain ⟨c4, f4⟩ := bcell b4; have z4 : w.heap.size < w4.heap.size := (by have := b4.size; (try simp at this); omega)
  go_wp2_with fail
  go_ret
  refine ⟨rfl, ?_⟩
  have sz_b1 := b1.size; (try simp at sz_b1); have sz_b2 := b2.size; (try simp at sz_b2); have sz_b3 := b3.size; (try simp at sz_b3); have sz_b4 := b4.size; (try simp at sz_b4)
  (repeat (first | exact Below.refl _ _ | exact ‹Below _ _ _› | refine Below.drew ?_ | refine Below.alloc ?_ (by first | omega | (simp; done) | (simp; omega)) _ | refine Below.setCell ?_ (by first | omega | (simp; done) | (simp; omega)) _ | refine Below.trans ?_ (Below.mono ‹Below _ _ _› (by first | omega | (simp; done) | (simp; omega)))))

set_option maxHeartbeats 800000 in
theorem spec_bad (n t : Int) (hg : goodB n t = false) (w : World) :
    Calls Tryd.prog 7 #[.agg #[.int .i64 n, .int .i64 t]] w fun e w' => e = .returned (.tuple #[.string ⟨#[]⟩, .bool false]) ∧ Below w.heap.size w w' := by
  have H := Lib.hid hg; clear hg
  go_enter Tryd.func7, Tryd.ntmps7
  go_wp2_with fail
  refine (daGood_any _ _ _).mono ?_; rintro e w1 ⟨rfl, b1⟩
  rw [H.out]
  go_wp2_with fail
  refine bodyPost_ret (v := .tuple #[.string ⟨#[]⟩, .bool false]) (by simp [results, Tryd.results7, go_sem]) rfl ⟨rfl, ?_⟩
  (repeat (first | exact Below.refl _ _ | exact ‹Below _ _ _› | refine Below.drew ?_ | refine Below.alloc ?_ (by first | omega | (simp; done) | (simp; omega)) _ | refine Below.setCell ?_ (by first | omega | (simp; done) | (simp; omega)) _ | refine Below.trans ?_ (Below.mono ‹Below _ _ _› (by first | omega | (simp; done) | (simp; omega)))))

set_option maxHeartbeats 800000 in
theorem spec_good (n : Nat) (hn : n < 100) (t : Int) (ht : t = 1 ∨ t = 2 ∨ t = 3) (hg : goodB n t = true) (w : World) :
    Calls Tryd.prog 7 #[.agg #[.int .i64 n, .int .i64 t]] w fun e w' => e = .returned (.tuple #[.string ⟨(textD n t).toArray⟩, .bool true]) ∧ Below w.heap.size w w' := by
  have H := Lib.hid hg; clear hg
  have HT := Lib.hid (daText_any n hn t ht)
  generalize textD n t = T at *
  clear ht
  go_enter Tryd.func7, Tryd.ntmps7
  go_wp2_with fail
  refine (daGood_any _ _ _).mono ?_; rintro e w1 ⟨rfl, b1⟩
  rw [H.out]
  obtain ⟨c1, f1⟩ := bcell b1; have z1 : w.heap.size < w1.heap.size := (by have := b1.size; (try simp at this); omega)
  go_wp2_with fail
  refine (HT.out _).mono ?_; rintro e w2 ⟨rfl, b2⟩
  go_wp2_with fail
  refine bodyPost_ret (v := .tuple #[.string ⟨T.toArray⟩, .bool true]) (by simp [results, Tryd.results7, go_sem]) rfl ⟨rfl, ?_⟩
  have sz_b1 := b1.size; (try simp at sz_b1); have sz_b2 := b2.size; (try simp at sz_b2)
  (repeat (first | exact Below.refl _ _ | exact ‹Below _ _ _› | refine Below.drew ?_ | refine Below.alloc ?_ (by first | omega | (simp; done) | (simp; omega)) _ | refine Below.setCell ?_ (by first | omega | (simp; done) | (simp; omega)) _ | refine Below.trans ?_ (Below.mono ‹Below _ _ _› (by first | omega | (simp; done) | (simp; omega)))))

set_option maxHeartbeats 800000 in
theorem impl_bad (n t : Int) (hg : goodB n t = false) (w : World) :
    Calls Tryd.prog 9 #[.agg #[.int .i64 n, .int .i64 t]] w fun e w' => e = .returned (.tuple #[.string ⟨#[]⟩, .bool false]) ∧ Below w.heap.size w w' := by
  have H := Lib.hid hg; clear hg
  go_enter Tryd.func9, Tryd.ntmps9
  go_wp2_with fail
  refine (isDart_any _ _ _).mono ?_; rintro e w1 ⟨rfl, b1⟩
  rw [H.out]
  go_wp2_with fail
  refine bodyPost_ret (v := .tuple #[.string ⟨#[]⟩, .bool false]) (by simp [results, Tryd.results9, go_sem]) rfl ⟨rfl, ?_⟩
  (repeat (first | exact Below.refl _ _ | exact ‹Below _ _ _› | refine Below.drew ?_ | refine Below.alloc ?_ (by first | omega | (simp; done) | (simp; omega)) _ | refine Below.setCell ?_ (by first | omega | (simp; done) | (simp; omega)) _ | refine Below.trans ?_ (Below.mono ‹Below _ _ _› (by first | omega | (simp; done) | (simp; omega)))))

set_option maxHeartbeats 1600000 in
theorem impl_good (n : Nat) (hn : n < 100) (t : Int) (ht : t = 1 ∨ t = 2 ∨ t = 3) (hg : goodB n t = true) (w : World) :
    Calls Tryd.prog 9 #[.agg #[.int .i64 n, .int .i64 t]] w fun e w' => e = .returned (.tuple #[.string ⟨(textD n t).toArray⟩, .bool true]) ∧ Below w.heap.size w w' := by
  have H := Lib.hid hg; clear hg
  have ih : ∀ w : World, Calls Tryd.prog 25 #[.int .i64 n] w fun e w' => e = .returned (.string ⟨(numF 1 n).toArray⟩) ∧ w' = w := fun w => by
    rw [← num_dec n hn]; exact Tryd.strconv_Itoa_small n hn w
  have IH := Lib.hid ih; clear ih
  have hlen := (numF_len 1 n).2
  rcases ht with rfl | rfl | rfl
  · rw [show textD n 1 = numF 1 n from by simp [textD, preD]]
    clear hlen
    generalize numF 1 n = A at *
    go_enter Tryd.func9, Tryd.ntmps9
    go_wp2_with fail
    refine (isDart_any _ _ _).mono ?_; rintro e w1 ⟨rfl, b1⟩
    rw [H.out]
    obtain ⟨c1, f1⟩ := bcell b1; have z1 : w.heap.size < w1.heap.size := (by have := b1.size; (try simp at this); omega)
    go_wp2_with fail
    refine (IH.out _).mono ?_; rintro e w2 ⟨rfl, hw⟩; subst hw
    go_wp2
    refine bodyPost_ret (v := .tuple #[.string ⟨A.toArray⟩, .bool true]) (by simp [results, Tryd.results9, go_sem]) rfl ⟨rfl, ?_⟩
    (repeat (first | exact Below.refl _ _ | exact ‹Below _ _ _› | refine Below.drew ?_ | refine Below.alloc ?_ (by first | omega | (simp; done) | (simp; omega)) _ | refine Below.setCell ?_ (by first | omega | (simp; done) | (simp; omega)) _ | refine Below.trans ?_ (Below.mono ‹Below _ _ _› (by first | omega | (simp; done) | (simp; omega)))))
  · have hadd : ∀ W : World, (Op.stringOp .add ⟨#[100]⟩ ⟨(numF 1 n).toArray⟩).run Tryd.prog W = .ok (.string ⟨([100] ++ numF 1 n).toArray⟩) W := fun W => run_string_add_lists W [100] (numF 1 n) (by simp) (by omega)
    rw [show textD n 2 = [100] ++ numF 1 n from by simp [textD, preD]]
    clear hlen
    generalize ([100] ++ numF 1 n) = T at *
    generalize numF 1 n = A at *
    go_enter Tryd.func9, Tryd.ntmps9
    go_wp2_with fail
    refine (isDart_any _ _ _).mono ?_; rintro e w1 ⟨rfl, b1⟩
    rw [H.out]
    obtain ⟨c1, f1⟩ := bcell b1; have z1 : w.heap.size < w1.heap.size := (by have := b1.size; (try simp at this); omega)
    go_wp2_with fail
    refine (IH.out _).mono ?_; rintro e w2 ⟨rfl, hw⟩; subst hw
    go_wp2
    refine bodyPost_ret (v := .tuple #[.string ⟨T.toArray⟩, .bool true]) (by simp [results, Tryd.results9, go_sem]) rfl ⟨rfl, ?_⟩
    (repeat (first | exact Below.refl _ _ | exact ‹Below _ _ _› | refine Below.drew ?_ | refine Below.alloc ?_ (by first | omega | (simp; done) | (simp; omega)) _ | refine Below.setCell ?_ (by first | omega | (simp; done) | (simp; omega)) _ | refine Below.trans ?_ (Below.mono ‹Below _ _ _› (by first | omega | (simp; done) | (simp; omega)))))
  · have hadd : ∀ W : World, (Op.stringOp .add ⟨#[116]⟩ ⟨(numF 1 n).toArray⟩).run Tryd.prog W = .ok (.string ⟨([116] ++ numF 1 n).toArray⟩) W := fun W => run_string_add_lists W [116] (numF 1 n) (by simp) (by omega)
    rw [show textD n 3 = [116] ++ numF 1 n from by simp [textD, preD]]
    clear hlen
    generalize ([116] ++ numF 1 n) = T at *
    generalize numF 1 n = A at *
    go_enter Tryd.func9, Tryd.ntmps9
    go_wp2_with fail
    refine (isDart_any _ _ _).mono ?_; rintro e w1 ⟨rfl, b1⟩
    rw [H.out]
    obtain ⟨c1, f1⟩ := bcell b1; have z1 : w.heap.size < w1.heap.size := (by have := b1.size; (try simp at this); omega)
    go_wp2_with fail
    refine (IH.out _).mono ?_; rintro e w2 ⟨rfl, hw⟩; subst hw
    go_wp2
    refine bodyPost_ret (v := .tuple #[.string ⟨T.toArray⟩, .bool true]) (by simp [results, Tryd.results9, go_sem]) rfl ⟨rfl, ?_⟩
    (repeat (first | exact Below.refl _ _ | exact ‹Below _ _ _› | refine Below.drew ?_ | refine Below.alloc ?_ (by first | omega | (simp; done) | (simp; omega)) _ | refine Below.setCell ?_ (by first | omega | (simp; done) | (simp; omega)) _ | refine Below.trans ?_ (Below.mono ‹Below _ _ _› (by first | omega | (simp; done) | (simp; omega)))))

theorem walk (n t : Int) (w : World) :
    Calls Tryd.prog 3 #[.agg #[.int .i64 n, .int .i64 t]] w fun e w' => e = .returned (.bool true) ∧ Below w.heap.size w w' := by
  cases hg : goodB n t
  · exact law_of n t _ _ (spec_bad n t hg) (impl_bad n t hg) w
  · obtain ⟨m, rfl, hm, ht⟩ := good_dart hg
    exact law_of _ _ _ _ (spec_good m hm t ht hg) (impl_good m hm t ht hg) w
end Go.Proofs.YtbcihnecbplefaaDoor.ExDartText
