/-
  Frames: the program's balls that may be potted, the frame behind one; the model's.
-/
import Derived.Test.YtaplkciomagmiabDoorFrSpec
import Derived.Test.YtaplkciomagmiabDoorText
import Derived.Test.YtaplkciomagmiabDoorShelf
import Derived.Laws.StructEq
namespace Go.Proofs.YtaplkciomagmiabDoor
open Go.RowKit

theorem frV_0 : frV 0 = frW 0 false 8 := rfl
theorem frV_last {n : Nat} (h : n ≤ 6) : frV n = frW 0 false (8 - n) := by
  unfold frV; rw [frC_last h, frR_last h, frL_last h]
theorem frV_col (r : Nat) : frV (7 + 2 * r) = frW r true 2 := by unfold frV; rw [frC_col, frR_col, frL_col]
theorem frV_red (r : Nat) : frV (8 + 2 * r) = frW (r + 1) false 2 := by unfold frV; rw [frC_red, frR_red, frL_red]

set_option maxHeartbeats 400000 in
theorem eql_over (r : Int) (c : Bool) (l : Int) (w : World) :
    (binOp .eql 29 (frW r c l) (frW 0 false 8)).run Tryd.prog w = .ok (.bool ((r == 0) && ((!c) && (l == 8)))) w := by
  rw [run_eql_struct, run_equalIn_struct (d := 9999) (ht := by kernel_rfl) (hp := by kernel_rfl)]
  cases h1 : (r == 0) <;> cases c <;> cases h2 : (l == 8) <;>
  simp [Program.fieldsOf, Tryd.underlying29, Op.eqFields, go_sem, h1, h2]

set_option maxHeartbeats 400000 in
theorem isOver_any (r : Int) (c : Bool) (l : Int) (w : World) :
    Calls Tryd.prog 43 #[frW r c l] w fun e w' => e = .returned (.bool ((r == 0) && ((!c) && (l == 8)))) ∧ Below w.heap.size w w' := by
  have he := eql_over r c l
  go_enter Tryd.func43, Tryd.ntmps43
  go_wp2
  go_ret
  refine ⟨rfl, ?_⟩
  (repeat (first | exact Below.refl _ _ | exact ‹Below _ _ _› | refine Below.drew ?_ | refine Below.alloc ?_ (by first | omega | (simp; done) | (simp; omega)) _ | refine Below.setCell ?_ (by first | omega | (simp; done) | (simp; omega)) _ | refine Below.trans ?_ (Below.mono ‹Below _ _ _› (by first | omega | (simp; done) | (simp; omega)))))

theorem over_n (n : Nat) : ((frR n == 0) && ((!frC n) && (frL n == 8))) = decide (n = 0) := by
  rcases fr_shape n with rfl | ⟨h1, h6⟩ | ⟨r, rfl⟩ | ⟨r, rfl⟩
  · rfl
  · rw [frC_last h6, frR_last h6, frL_last h6, Bool.eq_iff_iff]; simp; omega
  · rw [frC_col, frR_col, frL_col, Bool.eq_iff_iff]; simp
  · rw [frC_red, frR_red, frL_red, Bool.eq_iff_iff]; simp

set_option maxHeartbeats 400000 in
theorem isOver_n (n : Nat) (w : World) :
    Calls Tryd.prog 43 #[frV n] w fun e w' => e = .returned (.bool (decide (n = 0))) ∧ Below w.heap.size w w' := by
  rw [← over_n]; exact isOver_any _ _ _ _

theorem dec_one : ∀ m : Nat, m < 10 → (⟨(Lib.decDigits m).toArray⟩ : ByteArray) = ⟨#[UInt8.ofNat (48 + m)]⟩ := by decide +kernel

set_option maxHeartbeats 800000 in
theorem ballsToPot_n (n : Nat) (w : World) :
    Calls Tryd.prog 38 #[frV n] w fun e w' => e = .returned (.string (nextS n)) ∧ Below w.heap.size w w' := by
  have ho : ∀ w : World, Calls Tryd.prog 43 #[frV n] w fun e w' => e = .returned (.bool (decide (n = 0))) ∧ Below w.heap.size w w' := isOver_n n
  rcases fr_shape n with rfl | ⟨h1, h6⟩ | ⟨r, rfl⟩ | ⟨r, rfl⟩
  · rw [frV_0] at ho ⊢
    have HO := Lib.hid ho; clear ho
    go_enter Tryd.func38, Tryd.ntmps38
    go_wp2_with fail
    refine (HO.out _).mono ?_; rintro e w1 ⟨rfl, b1⟩
    obtain ⟨c1, f1⟩ := bcell b1; have z1 : w.heap.size < w1.heap.size := (by have := b1.size; (try simp at this); omega)
    go_wp2_with fail
    go_ret
    refine ⟨rfl, ?_⟩
    (repeat (first | exact Below.refl _ _ | exact ‹Below _ _ _› | refine Below.drew ?_ | refine Below.alloc ?_ (by first | omega | (simp; done) | (simp; omega)) _ | refine Below.setCell ?_ (by first | omega | (simp; done) | (simp; omega)) _ | refine Below.trans ?_ (Below.mono ‹Below _ _ _› (by first | omega | (simp; done) | (simp; omega)))))
  · rw [frV_last h6] at ho ⊢
    have hn : decide (n = 0) = false := by simp; omega
    rw [hn] at ho
    have HO := Lib.hid ho; clear ho hn
    have hs : nextS n = ⟨#[UInt8.ofNat (48 + (8 - n))]⟩ := by unfold nextS; rw [nextL_last h1 h6, show 56 - n = 48 + (8 - n) from by omega]
    have hd := dec_one (8 - n) (by omega)
    have hc : ((8 : Int) - (n : Int)) = ((8 - n : Nat) : Int) := by omega
    rw [hc] at HO ⊢
    rw [hs, ← hd]
    have hm8 : 8 - n < 100 := by omega
    clear hd hs hc h1 h6
    generalize 8 - n = m at *
    go_enter Tryd.func38, Tryd.ntmps38
    go_wp2_with fail
    refine (HO.out _).mono ?_; rintro e w1 ⟨rfl, b1⟩
    obtain ⟨c1, f1⟩ := bcell b1; have z1 : w.heap.size < w1.heap.size := (by have := b1.size; (try simp at this); omega)
    go_wp2_with fail
    refine (Tryd.strconv_Itoa_small m hm8 _).mono ?_; rintro e w2 ⟨rfl, hw⟩; subst hw
    go_wp2_with fail
    go_ret
    refine ⟨rfl, ?_⟩
    (repeat (first | exact Below.refl _ _ | exact ‹Below _ _ _› | refine Below.drew ?_ | refine Below.alloc ?_ (by first | omega | (simp; done) | (simp; omega)) _ | refine Below.setCell ?_ (by first | omega | (simp; done) | (simp; omega)) _ | refine Below.trans ?_ (Below.mono ‹Below _ _ _› (by first | omega | (simp; done) | (simp; omega)))))
  · rw [frV_col] at ho ⊢
    have hn : decide (7 + 2 * r = 0) = false := by simp
    rw [hn] at ho
    have hs : nextS (7 + 2 * r) = ⟨#[50, 51, 52, 53, 54, 55]⟩ := by unfold nextS; rw [nextL_col]
    rw [hs]
    have HO := Lib.hid ho; clear ho hn hs
    go_enter Tryd.func38, Tryd.ntmps38
    go_wp2_with fail
    refine (HO.out _).mono ?_; rintro e w1 ⟨rfl, b1⟩
    obtain ⟨c1, f1⟩ := bcell b1; have z1 : w.heap.size < w1.heap.size := (by have := b1.size; (try simp at this); omega)
    go_wp2_with fail
    go_ret
    refine ⟨rfl, ?_⟩
    (repeat (first | exact Below.refl _ _ | exact ‹Below _ _ _› | refine Below.drew ?_ | refine Below.alloc ?_ (by first | omega | (simp; done) | (simp; omega)) _ | refine Below.setCell ?_ (by first | omega | (simp; done) | (simp; omega)) _ | refine Below.trans ?_ (Below.mono ‹Below _ _ _› (by first | omega | (simp; done) | (simp; omega)))))
  · rw [frV_red] at ho ⊢
    have hn : decide (8 + 2 * r = 0) = false := by simp
    rw [hn] at ho
    have hs : nextS (8 + 2 * r) = ⟨#[49]⟩ := by unfold nextS; rw [nextL_red]
    rw [hs]
    have hp : (0 : Int) < (r : Int) + 1 := by omega
    have HO := Lib.hid ho; clear ho hn hs
    go_enter Tryd.func38, Tryd.ntmps38
    go_wp2_with fail
    refine (HO.out _).mono ?_; rintro e w1 ⟨rfl, b1⟩
    obtain ⟨c1, f1⟩ := bcell b1; have z1 : w.heap.size < w1.heap.size := (by have := b1.size; (try simp at this); omega)
    go_wp2_with fail
    go_ret
    refine ⟨rfl, ?_⟩
    (repeat (first | exact Below.refl _ _ | exact ‹Below _ _ _› | refine Below.drew ?_ | refine Below.alloc ?_ (by first | omega | (simp; done) | (simp; omega)) _ | refine Below.setCell ?_ (by first | omega | (simp; done) | (simp; omega)) _ | refine Below.trans ?_ (Below.mono ‹Below _ _ _› (by first | omega | (simp; done) | (simp; omega)))))

set_option maxHeartbeats 800000 in
theorem frNext_n (n : Nat) (w : World) :
    Calls Tryd.prog 32 #[frV n] w fun e w' => e = .returned (.string (nextS n)) ∧ Below w.heap.size w w' := by
  rcases fr_shape n with rfl | ⟨h1, h6⟩ | ⟨r, rfl⟩ | ⟨r, rfl⟩
  · rw [frV_0]
    go_enter Tryd.func32, Tryd.ntmps32
    go_wp2_with fail
    go_ret
    refine ⟨rfl, ?_⟩
    (repeat (first | exact Below.refl _ _ | exact ‹Below _ _ _› | refine Below.drew ?_ | refine Below.alloc ?_ (by first | omega | (simp; done) | (simp; omega)) _ | refine Below.setCell ?_ (by first | omega | (simp; done) | (simp; omega)) _ | refine Below.trans ?_ (Below.mono ‹Below _ _ _› (by first | omega | (simp; done) | (simp; omega)))))
  · rw [frV_last h6]
    have hs : nextS n = ⟨[dig (8 - n)].toArray⟩ := by unfold nextS; rw [nextL_last h1 h6, show 56 - n = 48 + (8 - n) from by omega]; rfl
    have hc : ((8 : Int) - (n : Int)) = ((8 - n : Nat) : Int) := by omega
    rw [hs, hc]
    have hm : 8 - n < 8 := by omega
    have hm10 : 8 - n < 10 := by omega
    generalize 8 - n = m at *
    clear hs hc h1 h6
    have hml : (m : Int) < 8 := by omega
    go_enter Tryd.func32, Tryd.ntmps32
    go_wp2_with fail
    refine (l1Num_lt m hm10 _).mono ?_; rintro e w1 ⟨rfl, b1⟩
    go_wp2_with fail
    go_ret
    refine ⟨rfl, ?_⟩
    (repeat (first | exact Below.refl _ _ | exact ‹Below _ _ _› | refine Below.drew ?_ | refine Below.alloc ?_ (by first | omega | (simp; done) | (simp; omega)) _ | refine Below.setCell ?_ (by first | omega | (simp; done) | (simp; omega)) _ | refine Below.trans ?_ (Below.mono ‹Below _ _ _› (by first | omega | (simp; done) | (simp; omega)))))
  · rw [frV_col]
    have hs : nextS (7 + 2 * r) = ⟨#[50, 51, 52, 53, 54, 55]⟩ := by unfold nextS; rw [nextL_col]
    rw [hs]; clear hs
    go_enter Tryd.func32, Tryd.ntmps32
    go_wp2_with fail
    go_ret
    refine ⟨rfl, ?_⟩
    (repeat (first | exact Below.refl _ _ | exact ‹Below _ _ _› | refine Below.drew ?_ | refine Below.alloc ?_ (by first | omega | (simp; done) | (simp; omega)) _ | refine Below.setCell ?_ (by first | omega | (simp; done) | (simp; omega)) _ | refine Below.trans ?_ (Below.mono ‹Below _ _ _› (by first | omega | (simp; done) | (simp; omega)))))
  · rw [frV_red]
    have hs : nextS (8 + 2 * r) = ⟨#[49]⟩ := by unfold nextS; rw [nextL_red]
    rw [hs]; clear hs
    have hp : (0 : Int) < (r : Int) + 1 := by omega
    go_enter Tryd.func32, Tryd.ntmps32
    go_wp2_with fail
    go_ret
    refine ⟨rfl, ?_⟩
    (repeat (first | exact Below.refl _ _ | exact ‹Below _ _ _› | refine Below.drew ?_ | refine Below.alloc ?_ (by first | omega | (simp; done) | (simp; omega)) _ | refine Below.setCell ?_ (by first | omega | (simp; done) | (simp; omega)) _ | refine Below.trans ?_ (Below.mono ‹Below _ _ _› (by first | omega | (simp; done) | (simp; omega)))))

theorem behind_n (n : Nat) : (1 ≤ n + 1 ∧ n + 1 ≤ 6 ∧ frV n = frW 0 false (8 - (n + 1 : Nat) + 1)) ∨ (∃ r : Nat, n + 1 = 7 + 2 * r ∧ frV n = frW r false 2) ∨ (∃ r : Nat, n + 1 = 8 + 2 * r ∧ frV n = frW r true 2) := by
  rcases fr_shape (n + 1) with h | ⟨h1, h6⟩ | ⟨r, h⟩ | ⟨r, h⟩
  · omega
  · refine .inl ⟨h1, h6, ?_⟩
    rw [frV_last (by omega : n ≤ 6)]; congr 4; omega
  · refine .inr (.inl ⟨r, h, ?_⟩)
    by_cases h0 : r = 0
    · subst h0
      obtain rfl : n = 6 := by omega
      rfl
    · obtain ⟨q, rfl⟩ : ∃ q, r = q + 1 := ⟨r - 1, by omega⟩
      rw [show n = 8 + 2 * q from by omega, frV_red]; rfl
  · refine .inr (.inr ⟨r, h, ?_⟩)
    rw [show n = 7 + 2 * r from by omega, frV_col]

set_option maxHeartbeats 800000 in
theorem frameBehind_n (n : Nat) (hn : n ≤ 100) (w : World) :
    Calls Tryd.prog 36 #[frV (n + 1)] w fun e w' => e = .returned (frV n) ∧ Below w.heap.size w w' := by
  rcases behind_n n with ⟨_, h6, hv⟩ | ⟨r, hr, hv⟩ | ⟨r, hr, hv⟩
  · rw [hv, frV_last h6]
    have hc : ((8 : Int) - ((n + 1 : Nat) : Int)) = ((8 - (n + 1) : Nat) : Int) := by omega
    rw [hc]
    generalize 8 - (n + 1) = m at *
    have hm : (m : Int) ≤ 8 := by omega
    clear hv hc h6 hn
    go_enter Tryd.func36, Tryd.ntmps36
    go_wp2
    refine bodyPost_ret (v := frW 0 false ((m : Int) + 1)) (by simp [results, Tryd.results36, go_sem]) rfl ⟨rfl, ?_⟩
    (repeat (first | exact Below.refl _ _ | exact ‹Below _ _ _› | refine Below.drew ?_ | refine Below.alloc ?_ (by first | omega | (simp; done) | (simp; omega)) _ | refine Below.setCell ?_ (by first | omega | (simp; done) | (simp; omega)) _ | refine Below.trans ?_ (Below.mono ‹Below _ _ _› (by first | omega | (simp; done) | (simp; omega)))))
  · rw [hv, hr, frV_col]
    clear hv hr hn
    go_enter Tryd.func36, Tryd.ntmps36
    go_wp2
    refine bodyPost_ret (v := frW r false 2) (by simp [results, Tryd.results36, go_sem]) rfl ⟨rfl, ?_⟩
    (repeat (first | exact Below.refl _ _ | exact ‹Below _ _ _› | refine Below.drew ?_ | refine Below.alloc ?_ (by first | omega | (simp; done) | (simp; omega)) _ | refine Below.setCell ?_ (by first | omega | (simp; done) | (simp; omega)) _ | refine Below.trans ?_ (Below.mono ‹Below _ _ _› (by first | omega | (simp; done) | (simp; omega)))))
  · rw [hv, hr, frV_red]
    have hp : (0 : Int) < (r : Int) + 1 := by omega
    have hb : (r : Int) ≤ 100 := by omega
    clear hv hr hn
    go_enter Tryd.func36, Tryd.ntmps36
    go_wp2
    refine bodyPost_ret (v := frW r true 2) (by simp [results, Tryd.results36, go_sem]) rfl ⟨rfl, ?_⟩
    (repeat (first | exact Below.refl _ _ | exact ‹Below _ _ _› | refine Below.drew ?_ | refine Below.alloc ?_ (by first | omega | (simp; done) | (simp; omega)) _ | refine Below.setCell ?_ (by first | omega | (simp; done) | (simp; omega)) _ | refine Below.trans ?_ (Below.mono ‹Below _ _ _› (by first | omega | (simp; done) | (simp; omega)))))

end Go.Proofs.YtaplkciomagmiabDoor
