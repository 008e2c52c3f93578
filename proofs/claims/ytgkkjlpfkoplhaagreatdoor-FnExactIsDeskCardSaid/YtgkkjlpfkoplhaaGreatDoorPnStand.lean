/-
  Pins: how many balls a frame has, how many pins stand, sums.
-/
import Derived.Test.YtgkkjlpfkoplhaaGreatDoorPnFrame
namespace Go.Proofs.YtgkkjlpfkoplhaaGreatDoor.Pn
open Go.RowKit
set_option linter.unusedVariables false
set_option linter.unusedSimpArgs false

theorem cnt_eq (bs : List Int) : ((cntF bs : Nat) : Int) = if strikeB bs then 3 else if spareB bs then 3 else 2 := by
  unfold cntF
  cases strikeB bs <;> cases spareB bs <;> rfl

set_option maxHeartbeats 800000 in
theorem ballsCounted_any (bs : List Int) (h : smallB bs) (w : World) :
    Calls Tryz.prog 99 #[frV bs] w fun e w' => e = .returned (.int .i64 (cntF bs)) ∧ Below w.heap.size w w' := by
  have hP := PnAt.new w bs
  have HP := Lib.hid hP; clear hP
  have hi := fun w => isStrike_any bs w
  have hj := fun w => isSpare_any bs h w
  clear h
  rw [cnt_eq]
  cases hs : strikeB bs
  case true =>
    rw [hs] at hi
    have HI := Lib.hid hi; clear hi hs hj
    rw [if_pos rfl]
    rw [show frV bs = .agg #[.int .i64 (bs.getD 0 (-1)), .int .i64 (bs.getD 1 (-1)), .int .i64 (bs.getD 2 (-1))] from rfl] at HI ⊢
    try unfold PnAt cellsF at HP
    generalize bs.getD 0 (-1) = x at *
    generalize bs.getD 1 (-1) = y at *
    generalize bs.getD 2 (-1) = z at *
    go_enter Tryz.func99, Tryz.ntmps99
    go_wp2_with fail
    refine (HI.out _).mono ?_; rintro e w1 ⟨rfl, b1⟩
    obtain ⟨c1, f1⟩ := bcell b1; have z1 : w.heap.size < w1.heap.size := (by have := b1.size; (try simp at this); omega)
    go_wp2_with fail
    go_ret
    refine ⟨rfl, ?_⟩
    (repeat (first | exact Below.refl _ _ | exact ‹Below _ _ _› | refine Below.drew ?_ | refine Below.alloc ?_ (by first | omega | (simp; done) | (simp; omega)) _ | refine Below.setCell ?_ (by first | omega | (simp; done) | (simp; omega)) _ | refine Below.trans ?_ (Below.mono ‹Below _ _ _› (by first | omega | (simp; done) | (simp; omega)))))
  case false =>
    rw [hs] at hi
    have HI := Lib.hid hi; clear hi hs
    rw [if_neg (by decide)]
    cases hp : spareB bs
    all_goals
      rw [hp] at hj
      have HJ := Lib.hid hj; clear hj hp
      rw [show frV bs = .agg #[.int .i64 (bs.getD 0 (-1)), .int .i64 (bs.getD 1 (-1)), .int .i64 (bs.getD 2 (-1))] from rfl] at HI HJ ⊢
      try unfold PnAt cellsF at HP
      generalize bs.getD 0 (-1) = x at *
      generalize bs.getD 1 (-1) = y at *
      generalize bs.getD 2 (-1) = z at *
      go_enter Tryz.func99, Tryz.ntmps99
      go_wp2_with fail
      refine (HI.out _).mono ?_; rintro e w1 ⟨rfl, b1⟩
      obtain ⟨c1, f1⟩ := bcell b1; have z1 : w.heap.size < w1.heap.size := (by have := b1.size; (try simp at this); omega)
      go_wp2_with fail
      refine (HJ.out _).mono ?_; rintro e w2 ⟨rfl, b2⟩
      have z2 := b2.size
      go_wp2_with fail
      go_ret
      refine ⟨rfl, ?_⟩
      (repeat (first | exact Below.refl _ _ | exact ‹Below _ _ _› | refine Below.drew ?_ | refine Below.alloc ?_ (by first | omega | (simp; done) | (simp; omega)) _ | refine Below.setCell ?_ (by first | omega | (simp; done) | (simp; omega)) _ | refine Below.trans ?_ (Below.mono ‹Below _ _ _› (by first | omega | (simp; done) | (simp; omega)))))

theorem in_eq (last : Bool) (bs : List Int) : ((inF last bs : Nat) : Int) = if last then ((cntF bs : Nat) : Int) else if strikeB bs then 1 else 2 := by
  unfold inF
  cases last <;> cases strikeB bs <;> rfl

set_option maxHeartbeats 800000 in
theorem ballsIn_any (last : Bool) (bs : List Int) (h : smallB bs) (w : World) :
    Calls Tryz.prog 92 #[frV bs, .bool last] w fun e w' => e = .returned (.int .i64 (inF last bs)) ∧ Below w.heap.size w w' := by
  have hP := PnAt.new w bs
  have HP := Lib.hid hP; clear hP
  have hi := fun w => isStrike_any bs w
  have hj := fun w => ballsCounted_any bs h w
  clear h
  rw [in_eq]
  cases last
  case true =>
    rw [if_pos rfl]
    clear hi
    generalize ((cntF bs : Nat) : Int) = c at *
    have HJ := Lib.hid hj; clear hj
    rw [show frV bs = .agg #[.int .i64 (bs.getD 0 (-1)), .int .i64 (bs.getD 1 (-1)), .int .i64 (bs.getD 2 (-1))] from rfl] at HJ ⊢
    try unfold PnAt cellsF at HP
    generalize bs.getD 0 (-1) = x at *
    generalize bs.getD 1 (-1) = y at *
    generalize bs.getD 2 (-1) = z at *
    go_enter Tryz.func92, Tryz.ntmps92
    go_wp2_with fail
    refine (HJ.out _).mono ?_; rintro e w1 ⟨rfl, b1⟩
    obtain ⟨c1, f1⟩ := bcell b1; have z1 : w.heap.size < w1.heap.size := (by have := b1.size; (try simp at this); omega)
    go_wp2_with fail
    go_ret
    refine ⟨rfl, ?_⟩
    (repeat (first | exact Below.refl _ _ | exact ‹Below _ _ _› | refine Below.drew ?_ | refine Below.alloc ?_ (by first | omega | (simp; done) | (simp; omega)) _ | refine Below.setCell ?_ (by first | omega | (simp; done) | (simp; omega)) _ | refine Below.trans ?_ (Below.mono ‹Below _ _ _› (by first | omega | (simp; done) | (simp; omega)))))
  case false =>
    rw [if_neg (by decide)]
    clear hj
    cases hs : strikeB bs
    all_goals
      rw [hs] at hi
      have HI := Lib.hid hi; clear hi hs
      rw [show frV bs = .agg #[.int .i64 (bs.getD 0 (-1)), .int .i64 (bs.getD 1 (-1)), .int .i64 (bs.getD 2 (-1))] from rfl] at HI ⊢
      try unfold PnAt cellsF at HP
      generalize bs.getD 0 (-1) = x at *
      generalize bs.getD 1 (-1) = y at *
      generalize bs.getD 2 (-1) = z at *
      go_enter Tryz.func92, Tryz.ntmps92
      go_wp2_with fail
      refine (HI.out _).mono ?_; rintro e w1 ⟨rfl, b1⟩
      obtain ⟨c1, f1⟩ := bcell b1; have z1 : w.heap.size < w1.heap.size := (by have := b1.size; (try simp at this); omega)
      go_wp2_with fail
      go_ret
      refine ⟨rfl, ?_⟩
      (repeat (first | exact Below.refl _ _ | exact ‹Below _ _ _› | refine Below.drew ?_ | refine Below.alloc ?_ (by first | omega | (simp; done) | (simp; omega)) _ | refine Below.setCell ?_ (by first | omega | (simp; done) | (simp; omega)) _ | refine Below.trans ?_ (Below.mono ‹Below _ _ _› (by first | omega | (simp; done) | (simp; omega)))))

theorem sum_take (l : List Int) (k : Nat) (h : k < l.length) : (l.take (k + 1)).sum = (l.take k).sum + l.getD k 0 := by
  rw [List.take_succ_eq_append_getElem h, List.sum_append]; simp [h]
theorem sum_in : ∀ (l : List Int) (k : Nat), (∀ x ∈ l, 0 ≤ x ∧ x ≤ 30) → 0 ≤ (l.take k).sum ∧ (l.take k).sum ≤ 30 * (k : Int)
  | [], k, _ => by simp; omega
  | a :: R, 0, _ => by simp
  | a :: R, k + 1, h => by
    have h1 := h a (by simp)
    have := sum_in R k (fun x hx => h x (by simp [hx]))
    simp only [List.take_succ_cons, List.sum_cons]; omega

set_option maxHeartbeats 800000 in
theorem sumOf_any (l : List Int) (a : Option Addr) (c : Nat) (w : World) (hl : l.length ≤ 30) (hb : ∀ x ∈ l, 0 ≤ x ∧ x ≤ 30) (h : Reads w a (ints l)) :
    Calls Tryz.prog 93 #[.slice a l.length c] w fun e w' => e = .returned (.int .i64 l.sum) ∧ w = w' := by
  by_cases hz : l = []
  · subst hz
    clear h hb hl
    go_enter Tryz.func93, Tryz.ntmps93
    go_wp2_with fail
    refine wp_loop_rounds 1 ?_
    rw [rounds_succ]
    go_wp2
    go_ret
    exact ⟨rfl, rfl⟩
  · have hpos : 0 < l.length := by cases l with | nil => exact absurd rfl hz | cons _ _ => simp
    obtain ⟨b, off, rfl, _, hc⟩ := cells_of_reads h hpos
    have HC := Lib.hid hc; clear hc h hz
    have HB := Lib.hid hb; clear hb
    go_enter Tryz.func93, Tryz.ntmps93
    go_wp2_with fail
    go_loop [3, 8] (fun s i => ∃ k : Nat, i = .int .i64 k ∧ k ≤ l.length ∧ s = .int .i64 (l.take k).sum) (fun _ i => l.length - (intOf i).toNat)
    case atStart => exact ⟨0, rfl, Nat.zero_le _, by simp⟩
    case round =>
      obtain ⟨k, rfl, hk, rfl⟩ := hrel
      have hs := sum_in l k HB.out
      by_cases hlt : k < l.length
      · have hcell := HC.out k hlt
        have hst := sum_take l k hlt
        have HS := Lib.hid hst; clear hst
        have hx := HB.out l[k] (List.getElem_mem hlt)
        have e : l.getD k 0 = l[k] := by simp [hlt]
        rw [← e] at hx
        clear e
        have hb : (k : Int) < (l.length : Int) := by omega
        generalize l.getD k 0 = x at *
        generalize (l.take k).sum = s at *
        go_wp2
        go_round
        case rel => exact ⟨k + 1, by go_num, by omega, by rw [HS.out]⟩
        case measure => simp [intOf]; omega
      · obtain rfl : k = l.length := by omega
        rw [List.take_length] at hs ⊢
        go_wp2
        go_ret
        exact ⟨rfl, rfl⟩

theorem small30 {bs : List Int} (h : smallB bs) : bs.length ≤ 30 ∧ ∀ x ∈ bs, 0 ≤ x ∧ x ≤ 30 :=
  ⟨by have := h.1; omega, fun x hx => by have := h.2 x hx; omega⟩

set_option maxHeartbeats 1600000 in
theorem standing_any (last : Bool) (bs : List Int) (h : smallB bs) (w : World) :
    Calls Tryz.prog 72 #[frV bs, .bool last] w fun e w' => e = .returned (.int .i64 (stF last bs)) ∧ Below w.heap.size w w' := by
  have hP := PnAt.new w bs
  have HP := Lib.hid hP; clear hP
  have hi := fun w => balls_any bs h w
  have hj := fun w => ballsIn_any last bs h w
  have hsum := fun (w : World) (g : Nat) (hr : PnAt w g bs) => sumOf_any bs (some ⟨g, 0, none⟩) bs.length w (small30 h).1 (small30 h).2 (hr.reads h.1)
  have hsb := sum_bd h
  have h3 := h.1
  clear h
  have HI := Lib.hid hi; clear hi
  have HJ := Lib.hid hj; clear hj
  have HS := Lib.hid hsum; clear hsum
  by_cases he : bs.length = inF last bs
  · have hst : stF last bs = 0 := by simp [stF, he]
    rw [hst]; clear hst
    rw [← he] at HJ
    clear he
    rw [show frV bs = .agg #[.int .i64 (bs.getD 0 (-1)), .int .i64 (bs.getD 1 (-1)), .int .i64 (bs.getD 2 (-1))] from rfl] at HI HJ ⊢
    try unfold PnAt cellsF at HP
    generalize bs.getD 0 (-1) = x at *
    generalize bs.getD 1 (-1) = y at *
    generalize bs.getD 2 (-1) = z at *
    go_enter Tryz.func72, Tryz.ntmps72
    go_wp2_with fail
    refine (HI.out _).mono ?_; rintro e w1 ⟨rfl, p1, b1⟩
    obtain ⟨c1, f1⟩ := bcell b1; have z1 : w.heap.size < w1.heap.size := (by have := b1.size; (try simp at this); omega)
    clear p1
    go_wp2_with fail
    refine (HJ.out _).mono ?_; rintro e w2 ⟨rfl, b2⟩
    have z2 := b2.size
    go_wp2_with fail
    go_ret
    refine ⟨rfl, ?_⟩
    (repeat (first | exact Below.refl _ _ | exact ‹Below _ _ _› | refine Below.drew ?_ | refine Below.alloc ?_ (by first | omega | (simp; done) | (simp; omega)) _ | refine Below.setCell ?_ (by first | omega | (simp; done) | (simp; omega)) _ | refine Below.trans ?_ (Below.mono ‹Below _ _ _› (by first | omega | (simp; done) | (simp; omega)))))
  · have hst : stF last bs = leftP bs := by simp [stF, he]
    have hin : ((inF last bs : Nat) : Int) = 1 ∨ ((inF last bs : Nat) : Int) = 2 ∨ ((inF last bs : Nat) : Int) = 3 := by
      have := cntF_bd bs
      unfold inF; split
      · omega
      · split <;> omega
    rw [hst]; clear hst
    have hne : ((bs.length : Int) == ((inF last bs : Nat) : Int)) = false := by simp; omega
    clear he
    unfold leftP
    generalize hm : ((inF last bs : Nat) : Int) = m at *
    clear hm hin
    rw [show frV bs = .agg #[.int .i64 (bs.getD 0 (-1)), .int .i64 (bs.getD 1 (-1)), .int .i64 (bs.getD 2 (-1))] from rfl] at HI HJ ⊢
    try unfold PnAt cellsF at HP
    generalize bs.getD 0 (-1) = x at *
    generalize bs.getD 1 (-1) = y at *
    generalize bs.getD 2 (-1) = z at *
    go_enter Tryz.func72, Tryz.ntmps72
    go_wp2_with fail
    refine (HI.out _).mono ?_; rintro e w1 ⟨rfl, p1, b1⟩
    rw [World.size_alloc] at p1
    have P1 := Lib.hid p1; clear p1
    obtain ⟨c1, f1⟩ := bcell b1; have z1 : w.heap.size < w1.heap.size := (by have := b1.size; (try simp at this); omega)
    go_wp2_with fail
    refine (HJ.out _).mono ?_; rintro e w2 ⟨rfl, b2⟩
    have z2 := b2.size
    have P2 := Lib.hid (P1.out.keep b2)
    go_wp2_with fail
    refine (HS.out _ _ P2.out).mono ?_; rintro e w3 ⟨rfl, rfl⟩
    go_wp2_with fail
    go_ret
    refine ⟨rfl, ?_⟩
    (repeat (first | exact Below.refl _ _ | exact ‹Below _ _ _› | refine Below.drew ?_ | refine Below.alloc ?_ (by first | omega | (simp; done) | (simp; omega)) _ | refine Below.setCell ?_ (by first | omega | (simp; done) | (simp; omega)) _ | refine Below.trans ?_ (Below.mono ‹Below _ _ _› (by first | omega | (simp; done) | (simp; omega)))))

end Go.Proofs.YtgkkjlpfkoplhaaGreatDoor.Pn
