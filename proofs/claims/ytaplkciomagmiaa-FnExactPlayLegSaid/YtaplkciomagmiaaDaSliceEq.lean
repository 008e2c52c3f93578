/-
  Slices of darts in the laws: compared, marked, held.
-/
import Derived.Test.YtaplkciomagmiaaDaSlice
import Derived.StillTailTactics
namespace Go.Proofs.Ytaplkciomagmiaa
open Go.RowKit

def eqD (d e : Int × Int) : Bool := (d.1 == e.1) && (d.2 == e.2)
theorem eqD_true {d e : Int × Int} : eqD d e = true ↔ d = e := by
  obtain ⟨a, b⟩ := d; obtain ⟨a', b'⟩ := e
  simp [eqD]

set_option maxHeartbeats 800000 in
theorem eqDart_any (d e : Int × Int) (w : World) :
    Calls Try.prog 55 #[.agg #[.int .i64 d.1, .int .i64 d.2], .agg #[.int .i64 e.1, .int .i64 e.2]] w fun r w' => r = .returned (.bool (eqD d e)) ∧ Below w.heap.size w w' := by
  obtain ⟨a, b⟩ := d
  obtain ⟨a', b'⟩ := e
  by_cases h1 : a = a'
  · by_cases h2 : b = b'
    · subst h1 h2
      have q1 : (a != a) = false := by simp
      have q2 : (b != b) = false := by simp
      go_enter Try.func55, Try.ntmps55
      go_wp2
      go_ret
      refine ⟨ret_bool (by simp [eqD]), ?_⟩
      (repeat (first | exact Below.refl _ _ | exact ‹Below _ _ _› | refine Below.drew ?_ | refine Below.alloc ?_ (by first | omega | (simp; done) | (simp; omega)) _ | refine Below.setCell ?_ (by first | omega | (simp; done) | (simp; omega)) _ | refine Below.trans ?_ (Below.mono ‹Below _ _ _› (by first | omega | (simp; done) | (simp; omega)))))
    · subst h1
      have q1 : (a != a) = false := by simp
      have q2 : (b != b') = true := by rw [bne_iff_ne]; exact h2
      go_enter Try.func55, Try.ntmps55
      go_wp2
      go_ret
      refine ⟨ret_bool (by simp [eqD, h2]), ?_⟩
      (repeat (first | exact Below.refl _ _ | exact ‹Below _ _ _› | refine Below.drew ?_ | refine Below.alloc ?_ (by first | omega | (simp; done) | (simp; omega)) _ | refine Below.setCell ?_ (by first | omega | (simp; done) | (simp; omega)) _ | refine Below.trans ?_ (Below.mono ‹Below _ _ _› (by first | omega | (simp; done) | (simp; omega)))))
  · have q1 : (a != a') = true := by rw [bne_iff_ne]; exact h1
    go_enter Try.func55, Try.ntmps55
    go_wp2
    go_ret
    refine ⟨ret_bool (by simp [eqD, h1]), ?_⟩
    (repeat (first | exact Below.refl _ _ | exact ‹Below _ _ _› | refine Below.drew ?_ | refine Below.alloc ?_ (by first | omega | (simp; done) | (simp; omega)) _ | refine Below.setCell ?_ (by first | omega | (simp; done) | (simp; omega)) _ | refine Below.trans ?_ (Below.mono ‹Below _ _ _› (by first | omega | (simp; done) | (simp; omega)))))

def SameD (l m : List (Int × Int)) : Bool := decide (l = m)

theorem dtake_eq_of_step {l m : List (Int × Int)} {k : Nat} (h : l.take k = m.take k) (h1 : k < l.length) (h2 : k < m.length) (e : l.getD k (0, 0) = m.getD k (0, 0)) : l.take (k + 1) = m.take (k + 1) := by
  rw [List.take_succ_eq_append_getElem h1, List.take_succ_eq_append_getElem h2, h]
  simp [h1, h2] at e
  rw [e]

set_option maxRecDepth 100000 in
set_option maxHeartbeats 1600000 in
theorem eqDartS_any (l m : List (Int × Int)) (a a' : Option Addr) (c c' : Nat) (w : World) (hl : (l.length : Int) ≤ 1000000000000) (hm : (m.length : Int) ≤ 1000000000000) (h : Reads w a (darts l)) (h' : Reads w a' (darts m)) :
    Calls Try.prog 24 #[.slice a l.length c, .slice a' m.length c'] w fun e w' => e = .returned (.bool (SameD l m)) ∧ Below w.heap.size w w' := by
  by_cases hlen : l.length = m.length
  · have hb : (((l.length : Nat) : Int) != ((m.length : Nat) : Int)) = false := by simp [hlen]
    have HL := Lib.hid hlen; clear hlen
    have HR := Lib.hid h; clear h
    have HR' := Lib.hid h'; clear h'
    go_enter Try.func24, Try.ntmps24
    go_wp2_with fail
    go_loopw [5] (fun i wr => ∃ k : Nat, i = .int .i64 k ∧ k ≤ l.length ∧ l.take k = m.take k ∧ Below w.heap.size w wr) (fun i _ => l.length - (intOf i).toNat)
    case atStart => exact ⟨0, rfl, Nat.zero_le _, rfl, Below.refl _ _⟩
    case round =>
      obtain ⟨k, rfl, hk, ht, hbel⟩ := hrel
      have HT := Lib.hid ht; clear ht
      by_cases hlt : k < l.length
      · have hlt' : k < m.length := by have := HL.out; omega
        obtain ⟨b, off, ha, _, hc⟩ := dcells_of_reads (HR.out.old hbel) (by omega)
        subst ha
        obtain ⟨b', off', ha', _, hc'⟩ := dcells_of_reads (HR'.out.old hbel) (by omega)
        subst ha'
        obtain ⟨c0, c1⟩ := hc k hlt
        obtain ⟨d0, d1⟩ := hc' k hlt'
        have b1 : (k : Int) < (l.length : Int) := by omega
        have b2 : (k : Int) < (m.length : Int) := by omega
        clear hc hc'
        have hstep := fun e => dtake_eq_of_step HT.out hlt hlt' e
        have HSt := Lib.hid hstep; clear hstep
        have hno : ¬ l.getD k (0, 0) = m.getD k (0, 0) → SameD l m = false := fun he => by simp [SameD]; intro e; exact he (by rw [e])
        have HNo := Lib.hid hno; clear hno
        generalize l.getD k (0, 0) = x at *
        generalize m.getD k (0, 0) = y at *
        go_wp2_with fail
        go_still_tail 8, (by kernel_rfl)
        go_wp2_with fail
        refine (eqDart_any x y _).mono ?_; rintro r w2 ⟨rfl, bd⟩
        have hb2 : Below w.heap.size w w2 := hbel.drew.trans (bd.mono hbel.size)
        clear bd hbel c0 c1 d0 d1
        cases hq : eqD x y
        · have hf := HNo.out (fun he => by rw [eqD_true.2 he] at hq; cases hq)
          have HF := Lib.hid hf; clear hf hq
          go_wp2_with fail
          go_ret
          exact ⟨ret_bool (by rw [HF.out]), hb2⟩
        · have hs := HSt.out (eqD_true.1 hq)
          have HS := Lib.hid hs; clear hs hq
          go_wp2_with fail
          go_roundw
          case rel => exact ⟨k + 1, by go_num, by omega, HS.out, hb2⟩
          case measure => simp [intOf]; omega
      · obtain rfl : k = l.length := by omega
        have hf : SameD l m = true := by
          have := HT.out; rw [HL.out] at this; simp only [List.take_length] at this
          rw [← HL.out, List.take_length] at this
          simp [SameD, this]
        have HF := Lib.hid hf; clear hf
        go_wp2
        go_ret
        exact ⟨ret_bool (by rw [HF.out]), hbel⟩
  · have hb : (((l.length : Nat) : Int) != ((m.length : Nat) : Int)) = true := by simp; omega
    have hf : SameD l m = false := by simp [SameD]; intro e; exact hlen (by rw [e])
    clear hlen
    go_enter Try.func24, Try.ntmps24
    go_wp2
    go_ret
    exact ⟨ret_bool hf.symm, Below.refl _ _⟩

end Go.Proofs.Ytaplkciomagmiaa
