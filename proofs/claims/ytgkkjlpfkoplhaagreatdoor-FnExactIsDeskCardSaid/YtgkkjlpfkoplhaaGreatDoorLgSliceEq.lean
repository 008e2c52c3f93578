/-
  Slices of results in the laws: compared.
-/
import Derived.Test.YtgkkjlpfkoplhaaGreatDoorLgSlice
import Derived.StillTailTactics
namespace Go.Proofs.YtgkkjlpfkoplhaaGreatDoor.Lg
open Go.RowKit
set_option linter.unusedVariables false
set_option linter.unusedSimpArgs false

def eqR (d e : Rs) : Bool := decide (d = e)
theorem eqR_true {d e : Rs} : eqR d e = true ↔ d = e := by simp [eqR]

set_option maxHeartbeats 1600000 in
theorem eqResult_any (d e : Rs) (w : World) :
    Calls Tryz.prog 52 #[.agg #[.int .i64 d.1, .int .i64 d.2.1, .int .i64 d.2.2.1, .int .i64 d.2.2.2], .agg #[.int .i64 e.1, .int .i64 e.2.1, .int .i64 e.2.2.1, .int .i64 e.2.2.2]] w fun r w' => r = .returned (.bool (eqR d e)) ∧ Below w.heap.size w w' := by
  obtain ⟨a1, a2, a3, a4⟩ := d
  obtain ⟨b1, b2, b3, b4⟩ := e
  by_cases h1 : a1 = b1
  · by_cases h2 : a2 = b2
    · by_cases h3 : a3 = b3
      · by_cases h4 : a4 = b4
        · subst h1 h2 h3 h4
          have q1 : (a1 != a1) = false := by simp
          have q2 : (a2 != a2) = false := by simp
          have q3 : (a3 != a3) = false := by simp
          have q4 : (a4 != a4) = false := by simp
          go_enter Tryz.func52, Tryz.ntmps52
          go_wp2
          go_ret
          refine ⟨ret_bool (by simp [eqR]), ?_⟩
          (repeat (first | exact Below.refl _ _ | exact ‹Below _ _ _› | refine Below.drew ?_ | refine Below.alloc ?_ (by first | omega | (simp; done) | (simp; omega)) _ | refine Below.setCell ?_ (by first | omega | (simp; done) | (simp; omega)) _ | refine Below.trans ?_ (Below.mono ‹Below _ _ _› (by first | omega | (simp; done) | (simp; omega)))))
        · subst h1 h2 h3
          have q1 : (a1 != a1) = false := by simp
          have q2 : (a2 != a2) = false := by simp
          have q3 : (a3 != a3) = false := by simp
          have q4 : (a4 != b4) = true := by rw [bne_iff_ne]; exact h4
          go_enter Tryz.func52, Tryz.ntmps52
          go_wp2
          go_ret
          refine ⟨ret_bool (by simp [eqR, h4]), ?_⟩
          (repeat (first | exact Below.refl _ _ | exact ‹Below _ _ _› | refine Below.drew ?_ | refine Below.alloc ?_ (by first | omega | (simp; done) | (simp; omega)) _ | refine Below.setCell ?_ (by first | omega | (simp; done) | (simp; omega)) _ | refine Below.trans ?_ (Below.mono ‹Below _ _ _› (by first | omega | (simp; done) | (simp; omega)))))
      · subst h1 h2
        have q1 : (a1 != a1) = false := by simp
        have q2 : (a2 != a2) = false := by simp
        have q3 : (a3 != b3) = true := by rw [bne_iff_ne]; exact h3
        go_enter Tryz.func52, Tryz.ntmps52
        go_wp2
        go_ret
        refine ⟨ret_bool (by simp [eqR, h3]), ?_⟩
        (repeat (first | exact Below.refl _ _ | exact ‹Below _ _ _› | refine Below.drew ?_ | refine Below.alloc ?_ (by first | omega | (simp; done) | (simp; omega)) _ | refine Below.setCell ?_ (by first | omega | (simp; done) | (simp; omega)) _ | refine Below.trans ?_ (Below.mono ‹Below _ _ _› (by first | omega | (simp; done) | (simp; omega)))))
    · subst h1
      have q1 : (a1 != a1) = false := by simp
      have q2 : (a2 != b2) = true := by rw [bne_iff_ne]; exact h2
      go_enter Tryz.func52, Tryz.ntmps52
      go_wp2
      go_ret
      refine ⟨ret_bool (by simp [eqR, h2]), ?_⟩
      (repeat (first | exact Below.refl _ _ | exact ‹Below _ _ _› | refine Below.drew ?_ | refine Below.alloc ?_ (by first | omega | (simp; done) | (simp; omega)) _ | refine Below.setCell ?_ (by first | omega | (simp; done) | (simp; omega)) _ | refine Below.trans ?_ (Below.mono ‹Below _ _ _› (by first | omega | (simp; done) | (simp; omega)))))
  · have q1 : (a1 != b1) = true := by rw [bne_iff_ne]; exact h1
    go_enter Tryz.func52, Tryz.ntmps52
    go_wp2
    go_ret
    refine ⟨ret_bool (by simp [eqR, h1]), ?_⟩
    (repeat (first | exact Below.refl _ _ | exact ‹Below _ _ _› | refine Below.drew ?_ | refine Below.alloc ?_ (by first | omega | (simp; done) | (simp; omega)) _ | refine Below.setCell ?_ (by first | omega | (simp; done) | (simp; omega)) _ | refine Below.trans ?_ (Below.mono ‹Below _ _ _› (by first | omega | (simp; done) | (simp; omega)))))

def SameR (l m : List Rs) : Bool := decide (l = m)

theorem rtake_eq_of_step {l m : List Rs} {k : Nat} (h : l.take k = m.take k) (h1 : k < l.length) (h2 : k < m.length) (e : l.getD k zR = m.getD k zR) : l.take (k + 1) = m.take (k + 1) := by
  rw [List.take_succ_eq_append_getElem h1, List.take_succ_eq_append_getElem h2, h]
  simp [h1, h2] at e
  rw [e]

set_option maxRecDepth 100000 in
set_option maxHeartbeats 1600000 in
theorem eqResultS_any (l m : List Rs) (a a' : Option Addr) (c c' : Nat) (w : World) (hl : (l.length : Int) ≤ 1000000000000) (hm : (m.length : Int) ≤ 1000000000000) (h : Reads w a (ress l)) (h' : Reads w a' (ress m)) :
    Calls Tryz.prog 30 #[.slice a l.length c, .slice a' m.length c'] w fun e w' => e = .returned (.bool (SameR l m)) ∧ Below w.heap.size w w' := by
  by_cases hlen : l.length = m.length
  · have hb : (((l.length : Nat) : Int) != ((m.length : Nat) : Int)) = false := by simp [hlen]
    have HL := Lib.hid hlen; clear hlen
    have HR := Lib.hid h; clear h
    have HR' := Lib.hid h'; clear h'
    go_enter Tryz.func30, Tryz.ntmps30
    go_wp2_with fail
    go_loopw [5] (fun i wr => ∃ k : Nat, i = .int .i64 k ∧ k ≤ l.length ∧ l.take k = m.take k ∧ Below w.heap.size w wr) (fun i _ => l.length - (intOf i).toNat)
    case atStart => exact ⟨0, rfl, Nat.zero_le _, rfl, Below.refl _ _⟩
    case round =>
      obtain ⟨k, rfl, hk, ht, hbel⟩ := hrel
      have HT := Lib.hid ht; clear ht
      by_cases hlt : k < l.length
      · have hlt' : k < m.length := by have := HL.out; omega
        obtain ⟨b, off, ha, _, hc⟩ := rcells_of_reads (HR.out.old hbel) (by omega)
        subst ha
        obtain ⟨b', off', ha', _, hc'⟩ := rcells_of_reads (HR'.out.old hbel) (by omega)
        subst ha'
        obtain ⟨c0, c1, c2, c3⟩ := hc k hlt
        obtain ⟨d0, d1, d2, d3⟩ := hc' k hlt'
        have b1 : (k : Int) < (l.length : Int) := by omega
        have b2 : (k : Int) < (m.length : Int) := by omega
        clear hc hc'
        have hstep := fun e => rtake_eq_of_step HT.out hlt hlt' e
        have HSt := Lib.hid hstep; clear hstep
        have hno : ¬ l.getD k zR = m.getD k zR → SameR l m = false := fun he => by simp [SameR]; intro e; exact he (by rw [e])
        have HNo := Lib.hid hno; clear hno
        generalize l.getD k zR = x at *
        generalize m.getD k zR = y at *
        go_wp2_with fail
        go_still_tail 8, (by kernel_rfl)
        go_wp2_with fail
        refine (eqResult_any x y _).mono ?_; rintro r w2 ⟨rfl, bd⟩
        have hb2 : Below w.heap.size w w2 := hbel.drew.trans (bd.mono hbel.size)
        clear bd hbel c0 c1 c2 c3 d0 d1 d2 d3
        cases hq : eqR x y
        · have hf := HNo.out (fun he => by rw [eqR_true.2 he] at hq; cases hq)
          have HF := Lib.hid hf; clear hf hq
          go_wp2_with fail
          go_ret
          exact ⟨ret_bool (by rw [HF.out]), hb2⟩
        · have hs := HSt.out (eqR_true.1 hq)
          have HS := Lib.hid hs; clear hs hq
          go_wp2_with fail
          go_roundw
          case rel => exact ⟨k + 1, by go_num, by omega, HS.out, hb2⟩
          case measure => simp [intOf]; omega
      · obtain rfl : k = l.length := by omega
        have hf : SameR l m = true := by
          have := HT.out; rw [HL.out] at this; simp only [List.take_length] at this
          rw [← HL.out, List.take_length] at this
          simp [SameR, this]
        have HF := Lib.hid hf; clear hf
        go_wp2
        go_ret
        exact ⟨ret_bool (by rw [HF.out]), hbel⟩
  · have hb : (((l.length : Nat) : Int) != ((m.length : Nat) : Int)) = true := by simp; omega
    have hf : SameR l m = false := by simp [SameR]; intro e; exact hlen (by rw [e])
    clear hlen
    go_enter Tryz.func30, Tryz.ntmps30
    go_wp2
    go_ret
    exact ⟨ret_bool hf.symm, Below.refl _ _⟩

end Go.Proofs.YtgkkjlpfkoplhaaGreatDoor.Lg
