/-
  Leagues: the program asks whether a game has been played (slices.ContainsFunc with a closure).
-/
import Derived.Test.YtgkkjlpfkoplhaaDoorLgA
namespace Go.Proofs.YtgkkjlpfkoplhaaDoor
open Go.RowKit
set_option linter.unusedVariables false
set_option linter.unusedSimpArgs false

/-- A captured int. -/
def IntAt (w : World) (g : Nat) (x : Int) : Prop := g < w.heap.size ∧ w.cell? ⟨g, 0, none⟩ = some (.int .i64 x)
theorem IntAt.keep {w w' : World} {g : Nat} {x : Int} (h : IntAt w g x) (hb : Below w.heap.size w w') : IntAt w' g x :=
  ⟨Nat.lt_of_lt_of_le h.1 hb.size, by rw [hb.cell (p := ⟨g, 0, none⟩) h.1]; exact h.2⟩

set_option maxHeartbeats 800000 in
theorem hasGame1_any (x y z u h a : Int) (gh ga : Nat) (w : World) (ch : IntAt w gh h) (ca : IntAt w ga a) :
    Calls Tryd.prog 109 #[.agg #[.int .i64 x, .int .i64 y, .int .i64 z, .int .i64 u], .pointer (some ⟨gh, 0, none⟩), .pointer (some ⟨ga, 0, none⟩)] w fun e w' => e = .returned (.bool (pairR (x, y, z, u) h a)) ∧ Below w.heap.size w w' := by
  have hb := Below.ofNew (w := w) (.cells #[.int .i64 x, .int .i64 y, .int .i64 z, .int .i64 u] 50)
  have c1 := (ch.keep hb).2
  have c2 := (ca.keep hb).2
  have HB := Lib.hid hb; clear hb ch ca
  have hp : pairR (x, y, z, u) h a = (decide (x = h) && decide (y = a)) := rfl
  rw [hp]; clear hp
  by_cases e1 : x = h
  · by_cases e2 : y = a
    · have q1 : (x == h) = true := by simp [e1]
      have q2 : (y == a) = true := by simp [e2]
      rw [decide_eq_true e1, decide_eq_true e2]; clear e1 e2
      go_enter Tryd.func109, Tryd.ntmps109
      go_wp2
      go_ret
      exact ⟨rfl, HB.out⟩
    · have q1 : (x == h) = true := by simp [e1]
      have q2 : (y == a) = false := by simp [e2]
      rw [decide_eq_true e1, decide_eq_false e2]; clear e1 e2
      go_enter Tryd.func109, Tryd.ntmps109
      go_wp2
      go_ret
      exact ⟨rfl, HB.out⟩
  · have q1 : (x == h) = false := by simp [e1]
    rw [decide_eq_false e1, Bool.false_and]; clear e1
    go_enter Tryd.func109, Tryd.ntmps109
    go_wp2
    go_ret
    exact ⟨rfl, HB.out⟩

set_option maxHeartbeats 1600000 in
theorem indexR_any (l : List Rs) (ad : Option Addr) (c : Nat) (h a : Int) (gh ga : Nat) (w : World) (hl : (l.length : Int) ≤ 1000000000000) (hr : Reads w ad (ress l)) (ch : IntAt w gh h) (ca : IntAt w ga a) :
    Calls Tryd.prog 123 #[.slice ad l.length c, .func (.func 109) #[] #[.pointer (some ⟨gh, 0, none⟩), .pointer (some ⟨ga, 0, none⟩)]] w fun e w' => ∃ i : Int, e = .returned (.int .i64 i) ∧ decide (0 ≤ i) = hasG l h a ∧ Below w.heap.size w w' := by
  have HC := Lib.hid (And.intro hr (And.intro ch ca)); clear hr ch ca
  go_enter Tryd.func123, Tryd.ntmps123
  go_wp2_with fail
  go_loopw [8] (fun i wr => ∃ k : Nat, i = .int .i64 k ∧ k ≤ l.length ∧ Hid (hasG (l.take k) h a = false ∧ Below w.heap.size w wr)) (fun i _ => l.length - (intOf i).toNat)
  case atStart => exact ⟨0, rfl, Nat.zero_le _, rfl, Below.refl _ _⟩
  case round =>
    obtain ⟨k, rfl, hk, hH⟩ := hrel
    by_cases hlt : k < l.length
    · have b1 : (k : Int) < (l.length : Int) := by omega
      obtain ⟨b, off, ha, _, hc⟩ := rcells_of_reads (HC.out.1.old hH.out.2) (by omega)
      subst ha
      obtain ⟨c0, c1, c2, c3⟩ := hc k hlt
      clear hc
      have hs := hasG_snoc l k hlt h a
      rw [hH.out.1, Bool.false_or] at hs
      have hit := fun e => hasG_hit (l := l) (n := l.length) hlt hlt (h := h) (a := a) e
      rw [List.take_length] at hit
      have HS := Lib.hid (And.intro hs hit); clear hs hit
      have hcall := fun x y z u => hasGame1_any x y z u h a gh ga wr (HC.out.2.1.keep hH.out.2) (HC.out.2.2.keep hH.out.2)
      have HCL := Lib.hid hcall; clear hcall
      generalize l.getD k zR = r at *
      obtain ⟨x, y, z, u⟩ := r
      simp only at c0 c1 c2 c3
      go_wp2_with fail
      refine (HCL.out _ _ _ _).mono ?_; rintro e w2 ⟨rfl, b2⟩
      have HB := Lib.hid (hH.out.2.trans (b2.mono hH.out.2.size)); clear b2 c0 c1 c2 c3
      cases hp : pairR (x, y, z, u) h a
      · have hn := HS.out.1
        rw [hp] at hn
        have HN := Lib.hid (And.intro hn HB.out); clear hn hp
        go_wp2_with fail
        go_roundw
        case rel => exact ⟨k + 1, by go_num, by omega, HN⟩
        case measure => simp [intOf]; omega
      · have hy := HS.out.2 hp
        have HY := Lib.hid hy; clear hy hp
        go_wp2_with fail
        go_ret
        exact ⟨_, rfl, by rw [HY.out]; simp, HB.out⟩
    · obtain rfl : k = l.length := by omega
      have hn := hH.out
      rw [List.take_length] at hn
      have HN := Lib.hid hn; clear hn
      go_wp2
      go_ret
      exact ⟨-1, rfl, by rw [HN.out.1]; rfl, HN.out.2⟩

set_option maxHeartbeats 800000 in
theorem containsR_any (l : List Rs) (ad : Option Addr) (c : Nat) (h a : Int) (gh ga : Nat) (w : World) (hl : (l.length : Int) ≤ 1000000000000) (hr : Reads w ad (ress l)) (ch : IntAt w gh h) (ca : IntAt w ga a) :
    Calls Tryd.prog 108 #[.slice ad l.length c, .func (.func 109) #[] #[.pointer (some ⟨gh, 0, none⟩), .pointer (some ⟨ga, 0, none⟩)]] w fun e w' => e = .returned (.bool (hasG l h a)) ∧ Below w.heap.size w w' := by
  have HI := Lib.hid (indexR_any l ad c h a gh ga w hl hr ch ca); clear hr ch ca
  go_enter Tryd.func108, Tryd.ntmps108
  go_wp2_with fail
  refine HI.out.mono ?_; rintro e w3 ⟨i, rfl, hi, b3⟩
  have HB3 := Lib.hid (And.intro hi b3); clear b3 hi
  go_wp2_with fail
  go_ret
  exact ⟨ret_bool HB3.out.1, HB3.out.2⟩

set_option maxHeartbeats 800000 in
theorem hasGame_any (l : List Rs) (ad : Option Addr) (c : Nat) (h a : Int) (w : World) (hl : (l.length : Int) ≤ 1000000000000) (hr : Reads w ad (ress l)) :
    Calls Tryd.prog 94 #[.slice ad l.length c, .int .i64 h, .int .i64 a] w fun e w' => e = .returned (.bool (hasG l h a)) ∧ Below w.heap.size w w' := by
  have hb1 := Below.ofNew (w := w) (.cells #[.int .i64 h] 3)
  have hb2 := hb1.alloc hb1.size (.cells #[.int .i64 a] 3)
  have a1 := ObAt.new w 3 #[.int .i64 h]
  have a2 := ObAt.new (w.alloc (.cells #[.int .i64 h] 3)) 3 #[.int .i64 a]
  have a3 := a1.old (.cells #[.int .i64 a] 3)
  rw [World.size_alloc] at a2
  have i3 : IntAt _ _ h := ⟨a3.lt, a3.cell 0⟩
  have i2 : IntAt _ _ a := ⟨a2.lt, a2.cell 0⟩
  have HI := Lib.hid (containsR_any l ad c h a _ _ _ hl (hr.old hb2) i3 i2)
  have HB := Lib.hid hb2
  clear hb1 hb2 a1 a2 a3 i3 i2 hr
  go_enter Tryd.func94, Tryd.ntmps94
  go_wp2_with fail
  refine HI.out.mono ?_; rintro e w3 ⟨rfl, b3⟩
  have HB3 := Lib.hid (HB.out.trans (b3.mono HB.out.size)); clear b3
  go_wp2_with fail
  go_ret
  exact ⟨rfl, HB3.out⟩
end Go.Proofs.YtgkkjlpfkoplhaaDoor
