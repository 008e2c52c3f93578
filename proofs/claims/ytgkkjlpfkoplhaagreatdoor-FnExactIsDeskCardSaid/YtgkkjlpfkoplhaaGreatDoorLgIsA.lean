/-
  Leagues: the program asks whether a game has been played (slices.ContainsFunc with a closure).
  Leagues: IsLeague: the program's.
  Leagues: IsLeague: the model's.
-/
import Derived.Test.YtgkkjlpfkoplhaaGreatDoorLgA
import Derived.Deep.CutRange
namespace Go.Proofs.YtgkkjlpfkoplhaaGreatDoor.Lg
open Go.RowKit
set_option linter.unusedVariables false
set_option linter.unusedSimpArgs false

/-- A captured int. -/
def IntAt (w : World) (g : Nat) (x : Int) : Prop := g < w.heap.size ∧ w.cell? ⟨g, 0, none⟩ = some (.int .i64 x)
theorem IntAt.keep {w w' : World} {g : Nat} {x : Int} (h : IntAt w g x) (hb : Below w.heap.size w w') : IntAt w' g x :=
  ⟨Nat.lt_of_lt_of_le h.1 hb.size, by rw [hb.cell (p := ⟨g, 0, none⟩) h.1]; exact h.2⟩

set_option maxHeartbeats 800000 in
theorem hasGame1_any (x y z u h a : Int) (gh ga : Nat) (w : World) (ch : IntAt w gh h) (ca : IntAt w ga a) :
    Calls Tryz.prog 51 #[.agg #[.int .i64 x, .int .i64 y, .int .i64 z, .int .i64 u], .pointer (some ⟨gh, 0, none⟩), .pointer (some ⟨ga, 0, none⟩)] w fun e w' => e = .returned (.bool (pairR (x, y, z, u) h a)) ∧ Below w.heap.size w w' := by
  have hb := Below.ofNew (w := w) (.cells #[.int .i64 x, .int .i64 y, .int .i64 z, .int .i64 u] 61)
  have c1 := (ch.keep hb).2
  have c2 := (ca.keep hb).2
  have HB := Lib.hid hb; clear hb ch ca
  have hp : pairR (x, y, z, u) h a = (decide (x = h) && decide (y = a)) := rfl
  rw [hp]; clear hp
  by_cases e1 : x = h
  · by_cases e2 : y = a
    · have q1 : (x == h) = true := by simp [e1]
      have q2 : (y == a) = true := by simp [e2]
      rw [decide_eq_true e1, decide_eq_true e2]; clear e1 e2
      go_enter Tryz.func51, Tryz.ntmps51
      go_wp2
      go_ret
      exact ⟨rfl, HB.out⟩
    · have q1 : (x == h) = true := by simp [e1]
      have q2 : (y == a) = false := by simp [e2]
      rw [decide_eq_true e1, decide_eq_false e2]; clear e1 e2
      go_enter Tryz.func51, Tryz.ntmps51
      go_wp2
      go_ret
      exact ⟨rfl, HB.out⟩
  · have q1 : (x == h) = false := by simp [e1]
    rw [decide_eq_false e1, Bool.false_and]; clear e1
    go_enter Tryz.func51, Tryz.ntmps51
    go_wp2
    go_ret
    exact ⟨rfl, HB.out⟩

set_option maxHeartbeats 1600000 in
theorem indexR_any (l : List Rs) (ad : Option Addr) (c : Nat) (h a : Int) (gh ga : Nat) (w : World) (hl : (l.length : Int) ≤ 1000000000000) (hr : Reads w ad (ress l)) (ch : IntAt w gh h) (ca : IntAt w ga a) :
    Calls Tryz.prog 74 #[.slice ad l.length c, .func (.func 51) #[] #[.pointer (some ⟨gh, 0, none⟩), .pointer (some ⟨ga, 0, none⟩)]] w fun e w' => ∃ i : Int, e = .returned (.int .i64 i) ∧ decide (0 ≤ i) = hasG l h a ∧ Below w.heap.size w w' := by
  have HC := Lib.hid (And.intro hr (And.intro ch ca)); clear hr ch ca
  go_enter Tryz.func74, Tryz.ntmps74
  go_wp2_with fail
  go_loopw [8] (fun i wr => ∃ k : Nat, i = .int .i64 k ∧ k ≤ l.length ∧ Hid (hasG (l.take k) h a = false ∧ Below w.heap.size w wr)) (fun i _ => l.length - (intOf i).toNat)
  case atStart => exact ⟨0, rfl, Nat.zero_le _, rfl, Below.refl _ _⟩
  case round =>
    obtain ⟨k, rfl, hk, hH⟩ := hrel
    by_cases hlt : k < l.length
    · have b1 : (k : Int) < (l.length : Int) := by omega
      obtain ⟨b, off, ha, _, hc⟩ := rcells_of_reads (HC.out.1.old hH.out.2) (by omega)
      subst ha
      obtain ⟨c0, c1, c2, c3⟩ := hc k hlt
      clear hc
      have hs := hasG_snoc l k hlt h a
      rw [hH.out.1, Bool.false_or] at hs
      have hit := fun e => hasG_hit (l := l) (n := l.length) hlt hlt (h := h) (a := a) e
      rw [List.take_length] at hit
      have HS := Lib.hid (And.intro hs hit); clear hs hit
      have hcall := fun x y z u => hasGame1_any x y z u h a gh ga wr (HC.out.2.1.keep hH.out.2) (HC.out.2.2.keep hH.out.2)
      have HCL := Lib.hid hcall; clear hcall
      generalize l.getD k zR = r at *
      obtain ⟨x, y, z, u⟩ := r
      simp only at c0 c1 c2 c3
      go_wp2_with fail
      refine (HCL.out _ _ _ _).mono ?_; rintro e w2 ⟨rfl, b2⟩
      have HB := Lib.hid (hH.out.2.trans (b2.mono hH.out.2.size)); clear b2 c0 c1 c2 c3
      cases hp : pairR (x, y, z, u) h a
      · have hn := HS.out.1
        rw [hp] at hn
        have HN := Lib.hid (And.intro hn HB.out); clear hn hp
        go_wp2_with fail
        go_roundw
        case rel => exact ⟨k + 1, by go_num, by omega, HN⟩
        case measure => simp [intOf]; omega
      · have hy := HS.out.2 hp
        have HY := Lib.hid hy; clear hy hp
        go_wp2_with fail
        go_ret
        exact ⟨_, rfl, by rw [HY.out]; simp, HB.out⟩
    · obtain rfl : k = l.length := by omega
      have hn := hH.out
      rw [List.take_length] at hn
      have HN := Lib.hid hn; clear hn
      go_wp2
      go_ret
      exact ⟨-1, rfl, by rw [HN.out.1]; rfl, HN.out.2⟩

set_option maxHeartbeats 800000 in
theorem containsR_any (l : List Rs) (ad : Option Addr) (c : Nat) (h a : Int) (gh ga : Nat) (w : World) (hl : (l.length : Int) ≤ 1000000000000) (hr : Reads w ad (ress l)) (ch : IntAt w gh h) (ca : IntAt w ga a) :
    Calls Tryz.prog 50 #[.slice ad l.length c, .func (.func 51) #[] #[.pointer (some ⟨gh, 0, none⟩), .pointer (some ⟨ga, 0, none⟩)]] w fun e w' => e = .returned (.bool (hasG l h a)) ∧ Below w.heap.size w w' := by
  have HI := Lib.hid (indexR_any l ad c h a gh ga w hl hr ch ca); clear hr ch ca
  go_enter Tryz.func50, Tryz.ntmps50
  go_wp2_with fail
  refine HI.out.mono ?_; rintro e w3 ⟨i, rfl, hi, b3⟩
  have HB3 := Lib.hid (And.intro hi b3); clear b3 hi
  go_wp2_with fail
  go_ret
  exact ⟨ret_bool HB3.out.1, HB3.out.2⟩

set_option maxHeartbeats 800000 in
theorem hasGame_any (l : List Rs) (ad : Option Addr) (c : Nat) (h a : Int) (w : World) (hl : (l.length : Int) ≤ 1000000000000) (hr : Reads w ad (ress l)) :
    Calls Tryz.prog 29 #[.slice ad l.length c, .int .i64 h, .int .i64 a] w fun e w' => e = .returned (.bool (hasG l h a)) ∧ Below w.heap.size w w' := by
  have hb1 := Below.ofNew (w := w) (.cells #[.int .i64 h] 3)
  have hb2 := hb1.alloc hb1.size (.cells #[.int .i64 a] 3)
  have a1 := ObAt.new w 3 #[.int .i64 h]
  have a2 := ObAt.new (w.alloc (.cells #[.int .i64 h] 3)) 3 #[.int .i64 a]
  have a3 := a1.old (.cells #[.int .i64 a] 3)
  rw [World.size_alloc] at a2
  have i3 : IntAt _ _ h := ⟨a3.lt, a3.cell 0⟩
  have i2 : IntAt _ _ a := ⟨a2.lt, a2.cell 0⟩
  have HI := Lib.hid (containsR_any l ad c h a _ _ _ hl (hr.old hb2) i3 i2)
  have HB := Lib.hid hb2
  clear hb1 hb2 a1 a2 a3 i3 i2 hr
  go_enter Tryz.func29, Tryz.ntmps29
  go_wp2_with fail
  refine HI.out.mono ?_; rintro e w3 ⟨rfl, b3⟩
  have HB3 := Lib.hid (HB.out.trans (b3.mono HB.out.size)); clear b3
  go_wp2_with fail
  go_ret
  exact ⟨rfl, HB3.out⟩
end Go.Proofs.YtgkkjlpfkoplhaaGreatDoor.Lg

namespace Go.Proofs.YtgkkjlpfkoplhaaGreatDoor.Lg
open Go.RowKit
set_option linter.unusedVariables false
set_option linter.unusedSimpArgs false

theorem _root_.Go.Proofs.YtgkkjlpfkoplhaaGreatDoor.Reads.upto {w : World} {ad : Option Addr} {l : List Rs} (h : Reads w ad (ress l)) (k : Nat) : Reads w ad (ress (l.take k)) := by
  rcases h with h | ⟨b, off, rfl, hlt, hc⟩
  · have := congrArg List.length h
    rw [ress_len] at this
    have hl : l = [] := List.length_eq_zero_iff.1 (by simp at this; omega)
    subst hl; exact .inl (by simp [ress, flatR, ints])
  · refine .inr ⟨b, off, rfl, hlt, fun j hj => ?_⟩
    have hl := ress_len l
    have hk := ress_len (l.take k)
    rw [List.length_take] at hk
    rw [hc j (by omega)]
    have e : ress l = ress (l.take k) ++ ress (l.drop k) := by rw [← ress_append, List.take_append_drop]
    rw [e, List.getElem?_append_left hj]

/-- A league and a result of it, each in a block. -/
def IsS (w : World) (g gr : Nat) (t wn : Int) (v : Value) (x y z u : Int) (w' : World) : Prop :=
  ObAt w' g 32 #[.int .i64 t, .int .i64 wn, v] ∧ ObAt w' gr 61 #[.int .i64 x, .int .i64 y, .int .i64 z, .int .i64 u] ∧ Below w.heap.size w w'
def IsF (w : World) (g gr : Nat) (t wn : Int) (v : Value) (x y z u : Int) (w' : World) : Prop :=
  w'.cell? ⟨g, 0, none⟩ = some (.int .i64 t) ∧ w'.cell? ⟨g, 2, none⟩ = some v ∧ w'.cell? ⟨gr, 0, none⟩ = some (.int .i64 x) ∧ w'.cell? ⟨gr, 1, none⟩ = some (.int .i64 y) ∧ w'.cell? ⟨gr, 2, none⟩ = some (.int .i64 z) ∧ w'.cell? ⟨gr, 3, none⟩ = some (.int .i64 u) ∧ IsS w g gr t wn v x y z u w'
theorem IsS.full {w : World} {g gr : Nat} {t wn : Int} {v : Value} {x y z u : Int} {w' : World} (h : IsS w g gr t wn v x y z u w') : IsF w g gr t wn v x y z u w' :=
  ⟨h.1.cell 0, h.1.cell 2, h.2.1.cell 0, h.2.1.cell 1, h.2.1.cell 2, h.2.1.cell 3, h⟩
theorem IsS.keep {w : World} {g gr : Nat} {t wn : Int} {v : Value} {x y z u : Int} {w' w2 : World} (h : IsS w g gr t wn v x y z u w') (hb : Below w'.heap.size w' w2) : IsS w g gr t wn v x y z u w2 :=
  ⟨h.1.keep hb, h.2.1.keep hb, h.2.2.trans (hb.mono h.2.2.size)⟩

set_option maxHeartbeats 3200000 in
set_option maxRecDepth 100000 in
theorem isLeague_any (t wn : Int) (l : List Rs) (ad : Option Addr) (c : Nat) (w : World) (hl : (l.length : Int) ≤ 1000000000000) (hlc : l.length ≤ c) (hr : Reads w ad (ress l)) :
    Calls Tryz.prog 17 #[.agg #[.int .i64 t, .int .i64 wn, .slice ad l.length c]] w fun e w' => e = .returned (.bool (goodL t wn l)) ∧ Below w.heap.size w w' := by
  cases hh : headL t wn l.length
  · rw [goodL_head hh]
    have hn : ¬ (2 ≤ t ∧ t ≤ 8 ∧ 2 ≤ wn ∧ wn ≤ 3 ∧ (l.length : Int) ≤ 56) := by
      rintro ⟨h1, h2, h3, h4, h5⟩
      simp [headL, inR, h1, h2, h3, h4] at hh
      omega
    clear hh hr
    by_cases h1 : 2 ≤ t
    · by_cases h2 : t ≤ 8
      · by_cases h3 : 2 ≤ wn
        · by_cases h4 : wn ≤ 3
          · have h5 : 56 < (l.length : Int) := by omega
            clear hn
            go_enter Tryz.func17, Tryz.ntmps17
            go_wp2
            go_ret
            exact ⟨rfl, by (repeat (first | exact Below.refl _ _ | exact ‹Below _ _ _› | refine Below.drew ?_ | refine Below.alloc ?_ (by first | omega | (simp; done) | (simp; omega)) _ | refine Below.setCell ?_ (by first | omega | (simp; done) | (simp; omega)) _ | refine Below.trans ?_ (Below.mono ‹Below _ _ _› (by first | omega | (simp; done) | (simp; omega)))))⟩
          · clear hn
            go_enter Tryz.func17, Tryz.ntmps17
            go_wp2
            go_ret
            exact ⟨rfl, by (repeat (first | exact Below.refl _ _ | exact ‹Below _ _ _› | refine Below.drew ?_ | refine Below.alloc ?_ (by first | omega | (simp; done) | (simp; omega)) _ | refine Below.setCell ?_ (by first | omega | (simp; done) | (simp; omega)) _ | refine Below.trans ?_ (Below.mono ‹Below _ _ _› (by first | omega | (simp; done) | (simp; omega)))))⟩
        · clear hn
          go_enter Tryz.func17, Tryz.ntmps17
          go_wp2
          go_ret
          exact ⟨rfl, by (repeat (first | exact Below.refl _ _ | exact ‹Below _ _ _› | refine Below.drew ?_ | refine Below.alloc ?_ (by first | omega | (simp; done) | (simp; omega)) _ | refine Below.setCell ?_ (by first | omega | (simp; done) | (simp; omega)) _ | refine Below.trans ?_ (Below.mono ‹Below _ _ _› (by first | omega | (simp; done) | (simp; omega)))))⟩
      · clear hn
        go_enter Tryz.func17, Tryz.ntmps17
        go_wp2
        go_ret
        exact ⟨rfl, by (repeat (first | exact Below.refl _ _ | exact ‹Below _ _ _› | refine Below.drew ?_ | refine Below.alloc ?_ (by first | omega | (simp; done) | (simp; omega)) _ | refine Below.setCell ?_ (by first | omega | (simp; done) | (simp; omega)) _ | refine Below.trans ?_ (Below.mono ‹Below _ _ _› (by first | omega | (simp; done) | (simp; omega)))))⟩
    · clear hn
      go_enter Tryz.func17, Tryz.ntmps17
      go_wp2
      go_ret
      exact ⟨rfl, by (repeat (first | exact Below.refl _ _ | exact ‹Below _ _ _› | refine Below.drew ?_ | refine Below.alloc ?_ (by first | omega | (simp; done) | (simp; omega)) _ | refine Below.setCell ?_ (by first | omega | (simp; done) | (simp; omega)) _ | refine Below.trans ?_ (Below.mono ‹Below _ _ _› (by first | omega | (simp; done) | (simp; omega)))))⟩
  · have hb : 2 ≤ t ∧ t ≤ 8 ∧ 2 ≤ wn ∧ wn ≤ 3 ∧ (l.length : Int) ≤ 56 := by simp [headL, inR] at hh; omega
    obtain ⟨h1, h2, h3, h4, h5⟩ := hb
    have HH := Lib.hid hh; clear hh
    have HR := Lib.hid hr; clear hr
    have HB0 := Lib.hid (Below.ofNew (w := w) (.cells #[.int .i64 t, .int .i64 wn, .slice ad l.length c] 32))
    have HA := Lib.hid (ObAt.new w 32 #[.int .i64 t, .int .i64 wn, .slice ad l.length c])
    go_enter Tryz.func17, Tryz.ntmps17
    go_wp2_with fail
    go_loopw [32] (fun i wr => ∃ k : Nat, i = .int .i64 k ∧ k ≤ l.length ∧ Hid (okTo t l k = true ∧ ObAt wr w.heap.size 32 #[.int .i64 t, .int .i64 wn, .slice ad l.length c] ∧ Below w.heap.size w wr)) (fun i _ => l.length - (intOf i).toNat)
    case atStart => exact ⟨0, rfl, Nat.zero_le _, rfl, HA.out, HB0.out⟩
    case round =>
      clear HA HB0
      obtain ⟨k, rfl, hk, hH⟩ := hrel
      by_cases hlt : k < l.length
      · have b1 : (k : Int) < (l.length : Int) := by omega
        obtain ⟨b, off, ha, _, hc⟩ := rcells_of_reads (HR.out.old hH.out.2.2) (by omega)
        subst ha
        obtain ⟨c0, c1, c2, c3⟩ := hc k hlt
        clear hc
        have hkc : k ≤ c := by omega
        have hok := okTo_succ t l k
        rw [hH.out.1, Bool.true_and] at hok
        have hat : okAt t l k = (goodR t (l.getD k zR) && !hasG (l.take k) (l.getD k zR).1 (l.getD k zR).2.1) := rfl
        rw [hat] at hok
        have hno := fun e => goodL_not (t := t) (wn := wn) hlt (hat.trans e)
        have HO := Lib.hid (And.intro hok hno); clear hok hno hat
        generalize l.getD k zR = r at *
        obtain ⟨x, y, z, u⟩ := r
        simp only at c0 c1 c2 c3
        have hA := hH.out.2.1
        have hg := hA.lt
        obtain ⟨p0, p1, p2, -, -, -⟩ := hA.three
        have hS0 : IsS w w.heap.size wr.heap.size t wn (.slice (some ⟨b, off, none⟩) l.length c) x y z u (wr.alloc (.cells #[.int .i64 x, .int .i64 y, .int .i64 z, .int .i64 u] 61)).drew := ⟨(hA.old _).drew, (ObAt.new _ _ _).drew, (hH.out.2.2.alloc hH.out.2.2.size _).drew⟩
        have HS0 := Lib.hid hS0; clear hS0 hA
        go_wp2_with fail
        refine wp_region_held_drew (S := fun w' => w'.cell? ⟨w.heap.size, 0, none⟩ = some (.int .i64 t) ∧ w'.cell? ⟨w.heap.size, 2, none⟩ = some (.slice (some ⟨b, off, none⟩) l.length c) ∧ w'.cell? ⟨wr.heap.size, 0, none⟩ = some (.int .i64 x) ∧ w'.cell? ⟨wr.heap.size, 1, none⟩ = some (.int .i64 y) ∧ w'.cell? ⟨wr.heap.size, 2, none⟩ = some (.int .i64 z) ∧ w'.cell? ⟨wr.heap.size, 3, none⟩ = some (.int .i64 u) ∧ IsS w w.heap.size wr.heap.size t wn (.slice (some ⟨b, off, none⟩) l.length c) x y z u w') (by kernel_rfl) HS0.out.full (fun hHeld => ?_)
        (refine wpAnyH_take (i := 0) (v := ?_) rfl (by kernel_rfl) (by kernel_rfl) (by kernel_rfl) (fun _ _ _ h => h) (Or.inl ⟨by kernel_rfl, ?_⟩) (by assumption) ?_; rotate_left; focus (intro w hSw; (try dsimp only at hSw); go_simp; try with_reducible rfl); (try simp only [List.getElem_toArray, List.getElem_cons_succ, List.getElem_cons_zero, Act.put, List.setIfInBounds_toArray, List.set_cons_zero, List.set_cons_succ])); (refine wpAnyH_take (i := 1) (v := ?_) rfl (by kernel_rfl) (by kernel_rfl) (by kernel_rfl) (fun _ _ _ h => h) (Or.inl ⟨by kernel_rfl, ?_⟩) (by assumption) ?_; rotate_left; focus (intro w hSw; (try dsimp only at hSw); go_simp; try with_reducible rfl); (try simp only [List.getElem_toArray, List.getElem_cons_succ, List.getElem_cons_zero, Act.put, List.setIfInBounds_toArray, List.set_cons_zero, List.set_cons_succ])); (refine wpAnyH_take (i := 2) (v := ?_) rfl (by kernel_rfl) (by kernel_rfl) (by kernel_rfl) (fun _ _ _ h => h) (Or.inl ⟨by kernel_rfl, ?_⟩) (by assumption) ?_; rotate_left; focus (intro w hSw; (try dsimp only at hSw); go_simp; try with_reducible rfl); (try simp only [List.getElem_toArray, List.getElem_cons_succ, List.getElem_cons_zero, Act.put, List.setIfInBounds_toArray, List.set_cons_zero, List.set_cons_succ]))
        refine wpAnyH_ready (rs := [3]) (by kernel_rfl) (by simp) ?_; refine AllReadyH.cons rfl (fun K hK => ?_) AllReadyH.nil
        go_simp
        go_at_call 28
        refine (isResult_any x y z u t _).mono ?_; rintro e w5 ⟨rfl, b5⟩
        have HS5 := Lib.hid (HS0.out.keep b5); clear b5 HS0 hHeld
        go_wp2_with fail
        cases hq : goodR t (x, y, z, u)
        · have HO2 := Lib.hid (HO.out.2 (by rw [hq]; rfl))
          clear hq
          first
            | refine hK.out _ _ HS5.out.full (fun hHeld => ?_)
            | refine hK _ _ HS5.out.full (fun hHeld => ?_)
          clear hK K
          (try simp only [List.getElem_toArray, List.getElem_cons_succ, List.getElem_cons_zero, Act.put, List.setIfInBounds_toArray, List.set_cons_zero, List.set_cons_succ])
          (refine wpAnyH_take (i := 4) (v := ?_) rfl (by kernel_rfl) (by kernel_rfl) (by kernel_rfl) (fun _ _ _ h => h) (Or.inl ⟨by kernel_rfl, ?_⟩) (by assumption) ?_; rotate_left; focus (intro w hSw; (try dsimp only at hSw); go_simp; try with_reducible rfl); (try simp only [List.getElem_toArray, List.getElem_cons_succ, List.getElem_cons_zero, Act.put, List.setIfInBounds_toArray, List.set_cons_zero, List.set_cons_succ])); (refine wpAnyH_take (i := 5) (v := ?_) rfl (by kernel_rfl) (by kernel_rfl) (by kernel_rfl) (fun _ _ _ h => h) (Or.inl ⟨by kernel_rfl, ?_⟩) (by assumption) ?_; rotate_left; focus (intro w hSw; (try dsimp only at hSw); go_simp; try with_reducible rfl); (try simp only [List.getElem_toArray, List.getElem_cons_succ, List.getElem_cons_zero, Act.put, List.setIfInBounds_toArray, List.set_cons_zero, List.set_cons_succ]))
          (refine wpAnyH_take (i := 6) (v := undef) rfl (by kernel_rfl) (by kernel_rfl) (by kernel_rfl) (fun _ _ _ h => h) (Or.inr ⟨by kernel_rfl, rfl⟩) (by assumption) ?_; (try simp only [List.getElem_toArray, List.getElem_cons_succ, List.getElem_cons_zero, Act.put, List.setIfInBounds_toArray, List.set_cons_zero, List.set_cons_succ])); (refine wpAnyH_take (i := 7) (v := undef) rfl (by kernel_rfl) (by kernel_rfl) (by kernel_rfl) (fun _ _ _ h => h) (Or.inr ⟨by kernel_rfl, rfl⟩) (by assumption) ?_; (try simp only [List.getElem_toArray, List.getElem_cons_succ, List.getElem_cons_zero, Act.put, List.setIfInBounds_toArray, List.set_cons_zero, List.set_cons_succ])); (refine wpAnyH_take (i := 8) (v := undef) rfl (by kernel_rfl) (by kernel_rfl) (by kernel_rfl) (fun _ _ _ h => h) (Or.inr ⟨by kernel_rfl, rfl⟩) (by assumption) ?_; (try simp only [List.getElem_toArray, List.getElem_cons_succ, List.getElem_cons_zero, Act.put, List.setIfInBounds_toArray, List.set_cons_zero, List.set_cons_succ])); (refine wpAnyH_take (i := 9) (v := undef) rfl (by kernel_rfl) (by kernel_rfl) (by kernel_rfl) (fun _ _ _ h => h) (Or.inr ⟨by kernel_rfl, rfl⟩) (by assumption) ?_; (try simp only [List.getElem_toArray, List.getElem_cons_succ, List.getElem_cons_zero, Act.put, List.setIfInBounds_toArray, List.set_cons_zero, List.set_cons_succ])); (refine wpAnyH_take (i := 10) (v := undef) rfl (by kernel_rfl) (by kernel_rfl) (by kernel_rfl) (fun _ _ _ h => h) (Or.inr ⟨by kernel_rfl, rfl⟩) (by assumption) ?_; (try simp only [List.getElem_toArray, List.getElem_cons_succ, List.getElem_cons_zero, Act.put, List.setIfInBounds_toArray, List.set_cons_zero, List.set_cons_succ])); (refine wpAnyH_take (i := 11) (v := undef) rfl (by kernel_rfl) (by kernel_rfl) (by kernel_rfl) (fun _ _ _ h => h) (Or.inr ⟨by kernel_rfl, rfl⟩) (by assumption) ?_; (try simp only [List.getElem_toArray, List.getElem_cons_succ, List.getElem_cons_zero, Act.put, List.setIfInBounds_toArray, List.set_cons_zero, List.set_cons_succ])); (refine wpAnyH_take (i := 12) (v := undef) rfl (by kernel_rfl) (by kernel_rfl) (by kernel_rfl) (fun _ _ _ h => h) (Or.inr ⟨by kernel_rfl, rfl⟩) (by assumption) ?_; (try simp only [List.getElem_toArray, List.getElem_cons_succ, List.getElem_cons_zero, Act.put, List.setIfInBounds_toArray, List.set_cons_zero, List.set_cons_succ])); (refine wpAnyH_take (i := 13) (v := undef) rfl (by kernel_rfl) (by kernel_rfl) (by kernel_rfl) (fun _ _ _ h => h) (Or.inr ⟨by kernel_rfl, rfl⟩) (by assumption) ?_; (try simp only [List.getElem_toArray, List.getElem_cons_succ, List.getElem_cons_zero, Act.put, List.setIfInBounds_toArray, List.set_cons_zero, List.set_cons_succ])); (refine wpAnyH_take (i := 14) (v := undef) rfl (by kernel_rfl) (by kernel_rfl) (by kernel_rfl) (fun _ _ _ h => h) (Or.inr ⟨by kernel_rfl, rfl⟩) (by assumption) ?_; (try simp only [List.getElem_toArray, List.getElem_cons_succ, List.getElem_cons_zero, Act.put, List.setIfInBounds_toArray, List.set_cons_zero, List.set_cons_succ]))
          (refine wpAnyH_take (i := 15) (v := ?_) rfl (by kernel_rfl) (by kernel_rfl) (by kernel_rfl) (fun _ _ _ h => h) (Or.inl ⟨by kernel_rfl, ?_⟩) (by assumption) ?_; rotate_left; focus (intro w hSw; (try dsimp only at hSw); go_simp; try with_reducible rfl); (try simp only [List.getElem_toArray, List.getElem_cons_succ, List.getElem_cons_zero, Act.put, List.setIfInBounds_toArray, List.set_cons_zero, List.set_cons_succ]))
          refine wpAnyH_done (by kernel_rfl) ?_ _
          clear hHeld
          go_wp2_with fail
          go_ret
          exact ⟨ret_bool HO2.out.symm, HS5.out.2.2⟩
        · have HO2 := Lib.hid (HO.out.1)
          have HQ := Lib.hid hq; clear hq
          first
            | refine hK.out _ _ HS5.out.full (fun hHeld => ?_)
            | refine hK _ _ HS5.out.full (fun hHeld => ?_)
          clear hK K
          (try simp only [List.getElem_toArray, List.getElem_cons_succ, List.getElem_cons_zero, Act.put, List.setIfInBounds_toArray, List.set_cons_zero, List.set_cons_succ])
          (refine wpAnyH_take (i := 4) (v := ?_) rfl (by kernel_rfl) (by kernel_rfl) (by kernel_rfl) (fun _ _ _ h => h) (Or.inl ⟨by kernel_rfl, ?_⟩) (by assumption) ?_; rotate_left; focus (intro w hSw; (try dsimp only at hSw); go_simp; try with_reducible rfl); (try simp only [List.getElem_toArray, List.getElem_cons_succ, List.getElem_cons_zero, Act.put, List.setIfInBounds_toArray, List.set_cons_zero, List.set_cons_succ])); (refine wpAnyH_take (i := 5) (v := ?_) rfl (by kernel_rfl) (by kernel_rfl) (by kernel_rfl) (fun _ _ _ h => h) (Or.inl ⟨by kernel_rfl, ?_⟩) (by assumption) ?_; rotate_left; focus (intro w hSw; (try dsimp only at hSw); go_simp; try with_reducible rfl); (try simp only [List.getElem_toArray, List.getElem_cons_succ, List.getElem_cons_zero, Act.put, List.setIfInBounds_toArray, List.set_cons_zero, List.set_cons_succ])); (refine wpAnyH_take (i := 6) (v := ?_) rfl (by kernel_rfl) (by kernel_rfl) (by kernel_rfl) (fun _ _ _ h => h) (Or.inl ⟨by kernel_rfl, ?_⟩) (by assumption) ?_; rotate_left; focus (intro w hSw; (try dsimp only at hSw); go_simp; try with_reducible rfl); (try simp only [List.getElem_toArray, List.getElem_cons_succ, List.getElem_cons_zero, Act.put, List.setIfInBounds_toArray, List.set_cons_zero, List.set_cons_succ])); (refine wpAnyH_take (i := 7) (v := ?_) rfl (by kernel_rfl) (by kernel_rfl) (by kernel_rfl) (fun _ _ _ h => h) (Or.inl ⟨by kernel_rfl, ?_⟩) (by assumption) ?_; rotate_left; focus (intro w hSw; (try dsimp only at hSw); go_simp; try with_reducible rfl); (try simp only [List.getElem_toArray, List.getElem_cons_succ, List.getElem_cons_zero, Act.put, List.setIfInBounds_toArray, List.set_cons_zero, List.set_cons_succ])); (refine wpAnyH_take (i := 8) (v := ?_) rfl (by kernel_rfl) (by kernel_rfl) (by kernel_rfl) (fun _ _ _ h => h) (Or.inl ⟨by kernel_rfl, ?_⟩) (by assumption) ?_; rotate_left; focus (intro w hSw; (try dsimp only at hSw); go_simp; try with_reducible rfl); (try simp only [List.getElem_toArray, List.getElem_cons_succ, List.getElem_cons_zero, Act.put, List.setIfInBounds_toArray, List.set_cons_zero, List.set_cons_succ])); (refine wpAnyH_take (i := 9) (v := ?_) rfl (by kernel_rfl) (by kernel_rfl) (by kernel_rfl) (fun _ _ _ h => h) (Or.inl ⟨by kernel_rfl, ?_⟩) (by assumption) ?_; rotate_left; focus (intro w hSw; (try dsimp only at hSw); go_simp; try with_reducible rfl); (try simp only [List.getElem_toArray, List.getElem_cons_succ, List.getElem_cons_zero, Act.put, List.setIfInBounds_toArray, List.set_cons_zero, List.set_cons_succ])); (refine wpAnyH_take (i := 10) (v := ?_) rfl (by kernel_rfl) (by kernel_rfl) (by kernel_rfl) (fun _ _ _ h => h) (Or.inl ⟨by kernel_rfl, ?_⟩) (by assumption) ?_; rotate_left; focus (intro w hSw; (try dsimp only at hSw); go_simp; try with_reducible rfl); (try simp only [List.getElem_toArray, List.getElem_cons_succ, List.getElem_cons_zero, Act.put, List.setIfInBounds_toArray, List.set_cons_zero, List.set_cons_succ])); (refine wpAnyH_take (i := 11) (v := ?_) rfl (by kernel_rfl) (by kernel_rfl) (by kernel_rfl) (fun _ _ _ h => h) (Or.inl ⟨by kernel_rfl, ?_⟩) (by assumption) ?_; rotate_left; focus (intro w hSw; (try dsimp only at hSw); go_simp; try with_reducible rfl); (try simp only [List.getElem_toArray, List.getElem_cons_succ, List.getElem_cons_zero, Act.put, List.setIfInBounds_toArray, List.set_cons_zero, List.set_cons_succ])); (refine wpAnyH_take (i := 12) (v := ?_) rfl (by kernel_rfl) (by kernel_rfl) (by kernel_rfl) (fun _ _ _ h => h) (Or.inl ⟨by kernel_rfl, ?_⟩) (by assumption) ?_; rotate_left; focus (intro w hSw; (try dsimp only at hSw); go_simp; try with_reducible rfl); (try simp only [List.getElem_toArray, List.getElem_cons_succ, List.getElem_cons_zero, Act.put, List.setIfInBounds_toArray, List.set_cons_zero, List.set_cons_succ])); (refine wpAnyH_take (i := 13) (v := ?_) rfl (by kernel_rfl) (by kernel_rfl) (by kernel_rfl) (fun _ _ _ h => h) (Or.inl ⟨by kernel_rfl, ?_⟩) (by assumption) ?_; rotate_left; focus (intro w hSw; (try dsimp only at hSw); go_simp; try with_reducible rfl); (try simp only [List.getElem_toArray, List.getElem_cons_succ, List.getElem_cons_zero, Act.put, List.setIfInBounds_toArray, List.set_cons_zero, List.set_cons_succ]))
          refine wpAnyH_ready (rs := [14]) (by kernel_rfl) (by simp) ?_; refine AllReadyH.cons rfl (fun K hK => ?_) AllReadyH.nil
          go_simp
          go_at_call 29
          have hcl := hasGame_any (l.take k) (some ⟨b, off, none⟩) c x y _ (by rw [List.length_take]; omega) ((HR.out.old HS5.out.2.2).upto k)
          rw [List.length_take, Nat.min_eq_left hk] at hcl
          refine hcl.mono ?_; rintro e w6 ⟨rfl, b6⟩
          clear hcl
          have HS6 := Lib.hid (HS5.out.keep b6); clear b6 HS5 hHeld
          go_wp2_with fail
          cases hq2 : hasG (l.take k) x y
          · have HO3 : Hid (okTo t l (k + 1) = true) := by have h := HO2.out; rw [hq2, HQ.out] at h; exact h
            clear hq2 HO2
            first
              | refine hK.out _ _ HS6.out.full (fun hHeld => ?_)
              | refine hK _ _ HS6.out.full (fun hHeld => ?_)
            clear hK K
            (try simp only [List.getElem_toArray, List.getElem_cons_succ, List.getElem_cons_zero, Act.put, List.setIfInBounds_toArray, List.set_cons_zero, List.set_cons_succ])
            (refine wpAnyH_take (i := 15) (v := ?_) rfl (by kernel_rfl) (by kernel_rfl) (by kernel_rfl) (fun _ _ _ h => h) (Or.inl ⟨by kernel_rfl, ?_⟩) (by assumption) ?_; rotate_left; focus (intro w hSw; (try dsimp only at hSw); go_simp; try with_reducible rfl); (try simp only [List.getElem_toArray, List.getElem_cons_succ, List.getElem_cons_zero, Act.put, List.setIfInBounds_toArray, List.set_cons_zero, List.set_cons_succ]))
            refine wpAnyH_done (by kernel_rfl) ?_ _
            clear hHeld
            go_wp2_with fail
            go_roundw
            case rel => exact ⟨k + 1, by go_num, by omega, Lib.hid ⟨HO3.out, HS6.out.1, HS6.out.2.2⟩⟩
            case measure => simp [intOf]; omega
          · have HO3 : Hid (goodL t wn l = false) := HO.out.2 (by rw [HQ.out, hq2]; rfl)
            clear hq2 HO2
            first
              | refine hK.out _ _ HS6.out.full (fun hHeld => ?_)
              | refine hK _ _ HS6.out.full (fun hHeld => ?_)
            clear hK K
            (try simp only [List.getElem_toArray, List.getElem_cons_succ, List.getElem_cons_zero, Act.put, List.setIfInBounds_toArray, List.set_cons_zero, List.set_cons_succ])
            (refine wpAnyH_take (i := 15) (v := ?_) rfl (by kernel_rfl) (by kernel_rfl) (by kernel_rfl) (fun _ _ _ h => h) (Or.inl ⟨by kernel_rfl, ?_⟩) (by assumption) ?_; rotate_left; focus (intro w hSw; (try dsimp only at hSw); go_simp; try with_reducible rfl); (try simp only [List.getElem_toArray, List.getElem_cons_succ, List.getElem_cons_zero, Act.put, List.setIfInBounds_toArray, List.set_cons_zero, List.set_cons_succ]))
            refine wpAnyH_done (by kernel_rfl) ?_ _
            clear hHeld
            go_wp2_with fail
            go_ret
            exact ⟨ret_bool HO3.out.symm, HS6.out.2.2⟩
      · obtain rfl : k = l.length := by omega
        have hn : goodL t wn l = true := goodL_of HH.out hH.out.1
        have HN := Lib.hid hn; clear hn
        go_wp2
        go_ret
        exact ⟨ret_bool HN.out.symm, hH.out.2.2⟩
end Go.Proofs.YtgkkjlpfkoplhaaGreatDoor.Lg

namespace Go.Proofs.YtgkkjlpfkoplhaaGreatDoor.Lg
open Go.RowKit
set_option linter.unusedVariables false
set_option linter.unusedSimpArgs false

set_option maxHeartbeats 3200000 in
set_option maxRecDepth 100000 in
theorem lgGood_any (t wn : Int) (l : List Rs) (ad : Option Addr) (c : Nat) (w : World) (hl : (l.length : Int) ≤ 1000000000000) (hlc : l.length ≤ c) (hr : Reads w ad (ress l)) :
    Calls Tryz.prog 24 #[.agg #[.int .i64 t, .int .i64 wn, .slice ad l.length c]] w fun e w' => e = .returned (.bool (goodL t wn l)) ∧ Below w.heap.size w w' := by
  cases h0 : inR t 2 8
  · rw [goodL_head (by simp [headL, h0])]
    have H0 := Lib.hid h0; clear h0 hr
    go_enter Tryz.func24, Tryz.ntmps24
    go_wp2_with fail
    refine (l1In_any _ _ _ _).mono ?_; rintro e w1 ⟨rfl, rfl⟩
    rw [H0.out]
    go_wp2_with fail
    go_ret
    exact ⟨rfl, by (repeat (first | exact Below.refl _ _ | exact ‹Below _ _ _› | refine Below.drew ?_ | refine Below.alloc ?_ (by first | omega | (simp; done) | (simp; omega)) _ | refine Below.setCell ?_ (by first | omega | (simp; done) | (simp; omega)) _ | refine Below.trans ?_ (Below.mono ‹Below _ _ _› (by first | omega | (simp; done) | (simp; omega)))))⟩
  have H0 := Lib.hid h0
  cases h1 : inR wn 2 3
  · rw [goodL_head (by simp [headL, h1])]
    have H1 := Lib.hid h1; clear h1 hr h0
    go_enter Tryz.func24, Tryz.ntmps24
    go_wp2_with fail
    refine (l1In_any _ _ _ _).mono ?_; rintro e w1 ⟨rfl, rfl⟩
    rw [H0.out]
    go_wp2_with fail
    refine (l1In_any _ _ _ _).mono ?_; rintro e w2 ⟨rfl, rfl⟩
    rw [H1.out]
    go_wp2_with fail
    go_ret
    exact ⟨rfl, by (repeat (first | exact Below.refl _ _ | exact ‹Below _ _ _› | refine Below.drew ?_ | refine Below.alloc ?_ (by first | omega | (simp; done) | (simp; omega)) _ | refine Below.setCell ?_ (by first | omega | (simp; done) | (simp; omega)) _ | refine Below.trans ?_ (Below.mono ‹Below _ _ _› (by first | omega | (simp; done) | (simp; omega)))))⟩
  have H1 := Lib.hid h1
  by_cases h5 : 56 < (l.length : Int)
  · rw [goodL_head (by simp [headL]; omega)]
    clear h0 h1 hr
    go_enter Tryz.func24, Tryz.ntmps24
    go_wp2_with fail
    refine (l1In_any _ _ _ _).mono ?_; rintro e w1 ⟨rfl, rfl⟩
    rw [H0.out]
    go_wp2_with fail
    refine (l1In_any _ _ _ _).mono ?_; rintro e w2 ⟨rfl, rfl⟩
    rw [H1.out]
    go_wp2_with fail
    go_ret
    exact ⟨rfl, by (repeat (first | exact Below.refl _ _ | exact ‹Below _ _ _› | refine Below.drew ?_ | refine Below.alloc ?_ (by first | omega | (simp; done) | (simp; omega)) _ | refine Below.setCell ?_ (by first | omega | (simp; done) | (simp; omega)) _ | refine Below.trans ?_ (Below.mono ‹Below _ _ _› (by first | omega | (simp; done) | (simp; omega)))))⟩
  have hh : headL t wn l.length = true := by simp only [headL, h0, h1]; simp; omega
  have ht : 2 ≤ t ∧ t ≤ 8 := by simpa [inR] using h0
  clear h0 h1
  have HH := Lib.hid hh; clear hh
  have HR := Lib.hid hr; clear hr
  have HB0 := Lib.hid (Below.ofNew (w := w) (.cells #[.int .i64 t, .int .i64 wn, .slice ad l.length c] 32))
  have HA := Lib.hid (ObAt.new w 32 #[.int .i64 t, .int .i64 wn, .slice ad l.length c])
  go_enter Tryz.func24, Tryz.ntmps24
  go_wp2_with fail
  refine (l1In_any _ _ _ _).mono ?_; rintro e w1 ⟨rfl, rfl⟩
  rw [H0.out]
  go_wp2_with fail
  refine (l1In_any _ _ _ _).mono ?_; rintro e w2 ⟨rfl, rfl⟩
  rw [H1.out]
  go_wp2_with fail
  go_loopw [26] (fun i wr => ∃ k : Nat, i = .int .i64 k ∧ k ≤ l.length ∧ Hid (okTo t l k = true ∧ ObAt wr w.heap.size 32 #[.int .i64 t, .int .i64 wn, .slice ad l.length c] ∧ Below w.heap.size w wr)) (fun i _ => l.length - (intOf i).toNat)
  case atStart => exact ⟨0, rfl, Nat.zero_le _, rfl, HA.out, HB0.out⟩
  case round =>
    clear HA HB0
    obtain ⟨k, rfl, hk, hH⟩ := hrel
    by_cases hlt : k < l.length
    · have b1 : (k : Int) < (l.length : Int) := by omega
      obtain ⟨b, off, ha, _, hc⟩ := rcells_of_reads (HR.out.old hH.out.2.2) (by omega)
      subst ha
      obtain ⟨c0, c1, c2, c3⟩ := hc k hlt
      clear hc
      have hkc : k ≤ c := by omega
      have hok := okTo_succ t l k
      rw [hH.out.1, Bool.true_and] at hok
      have hat : okAt t l k = (goodR t (l.getD k zR) && !hasG (l.take k) (l.getD k zR).1 (l.getD k zR).2.1) := rfl
      rw [hat] at hok
      have hno := fun e => goodL_not (t := t) (wn := wn) hlt (hat.trans e)
      have HO := Lib.hid (And.intro hok hno); clear hok hno hat
      generalize l.getD k zR = r at *
      obtain ⟨x, y, z, u⟩ := r
      simp only at c0 c1 c2 c3
      have hA := hH.out.2.1
      have hg := hA.lt
      obtain ⟨p0, p1, p2, -, -, -⟩ := hA.three
      have HS0 : Hid (IsS w w.heap.size wr.heap.size t wn (.slice (some ⟨b, off, none⟩) l.length c) x y z u (wr.alloc (.cells #[.int .i64 x, .int .i64 y, .int .i64 z, .int .i64 u] 61))) := ⟨(hA.old _), (ObAt.new _ _ _), (hH.out.2.2.alloc hH.out.2.2.size _)⟩
      clear hA
      go_wp2_with fail
      refine (lgResult_any x y z u t ht _).mono ?_; rintro e w3 ⟨rfl, b3⟩
      have HS3 := Lib.hid (HS0.out.keep b3); clear b3 HS0 p0 p1 p2 c0 c1 c2 c3
      cases hq : goodR t (x, y, z, u)
      · have HF : Hid (goodL t wn l = false) := HO.out.2 (by rw [hq]; rfl)
        clear hq
        go_wp2_with fail
        go_ret
        exact ⟨ret_bool HF.out.symm, HS3.out.2.2⟩
      · have HQ := Lib.hid hq; clear hq
        obtain ⟨p0, p1, p2, -, -, -⟩ := HS3.out.1.three
        clear hH
        generalize hgr : wr.heap.size = gr at *
        have HGR := Lib.hid hgr; clear hgr
        go_wp2_with fail
        go_loopw [41] (fun i wr => ∃ j : Nat, i = .int .i64 j ∧ j ≤ k ∧ Hid (hasG (l.take j) x y = false ∧ IsS w w.heap.size gr t wn (.slice (some ⟨b, off, none⟩) l.length c) x y z u wr)) (fun i _ => k - (intOf i).toNat)
        case atStart => exact ⟨0, rfl, Nat.zero_le _, rfl, HS3.out⟩
        case round =>
          clear p0 p1 p2
          obtain ⟨j, rfl, hj, hJ⟩ := hrel
          by_cases hjk : j < k
          · have b2 : (j : Int) < (k : Int) := by omega
            obtain ⟨b', off', ha', _, hc'⟩ := rcells_of_reads (HR.out.old hJ.out.2.2.2) (by omega)
            simp only [Option.some.injEq, Addr.mk.injEq] at ha'
            obtain ⟨rfl, rfl, -⟩ := ha'
            obtain ⟨d0, d1, d2, d3⟩ := hc' j (by omega)
            clear hc'
            have hs := hasG_snoc l j (by omega) x y
            rw [hJ.out.1, Bool.false_or] at hs
            have hit := fun e => hasG_hit (l := l) (k := j) (n := k) (by omega) hjk (h := x) (a := y) e
            have HT := Lib.hid (And.intro hs hit); clear hs hit
            generalize l.getD j zR = q at *
            obtain ⟨x', y', z', u'⟩ := q
            simp only at d0 d1 d2 d3
            have hsz : gr < wr.heap.size := hJ.out.2.2.1.lt
            have HS4 : Hid (IsS w w.heap.size gr t wn (.slice (some ⟨b, off, none⟩) l.length c) x y z u (wr.alloc (.cells #[.int .i64 x', .int .i64 y', .int .i64 z', .int .i64 u'] 61))) := ⟨hJ.out.2.1.old _, hJ.out.2.2.1.old _, hJ.out.2.2.2.alloc hJ.out.2.2.2.size _⟩
            obtain ⟨r0, r1, r2, r3, -, -, -, -⟩ := hJ.out.2.2.1.four
            have hp : pairR (x', y', z', u') x y = (decide (x' = x) && decide (y' = y)) := rfl
            by_cases e1 : x' = x
            · by_cases e2 : y' = y
              · have q1 : (x' == x) = true := by simp [e1]
                have q2 : (y' == y) = true := by simp [e2]
                have HF : Hid (goodL t wn l = false) := HO.out.2 (by rw [HQ.out, HT.out.2 (by rw [hp]; simp [e1, e2])]; rfl)
                clear e1 e2 hp
                go_wp2_with fail
                go_ret
                exact ⟨ret_bool HF.out.symm, HS4.out.2.2⟩
              · have q1 : (x' == x) = true := by simp [e1]
                have q2 : (y' == y) = false := by simp [e2]
                have HN : Hid (hasG (l.take (j + 1)) x y = false) := Lib.hid (by have h := HT.out.1; rw [hp] at h; simpa [e1, e2] using h)
                clear e1 e2 hp
                go_wp2_with fail
                go_roundw
                case rel => exact ⟨j + 1, by go_num, by omega, Lib.hid ⟨HN.out, HS4.out⟩⟩
                case measure => simp [intOf]; omega
            · have q1 : (x' == x) = false := by simp [e1]
              have HN : Hid (hasG (l.take (j + 1)) x y = false) := Lib.hid (by have h := HT.out.1; rw [hp] at h; simpa [e1] using h)
              clear e1 hp
              go_wp2_with fail
              go_roundw
              case rel => exact ⟨j + 1, by go_num, by omega, Lib.hid ⟨HN.out, HS4.out⟩⟩
              case measure => simp [intOf]; omega
          · obtain rfl : j = k := by omega
            have HN : Hid (okTo t l (j + 1) = true) := by have h := HO.out.1; rw [HQ.out, hJ.out.1] at h; exact h
            go_wp2_with fail
            go_roundw
            case rel => exact ⟨j + 1, by go_num, by omega, Lib.hid ⟨HN.out, hJ.out.2.1, hJ.out.2.2.2⟩⟩
            case measure => simp [intOf]; omega
    · obtain rfl : k = l.length := by omega
      have hn : goodL t wn l = true := goodL_of HH.out hH.out.1
      have HN := Lib.hid hn; clear hn
      go_wp2
      go_ret
      exact ⟨ret_bool HN.out.symm, hH.out.2.2⟩
end Go.Proofs.YtgkkjlpfkoplhaaGreatDoor.Lg
