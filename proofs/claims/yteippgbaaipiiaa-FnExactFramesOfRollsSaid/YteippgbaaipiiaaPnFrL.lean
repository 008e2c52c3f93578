/-
  Pins: FramesOfRolls: the model's, and what the law asks.
-/
import Derived.Test.YteippgbaaipiiaaPnFr
namespace Go.Proofs.Yteippgbaaipiiaa
open Go.RowKit
set_option linter.unusedVariables false
set_option linter.unusedSimpArgs false

/-- What the model's FramesOfRolls hands back: rows that are read. -/
def RdD (B : Nat) (D : List (List Int)) (v : Value) (wr : World) : Prop :=
  ∃ vs, wr.ownsRow B 22 1 v D.length vs ∧ Heads vs D ∧ ∀ j, j < D.length → Reads wr (some ⟨blk vs j, 0, none⟩) (ints (D.getD j [])) ∧ blk vs j < wr.heap.size
def FrC (B : Nat) (D : List (List Int)) (v : Value) (wr : World) : Prop :=
  ∃ vs, wr.ownsRow B 22 1 v D.length vs ∧ Heads vs D ∧ (∀ j, j < D.length → PnAt wr (blk vs j) (D.getD j []) ∧ B ≤ blk vs j) ∧ Apart vs D
theorem FrD.c {w1 wr : World} {D : List (List Int)} {v : Value} (h : FrD w1 D v wr) : FrC w1.heap.size D v wr := by
  obtain ⟨vs, h1, h2, h3, h4, -⟩ := h
  exact ⟨vs, h1, h2, h3, h4⟩
theorem FrC.heap {B : Nat} {wr w' : World} {D : List (List Int)} {v : Value} (h : FrC B D v wr) (hb : ∀ b, B ≤ b → b < wr.heap.size → w'.heap[b]? = wr.heap[b]?) : FrC B D v w' := by
  obtain ⟨vs, h1, h2, h3, h4⟩ := h
  refine ⟨vs, owns_heap h1 (fun k e => hb k (owns_ge h1 e).1 (owns_ge h1 e).2), h2, fun j hj => ⟨?_, (h3 j hj).2⟩, h4⟩
  have := (h3 j hj).1.lt
  have h5 := (h3 j hj).1
  unfold PnAt at *
  rw [hb _ (h3 j hj).2 this]; exact h5
theorem FrC.keep {B : Nat} {wr w' : World} {D : List (List Int)} {v : Value} (h : FrC B D v wr) (hb : Below wr.heap.size wr w') : FrC B D v w' :=
  h.heap (fun b _ hl => hb.block b hl)
theorem FrC.rd {B : Nat} {wr : World} {D : List (List Int)} {v : Value} (h : FrC B D v wr) (hs : ∀ j, j < D.length → (D.getD j []).length ≤ 3) : RdD B D v wr := by
  obtain ⟨vs, h1, h2, h3, h4⟩ := h
  exact ⟨vs, h1, h2, fun j hj => ⟨(h3 j hj).1.reads (hs j hj), (h3 j hj).1.lt⟩⟩
theorem RdD.keep {B : Nat} {wr w' : World} {D : List (List Int)} {v : Value} (h : RdD B D v wr) (hb : Below wr.heap.size wr w') : RdD B D v w' := by
  obtain ⟨vs, h1, h2, h3⟩ := h
  have := hb.size
  exact ⟨vs, owns_below h1 hb, h2, fun j hj => ⟨(h3 j hj).1.old hb, by have := (h3 j hj).2; omega⟩⟩
theorem RdD.slice {B : Nat} {wr : World} {D : List (List Int)} {v : Value} (h : RdD B D v wr) : ∃ a c, v = .slice a D.length c := by
  obtain ⟨vs, h1, -⟩ := h
  obtain ⟨a, c, e, -⟩ := own_cap h1
  exact ⟨a, c, e⟩
theorem eqSS (D : List (List Int)) (hD : SmallD D) {B B' : Nat} (a a' : Option Addr) (c c' : Nat) (w : World) (h1 : RdD B D (.slice a D.length c) w) (h2 : RdD B' D (.slice a' D.length c') w) :
    Calls Try.prog 27 #[.slice a D.length c, .slice a' D.length c'] w fun e w' => e = .returned (.bool true) ∧ Below w.heap.size w w' := by
  obtain ⟨vs, o1, k1, q1⟩ := h1
  obtain ⟨us, o2, k2, q2⟩ := h2
  obtain ⟨x, y, e1, r1, -⟩ := Reads.own o1
  obtain ⟨x', y', e2, r2, -⟩ := Reads.own o2
  cases e1; cases e2
  exact eqIntSS_same D hD vs us _ _ _ _ w k1 k2 r1 r2 (fun j hj => (q1 j hj).1) (fun j hj => (q2 j hj).1)
theorem PnAt.writable {w : World} {g n : Nat} {bs : List Int} (h : PnAt w g bs) (hn : n ≤ 3) : Writable w (some ⟨g, 0, none⟩) n :=
  .inr ⟨g, 0, rfl, h.lt, fun j hj => ⟨by rw [Nat.zero_add, h.cell j (by omega)]; rfl, frozen_of_row w g _ _ _ h⟩⟩

/-- The marked rows of the program's result. -/
def MkD (D : List (List Int)) (k0 : Int) (v : Value) (w : World) : Prop :=
  ∃ vs a c, v = .slice a D.length c ∧ Heads vs D ∧ Reads w a vs ∧ Marked w vs D k0 D.length
theorem MkD.keep {D : List (List Int)} {k0 : Int} {v : Value} {w w' : World} (h : MkD D k0 v w) (hb : Below w.heap.size w w') : MkD D k0 v w' := by
  obtain ⟨vs, a, c, h1, h2, h3, h4⟩ := h
  exact ⟨vs, a, c, h1, h2, h3.old hb, fun j hj => (h4 j hj).old hb⟩
theorem markSS (D : List (List Int)) (hD : SmallD D) (hs : ∀ j, j < D.length → (D.getD j []).length ≤ 3) {B B0 : Nat} (hB : B0 ≤ B) (a : Option Addr) (c : Nat) (w : World) (h : FrC B D (.slice a D.length c) w) :
    Calls Try.prog 29 #[.slice a D.length c, .int .i64 1] w fun e w' => e = .returned (.int .i64 (1 + (offs D D.length : Nat))) ∧ MkD D 1 (.slice a D.length c) w' ∧ Below B0 w w' := by
  obtain ⟨vs, o1, k1, q1, ap⟩ := h
  obtain ⟨x, y, e1, r1, -⟩ := Reads.own o1
  cases e1
  have hne : ∀ b, blockOf a = some b → ∀ j, j < D.length → b ≠ blk vs j := fun b e j hj e2 =>
    owns_apart (q1 j hj).1 (by decide) o1 (by rw [own_block, e, e2])
  refine (markIntSS_any D hD vs a c B0 1 (by omega) (by omega) w k1 r1 hne ap (fun j hj => ⟨(q1 j hj).1.writable (hs j hj), by have := (q1 j hj).2; omega, (q1 j hj).1.lt⟩)).mono ?_
  rintro e w' ⟨rfl, h1, h2, h3⟩
  refine ⟨rfl, ⟨vs, a, c, rfl, k1, ?_, h1⟩, h3⟩
  rcases r1 with r1 | ⟨b, off, rfl, hlt, hc⟩
  · exact .inl r1
  · exact .inr ⟨b, off, rfl, Nat.lt_of_lt_of_le hlt h3.size, fun j hj => by rw [← hc j hj]; exact World.cell?_of_block (w := w) (h2 b (fun i hi => hne b rfl i hi))⟩
theorem heldSS (D : List (List Int)) (hD : SmallD D) (a : Option Addr) (c : Nat) (w : World) (h : MkD D 1 (.slice a D.length c) w) :
    Calls Try.prog 30 #[.slice a D.length c, .int .i64 1] w fun e w' => e = .returned (.int .i64 (1 + (offs D D.length : Nat))) ∧ w' = w := by
  obtain ⟨vs, x, y, e1, h2, h3, h4⟩ := h
  cases e1
  exact heldIntSS_any D hD vs a c 1 (by omega) (by omega) w h2 h3 h4

theorem row_head {w : World} {B n : Nat} {u : Value} {l : List Int} (h : w.ownsRow B 3 1 u n (ints l)) (hn : 1 ≤ n) : ∃ g c, u = .slice (some ⟨g, 0, none⟩) n c ∧ Reads w (some ⟨g, 0, none⟩) (ints l) ∧ g < w.heap.size := by
  obtain ⟨a, c, e, hr, -⟩ := Reads.own h
  obtain ⟨hl, ⟨hv, h2⟩ | ⟨g', cap, cur, hv, hb, hh, r⟩⟩ := h
  · omega
  · subst e
    cases hv
    exact ⟨g', _, rfl, hr, (Array.getElem?_eq_some_iff.1 hh).1⟩
theorem SplitD.rd {w : World} {B : Nat} {v : Value} {D : List (List Int)} (h : SplitD w B v D) (hn : ∀ j, j < D.length → 1 ≤ (D.getD j []).length) : RdD B D v w := by
  obtain ⟨vs, h1, h2, h3⟩ := h
  refine ⟨vs, h1, ⟨h2, fun j hj => ?_⟩, fun j hj => ?_⟩
  all_goals
    obtain ⟨u, q1, q2, -⟩ := h3 j hj
    obtain ⟨g, c, rfl, hr, hlt⟩ := row_head q2 (hn j hj)
    have hbk : blk vs j = g := by unfold blk; simp [List.getD_eq_getElem?_getD, q1, Value.ownBlock]
    rw [hbk]
  · exact ⟨c, q1⟩
  · exact ⟨hr, hlt⟩

def SpR (D : List (List Int)) (o : Bool) (w : World) (e : Ending) (w' : World) : Prop :=
  ∃ v, e = .returned (.tuple #[v, .bool o]) ∧ RdD w.heap.size D v w' ∧ Below w.heap.size w w'
theorem beg_ok (f : Int) (rolls : List Int) : SmallD (begV (goodR f rolls)) ∧ ∀ j, j < (begV (goodR f rolls)).length → (begV (goodR f rolls)).getD j [] ≠ [] ∧ ((begV (goodR f rolls)).getD j []).length ≤ 3 := by
  cases hq : goodR f rolls with
  | none => exact ⟨⟨by simp [begV], fun j hj => absurd hj (Nat.not_lt_zero _)⟩, fun j hj => absurd hj (Nat.not_lt_zero _)⟩
  | some s =>
    obtain ⟨F, rfl, h1, h2, hgm, hi, -⟩ := goodR_some hq
    have hl := begun_len hi
    have hb := fun k hk => begun_at hi (k := k) hk
    show SmallD (begunG s) ∧ ∀ j, j < (begunG s).length → (begunG s).getD j [] ≠ [] ∧ ((begunG s).getD j []).length ≤ 3
    refine ⟨⟨by omega, fun j hj => by have := (hb j hj).1.1; omega⟩, fun j hj => ⟨fun e => ?_, (hb j hj).1.1⟩⟩
    have := (hb j hj).2
    rw [e] at this; simp at this

set_option maxHeartbeats 1600000 in
theorem specFrames_any (f : Int) (rolls : List Int) (a : Option Addr) (c : Nat) (w : World) (hl : (rolls.length : Int) ≤ 1000000000000) (h : Reads w a (ints rolls)) :
    Calls Try.prog 25 #[.int .i64 f, .slice a rolls.length c] w fun e w' => SpR (begV (goodR f rolls)) (goodR f rolls).isSome w e w' := by
  have hg := boGood_any f rolls a c w hl h
  cases hq : goodR f rolls with
  | none =>
    rw [hq] at hg
    have HG := Lib.hid hg; clear hg h hq
    go_enter Try.func25, Try.ntmps25
    go_wp2_with fail
    refine HG.out.mono ?_; rintro e w1 ⟨rfl, b1⟩
    go_wp2_with fail
    refine bodyPost_ret (v := .tuple #[.slice none 0 0, .bool false]) (by simp [results, Try.results25, go_sem]) rfl ⟨_, rfl, ⟨[], ⟨rfl, .inl ⟨rfl, rfl⟩⟩, ⟨rfl, fun j hj => absurd hj (Nat.not_lt_zero _)⟩, fun j hj => absurd hj (Nat.not_lt_zero _)⟩, b1⟩
  | some s =>
    rw [hq] at hg
    obtain ⟨F, rfl, h1, h2, hgm, hi, -⟩ := goodR_some hq
    have hp := fun w' (hr : Reads w' a (ints rolls)) => boSplit_any F h1 h2 rolls s hgm a c w' hl hr
    have hne := fun k hk => (begun_at hi (k := k) hk).2
    have HP := Lib.hid hp; clear hp
    have HNE := Lib.hid hne; clear hne
    have HR := Lib.hid h; clear h
    have HG := Lib.hid hg; clear hg hq hgm hi
    go_enter Try.func25, Try.ntmps25
    go_wp2_with fail
    refine HG.out.mono ?_; rintro e w1 ⟨rfl, b1⟩
    have B1 := Lib.hid b1; clear b1
    go_wp2_with fail
    refine (HP.out _ (HR.out.old B1.out)).mono ?_; rintro e w2 ⟨v, rfl, hsp, b2⟩
    have B2 := Lib.hid (B1.out.trans (b2.mono B1.out.size)); clear b2
    have hrd := hsp.rd HNE.out
    have hrd2 : RdD w.heap.size (begunG s) v w2 := by
      obtain ⟨vs, o1, o2⟩ := hrd
      exact ⟨vs, owns_base o1 B1.out.size, o2⟩
    have HO := Lib.hid hrd2; clear hrd hrd2 hsp
    go_wp2_with fail
    refine bodyPost_ret (v := .tuple #[v, .bool true]) (by simp [results, Try.results25, go_sem]) rfl ⟨v, rfl, HO.out, B2.out⟩
end Go.Proofs.Yteippgbaaipiiaa
