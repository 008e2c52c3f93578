/-
  Goals: ScoresOn: what the law asks of rows of rows.
-/
import Derived.Test.YthbhhcpkilckkaaGoPlay
import Derived.Test.YthbhhcpkilckkaaGoSs
import Derived.Test.YthbhhcpkilckkaaGoRes
namespace Go.Proofs.Ythbhhcpkilckkaa
open Go.RowKit
set_option linter.unusedVariables false
set_option linter.unusedSimpArgs false

theorem RowAt.reads2 {w : World} {g : Nat} {e : TypeId} {cs : List Int} (h : RowAt w g e cs) : Reads w (some ⟨g, 0, none⟩) (ints cs) :=
  .inr ⟨g, 0, rfl, h.lt, fun j hj => by rw [ints_len] at hj; rw [Nat.zero_add, h.cell hj, ints_get cs j hj]⟩
/-- What the model's FramesOfRolls hands back: rows that are read. -/
def RdD (B : Nat) (D : List (List Int)) (v : Value) (wr : World) : Prop :=
  ∃ vs, wr.ownsRow B 22 1 v D.length vs ∧ Heads vs D ∧ ∀ j, j < D.length → Reads wr (some ⟨blk vs j, 0, none⟩) (ints (D.getD j [])) ∧ blk vs j < wr.heap.size
def FrC (B : Nat) (D : List (List Int)) (v : Value) (wr : World) : Prop :=
  ∃ vs, wr.ownsRow B 22 1 v D.length vs ∧ Heads vs D ∧ (∀ j, j < D.length → RowAt wr (blk vs j) 3 (D.getD j []) ∧ B ≤ blk vs j) ∧ Apart vs D
theorem FrC.heap {B : Nat} {wr w' : World} {D : List (List Int)} {v : Value} (h : FrC B D v wr) (hb : ∀ b, B ≤ b → b < wr.heap.size → w'.heap[b]? = wr.heap[b]?) : FrC B D v w' := by
  obtain ⟨vs, h1, h2, h3, h4⟩ := h
  refine ⟨vs, owns_heap h1 (fun k e => hb k (owns_ge h1 e).1 (owns_ge h1 e).2), h2, fun j hj => ⟨?_, (h3 j hj).2⟩, h4⟩
  have := (h3 j hj).1.lt
  have h5 := (h3 j hj).1
  unfold RowAt at *
  rw [hb _ (h3 j hj).2 this]; exact h5
theorem FrC.keep {B : Nat} {wr w' : World} {D : List (List Int)} {v : Value} (h : FrC B D v wr) (hb : Below wr.heap.size wr w') : FrC B D v w' :=
  h.heap (fun b _ hl => hb.block b hl)
theorem FrC.rd {B : Nat} {wr : World} {D : List (List Int)} {v : Value} (h : FrC B D v wr) (hs : ∀ j, j < D.length → (D.getD j []).length ≤ 3) : RdD B D v wr := by
  obtain ⟨vs, h1, h2, h3, h4⟩ := h
  exact ⟨vs, h1, h2, fun j hj => ⟨(h3 j hj).1.reads2, (h3 j hj).1.lt⟩⟩
theorem RdD.keep {B : Nat} {wr w' : World} {D : List (List Int)} {v : Value} (h : RdD B D v wr) (hb : Below wr.heap.size wr w') : RdD B D v w' := by
  obtain ⟨vs, h1, h2, h3⟩ := h
  have := hb.size
  exact ⟨vs, owns_below h1 hb, h2, fun j hj => ⟨(h3 j hj).1.old hb, by have := (h3 j hj).2; omega⟩⟩
theorem RdD.slice {B : Nat} {wr : World} {D : List (List Int)} {v : Value} (h : RdD B D v wr) : ∃ a c, v = .slice a D.length c := by
  obtain ⟨vs, h1, -⟩ := h
  obtain ⟨a, c, e, -⟩ := own_cap h1
  exact ⟨a, c, e⟩
theorem eqSS (D : List (List Int)) (hD : SmallD D) {B B' : Nat} (a a' : Option Addr) (c c' : Nat) (w : World) (h1 : RdD B D (.slice a D.length c) w) (h2 : RdD B' D (.slice a' D.length c') w) :
    Calls Try.prog 46 #[.slice a D.length c, .slice a' D.length c'] w fun e w' => e = .returned (.bool true) ∧ Below w.heap.size w w' := by
  obtain ⟨vs, o1, k1, q1⟩ := h1
  obtain ⟨us, o2, k2, q2⟩ := h2
  obtain ⟨x, y, e1, r1, -⟩ := Reads.own o1
  obtain ⟨x', y', e2, r2, -⟩ := Reads.own o2
  cases e1; cases e2
  exact eqIntSS_same D hD vs us _ _ _ _ w k1 k2 r1 r2 (fun j hj => (q1 j hj).1) (fun j hj => (q2 j hj).1)
theorem RowAt.writable {w : World} {g : Nat} {e : TypeId} {cs : List Int} (h : RowAt w g e cs) : Writable w (some ⟨g, 0, none⟩) cs.length :=
  .inr ⟨g, 0, rfl, h.lt, fun j hj => ⟨by rw [Nat.zero_add, h.cell hj]; rfl, frozen_of_row w g _ _ _ h⟩⟩

/-- The marked rows of the program's result. -/
def MkD (D : List (List Int)) (k0 : Int) (v : Value) (w : World) : Prop :=
  ∃ vs a c, v = .slice a D.length c ∧ Heads vs D ∧ Reads w a vs ∧ Marked w vs D k0 D.length
theorem MkD.keep {D : List (List Int)} {k0 : Int} {v : Value} {w w' : World} (h : MkD D k0 v w) (hb : Below w.heap.size w w') : MkD D k0 v w' := by
  obtain ⟨vs, a, c, h1, h2, h3, h4⟩ := h
  exact ⟨vs, a, c, h1, h2, h3.old hb, fun j hj => (h4 j hj).old hb⟩
theorem markSS (D : List (List Int)) (hD : SmallD D) (hs : ∀ j, j < D.length → (D.getD j []).length ≤ 3) {B B0 : Nat} (hB : B0 ≤ B) (a : Option Addr) (c : Nat) (w : World) (h : FrC B D (.slice a D.length c) w) :
    Calls Try.prog 47 #[.slice a D.length c, .int .i64 1] w fun e w' => e = .returned (.int .i64 (1 + (offs D D.length : Nat))) ∧ MkD D 1 (.slice a D.length c) w' ∧ Below B0 w w' := by
  obtain ⟨vs, o1, k1, q1, ap⟩ := h
  obtain ⟨x, y, e1, r1, -⟩ := Reads.own o1
  cases e1
  have hne : ∀ b, blockOf a = some b → ∀ j, j < D.length → b ≠ blk vs j := fun b e j hj e2 =>
    owns_apart (q1 j hj).1 (by decide) o1 (by rw [own_block, e, e2])
  refine (markIntSS_any D hD vs a c B0 1 (by omega) (by omega) w k1 r1 hne ap (fun j hj => ⟨(q1 j hj).1.writable, by have := (q1 j hj).2; omega, (q1 j hj).1.lt⟩)).mono ?_
  rintro e w' ⟨rfl, h1, h2, h3⟩
  refine ⟨rfl, ⟨vs, a, c, rfl, k1, ?_, h1⟩, h3⟩
  rcases r1 with r1 | ⟨b, off, rfl, hlt, hc⟩
  · exact .inl r1
  · exact .inr ⟨b, off, rfl, Nat.lt_of_lt_of_le hlt h3.size, fun j hj => by rw [← hc j hj]; exact World.cell?_of_block (w := w) (h2 b (fun i hi => hne b rfl i hi))⟩
theorem heldSS (D : List (List Int)) (hD : SmallD D) (a : Option Addr) (c : Nat) (w : World) (h : MkD D 1 (.slice a D.length c) w) :
    Calls Try.prog 48 #[.slice a D.length c, .int .i64 1] w fun e w' => e = .returned (.int .i64 (1 + (offs D D.length : Nat))) ∧ w' = w := by
  obtain ⟨vs, x, y, e1, h2, h3, h4⟩ := h
  cases e1
  exact heldIntSS_any D hD vs a c 1 (by omega) (by omega) w h2 h3 h4

theorem FrC.slice {B : Nat} {wr : World} {D : List (List Int)} {v : Value} (h : FrC B D v wr) : ∃ a c, v = .slice a D.length c := by
  obtain ⟨vs, h1, -⟩ := h
  obtain ⟨a, c, e, -⟩ := own_cap h1
  exact ⟨a, c, e⟩
theorem PairD.c {B : Nat} {l : List (Int × Int)} {v : Value} {wr : World} (h : PairD B l v wr) : FrC B (rows2 l) v wr := by
  obtain ⟨vs, h1, h2, h3, h4⟩ := h
  exact ⟨vs, by rw [rows2_len]; exact h1, h2, fun j hj => h3 j (by rwa [rows2_len] at hj), h4⟩
/-- What ScoresOn hands back. -/
def PrR (D : List (List Int)) (o : Bool) (w : World) (e : Ending) (w' : World) : Prop :=
  ∃ v, e = .returned (.tuple #[v, .bool o]) ∧ FrC w.heap.size D v w' ∧ Below w.heap.size w w'
def onV : Option (List (Int × Int)) → List (List Int)
  | none => []
  | some L => rows2 (scoresG L)
theorem FrC.nil (B : Nat) (wr : World) : FrC B [] (.slice none 0 0) wr := (PairD.nil B wr).c
theorem on_ok (ks : List Int) (l : List UInt8) : SmallD (onV (playG ks l)) ∧ ∀ j, j < (onV (playG ks l)).length → ((onV (playG ks l)).getD j []).length ≤ 3 := by
  cases hp : playG ks l with
  | none => exact ⟨⟨by simp [onV], fun j hj => absurd hj (Nat.not_lt_zero _)⟩, fun j hj => absurd hj (Nat.not_lt_zero _)⟩
  | some L =>
    obtain ⟨hg, hgm, hL60⟩ := playG_some hp
    have hl : (onV (some L)).length = L.length + 1 := by show (rows2 (scoresG L)).length = _; rw [rows2_len, scoresG_len]
    have h2 : ∀ j, j < (onV (some L)).length → ((onV (some L)).getD j []).length = 2 := fun j hj => by
      show ((rows2 (scoresG L)).getD j []).length = 2
      rw [rows2_get _ (by rw [hl] at hj; rw [scoresG_len]; exact hj)]; rfl
    exact ⟨⟨by omega, fun j hj => by rw [h2 j hj]; omega⟩, fun j hj => by rw [h2 j hj]; omega⟩

set_option maxHeartbeats 1600000 in
theorem specOn_any (ks : List Int) (game : ByteArray) (a : Option Addr) (c : Nat) (w : World) (hl : (ks.length : Int) ≤ 1000000000000) (hs : (game.size : Int) ≤ 1048576) (h : Reads w a (ints ks)) :
    Calls Try.prog 44 #[.slice a ks.length c, .string game] w fun e w' => PrR (onV (playG ks game.data.toList)) (playG ks game.data.toList).isSome w e w' := by
  have HB := Lib.hid (goBoth_any ks game a c w hl hs h)
  cases hp : playG ks game.data.toList with
  | none =>
    have HP := Lib.hid hp; clear hp h
    go_enter Try.func44, Try.ntmps44
    go_wp2_with fail
    refine HB.out.mono ?_; rintro e w1 ⟨rfl, b1⟩
    rw [HP.out]
    simp only [Option.isSome]
    go_wp2_with fail
    refine bodyPost_ret (v := .tuple #[.slice none 0 0, .bool false]) (by simp [results, Try.results44, go_sem]) rfl ⟨_, rfl, FrC.nil _ _, b1⟩
  | some L =>
    obtain ⟨hg, hgm, hL60⟩ := playG_some hp
    have HS := Lib.hid (fun w' (hr : Reads w' a (ints ks)) => goScores_any ks hg game L hgm a c w' hr)
    have HP := Lib.hid hp; clear hp
    have HR := Lib.hid h; clear h
    go_enter Try.func44, Try.ntmps44
    go_wp2_with fail
    refine HB.out.mono ?_; rintro e w1 ⟨rfl, b1⟩
    rw [HP.out]
    simp only [Option.isSome]
    have B1 := Lib.hid b1; clear b1
    go_wp2_with fail
    refine (HS.out _ (HR.out.old B1.out)).mono ?_; rintro e w2 ⟨v, rfl, hpd, b2⟩
    have HPD := Lib.hid (And.intro (hpd.base B1.out.size).c (B1.out.trans (b2.mono B1.out.size))); clear b2 hpd
    go_wp2_with fail
    refine bodyPost_ret (v := .tuple #[v, .bool true]) (by simp [results, Try.results44, go_sem]) rfl ⟨_, rfl, HPD.out.1, HPD.out.2⟩
end Go.Proofs.Ythbhhcpkilckkaa
