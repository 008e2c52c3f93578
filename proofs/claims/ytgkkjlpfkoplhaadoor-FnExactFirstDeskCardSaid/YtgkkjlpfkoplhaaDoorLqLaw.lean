/-
  Leagues that are handed back: what the laws ask of them.
-/
import Derived.Test.YtgkkjlpfkoplhaaDoorLgLawS
namespace Go.Proofs.YtgkkjlpfkoplhaaDoor
open Go.RowKit
set_option linter.unusedVariables false
set_option linter.unusedSimpArgs false

/-- A league that is handed back, its results the call's own. -/
def LgR (t wn : Int) (l : List Rs) (o : Bool) (w : World) (e : Ending) (w' : World) : Prop :=
  ∃ a c, e = .returned (.tuple #[.agg #[.int .i64 t, .int .i64 wn, .slice a l.length c], .bool o]) ∧ w'.ownsRow w.heap.size 50 4 (.slice a l.length c) l.length (ress l) ∧ Below w.heap.size w w'
theorem owns_nil4 (w : World) (B : Nat) (T : TypeId) : w.ownsRow B T 4 (.slice none 0 0) 0 [] := ⟨rfl, .inl ⟨rfl, rfl⟩⟩
set_option maxHeartbeats 800000 in
theorem heldLeague_any (t wn : Int) (n : Nat) (a : Option Addr) (c : Nat) (k0 : Int) (w : World) (hn : (n : Int) ≤ 1000000) (h0 : 0 ≤ k0) (h1 : k0 ≤ 1000000000000) (h : Reads w a (ints (marks k0 (n * 4)))) :
    Calls Tryd.prog 30 #[.agg #[.int .i64 t, .int .i64 wn, .slice a n c], .int .i64 k0] w fun e w' => e = .returned (.int .i64 (k0 + ((n * 4 : Nat) : Int))) ∧ Below w.heap.size w w' := by
  have HB := Lib.hid (Below.ofNew (w := w) (.cells #[.int .i64 t, .int .i64 wn, .slice a n c] 34))
  have HM := Lib.hid (heldResultS_any n a c k0 _ (by omega) h0 h1 (h.old HB.out))
  clear h
  have k1 : (k0 + ((n * 4 : Nat) : Int) < 0) = False := by simp; omega
  go_enter Tryd.func30, Tryd.ntmps30
  go_wp2_with fail
  refine HM.out.mono ?_; rintro e w1 ⟨rfl, hw⟩
  subst hw
  go_wp2_with fail
  go_ret
  exact ⟨rfl, HB.out⟩
theorem eq_sameL (t wn : Int) (l : List Rs) (a a' : Option Addr) (c c' : Nat) (w : World) (hl : (l.length : Int) ≤ 1048576) (h : Reads w a (ress l)) (h' : Reads w a' (ress l)) :
    Calls Tryd.prog 28 #[.agg #[.int .i64 t, .int .i64 wn, .slice a l.length c], .agg #[.int .i64 t, .int .i64 wn, .slice a' l.length c']] w fun e w' => e = .returned (.bool true) ∧ Below w.heap.size w w' := by
  have := eqLeague_any t wn t wn l l a a' c c' w (by omega) (by omega) h h'
  rw [show eqL t wn t wn l l = true from by simp [eqL, SameR]] at this
  exact this
theorem ObAt.write {w : World} {g : Nat} {T : TypeId} {cs : Array Value} (h : ObAt w g T cs) {a : Option Addr} (hne : blockOf a ≠ some g) (vs : List Value) : ObAt (writeAt w a vs) g T cs := by
  unfold ObAt at *; rw [write_heap _ _ _ _ hne]; exact h

/-- The two results in their boxes. -/
def BxL (t' wn' : Int) (n : Nat) (a2 : Option Addr) (c2 g4 : Nat) (a4 : Option Addr) (c4 g7 : Nat) (wi : World) : Prop :=
  ObAt wi g4 34 #[.int .i64 t', .int .i64 wn', .slice a2 n c2] ∧ ObAt wi g7 34 #[.int .i64 t', .int .i64 wn', .slice a4 n c4]
theorem BxL.keep {t' wn' : Int} {n : Nat} {a2 : Option Addr} {c2 g4 : Nat} {a4 : Option Addr} {c4 g7 : Nat} {wi wj : World} (h : BxL t' wn' n a2 c2 g4 a4 c4 g7 wi) (hb : Below wi.heap.size wi wj) : BxL t' wn' n a2 c2 g4 a4 c4 g7 wj := ⟨h.1.keep hb, h.2.keep hb⟩
theorem BxL.full {t' wn' : Int} {n : Nat} {a2 : Option Addr} {c2 g4 : Nat} {a4 : Option Addr} {c4 g7 : Nat} {wi : World} (h : BxL t' wn' n a2 c2 g4 a4 c4 g7 wi) :
    wi.cell? ⟨g4, 0, none⟩ = some (.int .i64 t') ∧ wi.cell? ⟨g4, 1, none⟩ = some (.int .i64 wn') ∧ wi.cell? ⟨g4, 2, none⟩ = some (.slice a2 n c2) ∧ wi.cell? ⟨g7, 0, none⟩ = some (.int .i64 t') ∧ wi.cell? ⟨g7, 1, none⟩ = some (.int .i64 wn') ∧ wi.cell? ⟨g7, 2, none⟩ = some (.slice a4 n c4) :=
  ⟨h.1.cell 0, h.1.cell 1, h.1.cell 2, h.2.cell 0, h.2.cell 1, h.2.cell 2⟩
theorem BxL.write {t' wn' : Int} {n : Nat} {a2 : Option Addr} {c2 g4 : Nat} {a4 : Option Addr} {c4 g7 : Nat} {wi : World} (h : BxL t' wn' n a2 c2 g4 a4 c4 g7 wi) {a : Option Addr} (h4 : blockOf a ≠ some g4) (h7 : blockOf a ≠ some g7) (vs : List Value) : BxL t' wn' n a2 c2 g4 a4 c4 g7 (writeAt wi a vs) := ⟨h.1.write h4 vs, h.2.write h7 vs⟩

end Go.Proofs.YtgkkjlpfkoplhaaDoor
