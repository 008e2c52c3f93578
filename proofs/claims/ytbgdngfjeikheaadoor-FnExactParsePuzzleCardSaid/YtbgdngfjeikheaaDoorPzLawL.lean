/-
  Laws over puzzles whose results are leagues.
-/
import Derived.Test.YtbgdngfjeikheaaDoorPzLawS
namespace Go.Proofs.YtbgdngfjeikheaaDoor
open Go.RowKit
set_option linter.unusedVariables false
set_option linter.unusedSimpArgs false

/-- A puzzle that is handed back, its clues the call's own. -/
def PzR (t : Int) (l : List Cl) (o : Bool) (w : World) (e : Ending) (w' : World) : Prop :=
  ∃ a c, e = .returned (.tuple #[.agg #[.int .i64 t, .slice a l.length c], .bool o]) ∧ w'.ownsRow w.heap.size 75 3 (.slice a l.length c) l.length (clus l) ∧ Below w.heap.size w w'
theorem owns_nil3 (w : World) (B : Nat) (T : TypeId) : w.ownsRow B T 3 (.slice none 0 0) 0 [] := ⟨rfl, .inl ⟨rfl, rfl⟩⟩

set_option maxHeartbeats 800000 in
theorem heldPuzzle_any (t : Int) (n : Nat) (a : Option Addr) (c : Nat) (k0 : Int) (w : World) (hn : (n : Int) ≤ 1000000) (h0 : 0 ≤ k0) (h1 : k0 ≤ 1000000000000) (h : Reads w a (ints (marks k0 (n * 3)))) :
    Calls Tryd.prog 17 #[.agg #[.int .i64 t, .slice a n c], .int .i64 k0] w fun e w' => e = .returned (.int .i64 (k0 + ((n * 3 : Nat) : Int))) ∧ Below w.heap.size w w' := by
  have HB := Lib.hid (Below.ofNew (w := w) (.cells #[.int .i64 t, .slice a n c] 24))
  have HM := Lib.hid (heldClueS_any n a c k0 _ (by omega) h0 h1 (h.old HB.out))
  clear h
  have k1 : (k0 + ((n * 3 : Nat) : Int) < 0) = False := by simp; omega
  go_enter Tryd.func17, Tryd.ntmps17
  go_wp2_with fail
  refine HM.out.mono ?_; rintro e w1 ⟨rfl, hw⟩
  subst hw
  go_wp2_with fail
  go_ret
  exact ⟨rfl, HB.out⟩
theorem eq_sameL (t : Int) (l : List Cl) (a a' : Option Addr) (c c' : Nat) (w : World) (hl : (l.length : Int) ≤ 1048576) (h : Reads w a (clus l)) (h' : Reads w a' (clus l)) :
    Calls Tryd.prog 15 #[.agg #[.int .i64 t, .slice a l.length c], .agg #[.int .i64 t, .slice a' l.length c']] w fun e w' => e = .returned (.bool true) ∧ Below w.heap.size w w' := by
  have := eqPuzzle_any t t l l a a' c c' w (by omega) (by omega) h h'
  rw [show eqL t t l l = true from by simp [eqL, SameC]] at this
  exact this
theorem ObAt.write {w : World} {g : Nat} {T : TypeId} {cs : Array Value} (h : ObAt w g T cs) {a : Option Addr} (hne : blockOf a ≠ some g) (vs : List Value) : ObAt (writeAt w a vs) g T cs := by
  unfold ObAt at *; rw [write_heap _ _ _ _ hne]; exact h

/-- The two results in their boxes. -/
def BxL (t' : Int) (n : Nat) (a2 : Option Addr) (c2 g4 : Nat) (a4 : Option Addr) (c4 g7 : Nat) (wi : World) : Prop :=
  ObAt wi g4 24 #[.int .i64 t', .slice a2 n c2] ∧ ObAt wi g7 24 #[.int .i64 t', .slice a4 n c4]
theorem BxL.keep {t' : Int} {n : Nat} {a2 : Option Addr} {c2 g4 : Nat} {a4 : Option Addr} {c4 g7 : Nat} {wi wj : World} (h : BxL t' n a2 c2 g4 a4 c4 g7 wi) (hb : Below wi.heap.size wi wj) : BxL t' n a2 c2 g4 a4 c4 g7 wj := ⟨h.1.keep hb, h.2.keep hb⟩
theorem BxL.full {t' : Int} {n : Nat} {a2 : Option Addr} {c2 g4 : Nat} {a4 : Option Addr} {c4 g7 : Nat} {wi : World} (h : BxL t' n a2 c2 g4 a4 c4 g7 wi) :
    wi.cell? ⟨g4, 0, none⟩ = some (.int .i64 t') ∧ wi.cell? ⟨g4, 1, none⟩ = some (.slice a2 n c2) ∧ wi.cell? ⟨g7, 0, none⟩ = some (.int .i64 t') ∧ wi.cell? ⟨g7, 1, none⟩ = some (.slice a4 n c4) :=
  ⟨h.1.cell 0, h.1.cell 1, h.2.cell 0, h.2.cell 1⟩
theorem BxL.write {t' : Int} {n : Nat} {a2 : Option Addr} {c2 g4 : Nat} {a4 : Option Addr} {c4 g7 : Nat} {wi : World} (h : BxL t' n a2 c2 g4 a4 c4 g7 wi) {a : Option Addr} (h4 : blockOf a ≠ some g4) (h7 : blockOf a ≠ some g7) (vs : List Value) : BxL t' n a2 c2 g4 a4 c4 g7 (writeAt wi a vs) := ⟨h.1.write h4 vs, h.2.write h7 vs⟩

def LwAt (w : World) (t : Int) (a : Option Addr) (l : List Cl) (c g5 g3 : Nat) (m : List Cl) (a2 : Option Addr) (B : Nat) (v4 : Value) (wi : World) : Prop :=
  CopAt w t a l c g5 g3 wi ∧ Reads wi a2 (clus m) ∧ wi.ownsRow B 75 3 v4 m.length (clus m) ∧ Writable wi (some ⟨g3, 0, none⟩) (l.length * 3)
theorem LwAt.keep {w : World} {t : Int} {a : Option Addr} {l : List Cl} {c g5 g3 : Nat} {m : List Cl} {a2 : Option Addr} {B : Nat} {v4 : Value} {wi wj : World} (h : LwAt w t a l c g5 g3 m a2 B v4 wi) (hb : Below wi.heap.size wi wj) : LwAt w t a l c g5 g3 m a2 B v4 wj :=
  ⟨h.1.keep hb, h.2.1.old hb, owns_below h.2.2.1 hb, h.2.2.2.keep hb⟩
def LmAt (w : World) (t : Int) (a : Option Addr) (l : List Cl) (c : Nat) (m : List Cl) (a2 : Option Addr) (B : Nat) (v4 : Value) (wi : World) : Prop :=
  LAt w t a l c wi ∧ Reads wi a2 (clus m) ∧ wi.ownsRow B 75 3 v4 m.length (clus m)
theorem LmAt.keep {w : World} {t : Int} {a : Option Addr} {l : List Cl} {c : Nat} {m : List Cl} {a2 : Option Addr} {B : Nat} {v4 : Value} {wi wj : World} (h : LmAt w t a l c m a2 B v4 wi) (hb : Below wi.heap.size wi wj) : LmAt w t a l c m a2 B v4 wj :=
  ⟨h.1.keep hb, h.2.1.old hb, owns_below h.2.2 hb⟩
def LkAt (w : World) (t : Int) (a : Option Addr) (l : List Cl) (c : Nat) (m : List Cl) (a2 a4 : Option Addr) (wi : World) : Prop :=
  LAt w t a l c wi ∧ Reads wi a2 (clus m) ∧ Reads wi a4 (ints (marks 1 (m.length * 3)))
theorem LkAt.keep {w : World} {t : Int} {a : Option Addr} {l : List Cl} {c : Nat} {m : List Cl} {a2 a4 : Option Addr} {wi wj : World} (h : LkAt w t a l c m a2 a4 wi) (hb : Below wi.heap.size wi wj) : LkAt w t a l c m a2 a4 wj :=
  ⟨h.1.keep hb, h.2.1.old hb, h.2.2.old hb⟩
end Go.Proofs.YtbgdngfjeikheaaDoor
