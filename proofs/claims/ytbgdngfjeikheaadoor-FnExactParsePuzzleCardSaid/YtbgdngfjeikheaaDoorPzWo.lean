/-
  Puzzles: the puzzle without a clue: the program.
-/
import Derived.Test.YtbgdngfjeikheaaDoorPzCut
import Derived.Deep.RegionHeld3
import Derived.Deep.DeepCutAuto
import Derived.StillTailTactics
namespace Go.Proofs.YtbgdngfjeikheaaDoor
open Go.RowKit
set_option linter.unusedVariables false
set_option linter.unusedSimpArgs false

theorem owns_mono {w : World} {B B' n size : Nat} {T : TypeId} {v : Value} {xs : List Value} (h : w.ownsRow B' T size v n xs) (hb : B ≤ B') : w.ownsRow B T size v n xs := by
  obtain ⟨h1, h2 | ⟨g, cap, cur, hv, hg, r⟩⟩ := h
  · exact ⟨h1, .inl h2⟩
  · exact ⟨h1, .inr ⟨g, cap, cur, hv, by omega, r⟩⟩
def dropC (l : List Cl) (k : Nat) : List Cl := l.take k ++ l.drop (k + 1)
theorem dropC_len (l : List Cl) {k : Nat} (h : k < l.length) : (dropC l k).length = l.length - 1 := by simp [dropC]; omega
theorem dropC_sub {l : List Cl} {k : Nat} : ∀ c ∈ dropC l k, c ∈ l := by
  intro c hc
  rcases List.mem_append.1 hc with h | h
  · exact List.mem_of_mem_take h
  · exact List.mem_of_mem_drop h
theorem PzH.of {X wi : World} {q : Nat} {T : TypeId} {u0 u1 : Value} (h1 : ObAt X q T #[u0, u1]) (hb : Below X.heap.size X wi) :
    wi.cell? ⟨q, 0, none⟩ = some u0 ∧ wi.cell? ⟨q, 1, none⟩ = some u1 ∧ Below X.heap.size X wi := ⟨(h1.keep hb).cell 0, (h1.keep hb).cell 1, hb⟩
/-- Behind the region: the two parts in boxes of their own. -/
def CutW (p : Int) (b1 b2 : Value) (X : World) (v5 v6 : Value) (wx : World) : Prop :=
  ∃ g h, v5 = .pointer (some ⟨g, 0, none⟩) ∧ v6 = .pointer (some ⟨h, 0, none⟩) ∧ X.heap.size ≤ g ∧ X.heap.size ≤ h ∧ ObAt wx g 24 #[.int .i64 p, b1] ∧ ObAt wx h 24 #[.int .i64 p, b2] ∧ Below X.heap.size X wx
theorem CutW.below {p : Int} {b1 b2 : Value} {X : World} {v5 v6 : Value} {wx : World} (h : CutW p b1 b2 X v5 v6 wx) : Below X.heap.size X wx := by
  obtain ⟨_, _, _, _, _, _, _, _, h⟩ := h
  exact h
theorem CutW.half {X W : World} {g : Nat} (h1 : X.heap.size ≤ g) (h2 : Below X.heap.size X W) (u v : Value) : Below X.heap.size X ((W.setCell ⟨g, 0, none⟩ u).setCell ⟨g, 1, none⟩ v) :=
  (h2.setCell (p := ⟨g, 0, none⟩) (by simp only; omega) _).setCell (p := ⟨g, 1, none⟩) (by simp only; omega) _
theorem CutW.mk {p : Int} {b1 b2 : Value} {X W : World} {g h : Nat} (h1 : ObAt W g 24 #[.int .i64 0, .slice none 0 0]) (h2 : ObAt W h 24 #[.int .i64 0, .slice none 0 0]) (h3 : X.heap.size ≤ g) (h4 : X.heap.size ≤ h) (hne : g ≠ h) (hb : Below X.heap.size X W) :
    CutW p b1 b2 X (.pointer (some ⟨g, 0, none⟩)) (.pointer (some ⟨h, 0, none⟩)) ((((W.setCell ⟨g, 0, none⟩ (.int .i64 p)).setCell ⟨g, 1, none⟩ b1).setCell ⟨h, 0, none⟩ (.int .i64 p)).setCell ⟨h, 1, none⟩ b2) :=
  ⟨g, h, rfl, rfl, h3, h4, (((h1.put 0 _).put 1 _).other hne _).other hne _, (((h2.other hne.symm _).other hne.symm _).put 0 _).put 1 _, CutW.half h4 (CutW.half h3 hb _ _) _ _⟩

end Go.Proofs.YtbgdngfjeikheaaDoor
