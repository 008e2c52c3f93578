/-
  Leagues: slices of slices of ints: eqIntSS, markIntSS, heldIntSS.
-/
import Derived.Test.YthlkndloggmehaaLgLp
import Derived.Deep.RegionHeld3
namespace Go.Proofs.Ythlkndloggmehaa
open Go.RowKit
set_option linter.unusedVariables false
set_option linter.unusedSimpArgs false

/-- The block of the j-th row. -/
def blk (vs : List Value) (j : Nat) : Nat := ((vs.getD j undef).ownBlock).getD 0
/-- The rows' heads. -/
def Heads (vs : List Value) (D : List (List Int)) : Prop :=
  vs.length = D.length ∧ ∀ j, j < D.length → ∃ c, vs[j]? = some (.slice (some ⟨blk vs j, 0, none⟩) (D.getD j []).length c)
def RowsAt (w : World) (vs : List Value) (D : List (List Int)) : Prop := ∀ j, j < D.length → Reads w (some ⟨blk vs j, 0, none⟩) (ints (D.getD j []))
def SmallD (D : List (List Int)) : Prop := D.length ≤ 100 ∧ ∀ j, j < D.length → (D.getD j []).length ≤ 100
theorem RowsAt.old {w w' : World} {vs : List Value} {D : List (List Int)} (h : RowsAt w vs D) (hb : Below w.heap.size w w') : RowsAt w' vs D := fun j hj => (h j hj).old hb
theorem head_cell {w : World} {a : Option Addr} {vs : List Value} {D : List (List Int)} (h : Reads w a vs) (hh : Heads vs D) {k : Nat} (hk : k < D.length) :
    ∃ b off c, a = some ⟨b, off, none⟩ ∧ b < w.heap.size ∧ w.cell? ⟨b, off + k, none⟩ = some (.slice (some ⟨blk vs k, 0, none⟩) (D.getD k []).length c) := by
  obtain ⟨h1, h2⟩ := hh
  obtain ⟨c, hc⟩ := h2 k hk
  rcases h with h | ⟨b, off, rfl, hlt, hcs⟩
  · subst h; simp at h1; omega
  · exact ⟨b, off, c, rfl, hlt, by rw [hcs k (by omega), hc]⟩

theorem eq_rows (L : List Int) (a a' : Option Addr) (c c' : Nat) (w : World) (hl : (L.length : Int) ≤ 1048576) (h : Reads w a (ints L)) (h' : Reads w a' (ints L)) :
    Calls Try.prog 59 #[.slice a L.length c, .slice a' L.length c'] w fun e w' => e = .returned (.bool true) ∧ Below w.heap.size w w' := by
  have := eqIntS_any L L a a' c c' w (by omega) (by omega) h h'
  rw [show SameB L L = true from by simp [SameB]] at this
  exact this

def SsS (w : World) (x px y py : Nat) (u v : Value) (w' : World) : Prop :=
  Below w.heap.size w w' ∧ w'.cell? ⟨x, px, none⟩ = some u ∧ w'.cell? ⟨y, py, none⟩ = some v ∧ x < w'.heap.size ∧ y < w'.heap.size
theorem ss_keep {w w1 w2 : World} {x px y py : Nat} {u v : Value} (h : SsS w x px y py u v w1) (hb : Below w1.heap.size w1 w2) : SsS w x px y py u v w2 := by
  obtain ⟨h1, h2, h3, h4, h5⟩ := h
  have := hb.size
  exact ⟨h1.trans (hb.mono h1.size), by rw [hb.cell (p := ⟨x, px, none⟩) h4]; exact h2, by rw [hb.cell (p := ⟨y, py, none⟩) h5]; exact h3, by omega, by omega⟩

def offs (D : List (List Int)) (k : Nat) : Nat := ((D.take k).map List.length).sum
theorem offs_succ (D : List (List Int)) (k : Nat) (hk : k < D.length) : offs D (k + 1) = offs D k + (D.getD k []).length := by
  unfold offs
  rw [List.take_succ_eq_append_getElem hk, List.map_append, List.sum_append]
  simp [hk]
theorem offs_le (D : List (List Int)) (hD : SmallD D) : ∀ k, k ≤ D.length → offs D k ≤ 100 * k
  | 0, _ => by simp [offs]
  | k + 1, hk => by
    have := offs_le D hD k (by omega)
    have h2 := hD.2 k (by omega)
    rw [offs_succ D k (by omega)]; omega
/-- The rows, marked. -/
def Marked (w : World) (vs : List Value) (D : List (List Int)) (k0 : Int) (k : Nat) : Prop :=
  ∀ j, j < k → Reads w (some ⟨blk vs j, 0, none⟩) (ints (marks (k0 + (offs D j : Nat)) (D.getD j []).length))
def Apart (vs : List Value) (D : List (List Int)) : Prop := ∀ i j, i < j → j < D.length → blk vs i ≠ blk vs j
def MkA (w : World) (B : Nat) (vs : List Value) (D : List (List Int)) (k0 : Int) (k : Nat) (wr : World) : Prop :=
  Marked wr vs D k0 k ∧ (∀ b, (∀ j, j < k → b ≠ blk vs j) → wr.heap[b]? = w.heap[b]?) ∧ Below B w wr

end Go.Proofs.Ythlkndloggmehaa
