/-
  Leagues: whether a team has won some game against another one: both sides.
-/
import Derived.Test.YthbkclgdoopbpaaLgLp
import Derived.Test.YthbkclgdoopbpaaLgLeftM
namespace Go.Proofs.Ythbkclgdoopbpaa
open Go.RowKit
set_option linter.unusedVariables false
set_option linter.unusedSimpArgs false

theorem beatL_snoc (l : List Rs) (k : Nat) (hk : k < l.length) (a b : Int) : beatL (l.take (k + 1)) a b = (beatL (l.take k) a b || beatR (l.getD k zR) a b) := by
  rw [take_snoc zR l k hk]; simp [beatL]
theorem beatL_hit {l : List Rs} {k : Nat} (hk : k < l.length) {a b : Int} (e : beatR (l.getD k zR) a b = true) : beatL l a b = true := by
  simp only [beatL, List.any_eq_true]
  exact ⟨l[k], List.getElem_mem hk, by simpa [hk] using e⟩
theorem beatL_self {t wn : Int} {l : List Rs} (h : goodL t wn l = true) (a : Int) : beatL l a a = false := by
  simp only [beatL, List.any_eq_false]
  intro r hr
  obtain ⟨k, hk, rfl⟩ := List.getElem_of_mem hr
  have hg := goodL_get h k hk
  simp [hk] at hg
  obtain ⟨-, -, hne, -, -⟩ := goodR_bd hg
  unfold beatR
  simp only [Bool.or_eq_true, Bool.and_eq_true, decide_eq_true_eq]
  rintro (⟨h1, h2, _⟩ | ⟨h1, h2, _⟩)
  · exact hne (h1.trans h2.symm)
  · exact hne (h1.trans h2.symm)

theorem anyG_snoc (b : Int) (gs : List Gm) (k : Nat) (hk : k < gs.length) : (gs.take (k + 1)).any (beatG b) = ((gs.take k).any (beatG b) || beatG b (gs.getD k zG)) := by
  rw [gtake_snoc gs k hk]; simp
theorem anyG_hit {b : Int} {gs : List Gm} {k : Nat} (hk : k < gs.length) (e : beatG b (gs.getD k zG) = true) : gs.any (beatG b) = true := by
  rw [List.any_eq_true]
  exact ⟨gs[k], List.getElem_mem hk, by simpa [hk] using e⟩

end Go.Proofs.Ythbkclgdoopbpaa
