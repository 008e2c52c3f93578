/-
  Leagues: with a result less, with all games turned. Plain facts.
-/
import Derived.Test.YthlkndloggmehaaLgMath
namespace Go.Proofs.Ythlkndloggmehaa
set_option linter.unusedVariables false
set_option linter.unusedSimpArgs false

theorem okTo_iff (t : Int) (l : List Rs) : okTo t l l.length = true ↔ (∀ r ∈ l, goodR t r = true) ∧ l.Pairwise (fun r s => pairR r s.1 s.2.1 = false) := by
  have h1 : okTo t l l.length = true ↔ ∀ i, i < l.length → okAt t l i = true := by
    simp only [okTo, List.all_eq_true, List.mem_range]
  rw [h1, List.pairwise_iff_getElem]
  have e : ∀ i (h : i < l.length), l.getD i zR = l[i] := fun i h => by simp [h]
  constructor
  · intro h
    refine ⟨fun r hr => ?_, fun i j hi hj hij => ?_⟩
    · obtain ⟨k, hk, rfl⟩ := List.getElem_of_mem hr
      have := h k hk
      simp only [okAt, Bool.and_eq_true, e k hk] at this
      exact this.1
    · have := h j hj
      simp only [okAt, Bool.and_eq_true, e j hj, Bool.not_eq_true'] at this
      have hn := this.2
      simp only [hasG, List.any_eq_false] at hn
      have := hn l[i] (by rw [List.mem_take_iff_getElem]; exact ⟨i, by omega, rfl⟩)
      simpa using this
  · rintro ⟨hg, hp⟩ i hi
    simp only [okAt, Bool.and_eq_true, e i hi, Bool.not_eq_true']
    refine ⟨hg _ (List.getElem_mem hi), ?_⟩
    simp only [hasG, List.any_eq_false]
    intro x hx
    rw [List.mem_take_iff_getElem] at hx
    obtain ⟨j, hj, rfl⟩ := hx
    simpa using hp j i (by omega) hi (by omega)

theorem goodL_iff (t wn : Int) (l : List Rs) : goodL t wn l = true ↔ headL t wn l.length = true ∧ (∀ r ∈ l, goodR t r = true) ∧ l.Pairwise (fun r s => pairR r s.1 s.2.1 = false) := by
  rw [goodL, Bool.and_eq_true, okTo_iff]
theorem headL_le {t wn : Int} {n m : Nat} (h : headL t wn n = true) (hm : m ≤ n) : headL t wn m = true := by
  simp [headL] at h ⊢
  exact ⟨h.1, h.2.1, by omega⟩
def dropL (l : List Rs) (k : Nat) : List Rs := l.take k ++ l.drop (k + 1)
theorem dropL_len (l : List Rs) {k : Nat} (h : k < l.length) : (dropL l k).length + 1 = l.length := by simp [dropL]; omega
theorem dropL_sub (l : List Rs) (k : Nat) : (dropL l k).Sublist l := by
  have h2 : (l.drop (k + 1)).Sublist (l.drop k) := by
    rw [← List.drop_drop]
    exact List.drop_sublist _ _
  have := (List.Sublist.refl (l.take k)).append h2
  rwa [List.take_append_drop] at this
theorem goodL_drop {t wn : Int} {l : List Rs} (h : goodL t wn l = true) (k : Nat) : goodL t wn (dropL l k) = true := by
  rw [goodL_iff] at h ⊢
  have hs := dropL_sub l k
  exact ⟨headL_le h.1 hs.length_le, fun r hr => h.2.1 r (hs.mem hr), h.2.2.sublist hs⟩
def turnR (r : Rs) : Rs := (r.2.1, r.1, r.2.2.2, r.2.2.1)
theorem goodR_turn (t : Int) (r : Rs) : goodR t (turnR r) = goodR t r := by
  obtain ⟨x, y, g, s⟩ := r
  have e1 : goodR t (turnR (x, y, g, s)) = (inR y 0 (t - 1) && (inR x 0 (t - 1) && (decide (y ≠ x) && (inR s 0 20 && inR g 0 20)))) := rfl
  have e2 : goodR t (x, y, g, s) = (inR x 0 (t - 1) && (inR y 0 (t - 1) && (decide (x ≠ y) && (inR g 0 20 && inR s 0 20)))) := rfl
  have e3 : decide (y ≠ x) = decide (x ≠ y) := by simp [eq_comm]
  rw [e1, e2, e3]
  cases inR x 0 (t - 1) <;> cases inR y 0 (t - 1) <;> cases inR g 0 20 <;> cases inR s 0 20 <;> simp
theorem goodL_turn {t wn : Int} {l : List Rs} (h : goodL t wn l = true) : goodL t wn (l.map turnR) = true := by
  rw [goodL_iff] at h ⊢
  refine ⟨by rw [List.length_map]; exact h.1, fun r hr => ?_, ?_⟩
  · obtain ⟨s, hs, rfl⟩ := List.mem_map.1 hr
    rw [goodR_turn]; exact h.2.1 s hs
  · rw [List.pairwise_map]
    refine h.2.2.imp ?_
    intro a b hab
    simp only [pairR, turnR, Bool.and_eq_false_iff] at hab ⊢
    exact hab.symm
theorem turn_snoc (l : List Rs) (k : Nat) (hk : k < l.length) : (l.take (k + 1)).map turnR = (l.take k).map turnR ++ [turnR (l.getD k zR)] := by
  rw [take_snoc zR l k hk]; simp

end Go.Proofs.Ythlkndloggmehaa
