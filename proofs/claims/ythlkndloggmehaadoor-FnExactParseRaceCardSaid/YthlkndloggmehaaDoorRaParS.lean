/-
  Races out of a text: the model.
-/
import Derived.Test.YthlkndloggmehaaDoorRtCut
import Derived.Test.YthlkndloggmehaaDoorRaPar
namespace Go.Proofs.YthlkndloggmehaaDoor
open Go.RowKit
set_option linter.unusedVariables false
set_option linter.unusedSimpArgs false

def okSRa (s : ByteArray) : Bool := (decide (s.size ≤ 4) && decide ((pieces s 43).length = 2)) && (goodR (rdS s 43 0) (rdS s 43 1) && decide (textRa (rdS s 43 0).toNat (rdS s 43 1).toNat = s.data.toList))
def valSRa (s : ByteArray) : Int × Int := if okSRa s then (rdS s 43 0, rdS s 43 1) else (0, 0)

/-- Both ways at every text of a race. -/
theorem all_ra : ∀ a : Nat, a ≤ 30 → ∀ b : Nat, b ≤ 5 → goodR a b = true → (okPRa (textRa a b) = true ∧ rd1Ra (textRa a b) = a ∧ rd2Ra (textRa a b) = b) ∧ (okSRa ⟨(textRa a b).toArray⟩ = true ∧ rdS ⟨(textRa a b).toArray⟩ 43 0 = a ∧ rdS ⟨(textRa a b).toArray⟩ 43 1 = b) := by decide +kernel

theorem ways_ra (s : ByteArray) : okSRa s = okPRa s.data.toList ∧ valSRa s = valPRa s.data.toList := by
  have key : (okSRa s = true ∨ okPRa s.data.toList = true) → ∃ a b : Nat, a ≤ 30 ∧ b ≤ 5 ∧ goodR a b = true ∧ s.data.toList = textRa a b := by
    rintro (h | h)
    · unfold okSRa at h
      simp only [Bool.and_eq_true, decide_eq_true_eq] at h
      obtain ⟨-, hg, ht⟩ := h
      have hb := goodR_bd.1 hg
      refine ⟨(rdS s 43 0).toNat, (rdS s 43 1).toNat, by omega, by omega, ?_, ht.symm⟩
      rw [Int.toNat_of_nonneg (by omega), Int.toNat_of_nonneg (by omega)]; exact hg
    · unfold okPRa at h
      simp only [Bool.and_eq_true, decide_eq_true_eq] at h
      obtain ⟨hg, ht⟩ := h
      have hb := goodR_bd.1 hg
      refine ⟨(rd1Ra s.data.toList).toNat, (rd2Ra s.data.toList).toNat, by omega, by omega, ?_, ht.symm⟩
      rw [Int.toNat_of_nonneg (by omega), Int.toNat_of_nonneg (by omega)]; exact hg
  by_cases h : okSRa s = true ∨ okPRa s.data.toList = true
  · obtain ⟨a, b, ha, hb, hg, ht⟩ := key h
    obtain ⟨⟨p0, p1, p2⟩, q0, q1, q2⟩ := all_ra a ha b hb hg
    have hs := ofList_eq s _ ht
    rw [ht]
    subst hs
    exact ⟨by rw [p0, q0], by unfold valSRa valPRa; rw [p0, q0, p1, p2, q1, q2]⟩
  · have h1 : okSRa s = false := by cases e : okSRa s <;> simp_all
    have h2 : okPRa s.data.toList = false := by cases e : okPRa s.data.toList <;> simp_all
    exact ⟨by rw [h1, h2], by unfold valSRa valPRa; rw [h1, h2]; rfl⟩
end Go.Proofs.YthlkndloggmehaaDoor
