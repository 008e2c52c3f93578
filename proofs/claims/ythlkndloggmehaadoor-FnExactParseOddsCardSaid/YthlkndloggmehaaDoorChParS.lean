/-
  Odds out of a text: the model.
-/
import Derived.Test.YthlkndloggmehaaDoorRtCut
import Derived.Test.YthlkndloggmehaaDoorChPar
namespace Go.Proofs.YthlkndloggmehaaDoor
open Go.RowKit
set_option linter.unusedVariables false
set_option linter.unusedSimpArgs false

def okSCh (s : ByteArray) : Bool := (decide (s.size ≤ 5) && decide ((pieces s 47).length = 2)) && goodO (rdS s 47 0) (rdS s 47 1)
def valSCh (s : ByteArray) : Int × Int := if okSCh s then (rdS s 47 0, rdS s 47 1) else (0, 0)

/-! A number read that is at most 10 is its own text. -/
theorem digs_ge : ∀ (l : List UInt8) (n : Int), 0 ≤ n → digs n l = -1 ∨ n ≤ digs n l
  | [], n, _ => .inr (by simp [digs])
  | c :: r, n, h => by
    unfold digs
    split
    · rcases digs_ge r (10 * n + ((c.toNat : Int) - 48)) (by omega) with h2 | h2
      · exact .inl h2
      · exact .inr (by omega)
    · exact .inl rfl
theorem dig_of (c : UInt8) (v : Nat) (h : (c.toNat : Int) - 48 = v) : c = dig v := by
  apply UInt8.toNat_inj.1
  unfold dig
  have := c.toNat_lt
  simp; omega
theorem readL_own {l : List UInt8} {v : Nat} (hv : v ≤ 10) (h : readL l = v) : l = numF 1 v := by
  unfold readL at h
  split at h
  · omega
  rename_i h1
  split at h
  · omega
  rename_i h2
  match l, h1, h2, h with
  | [], h1, _, _ => simp at h1
  | [c], _, _, h =>
    simp only [digs] at h
    split at h
    · have := dig_of c v (by omega)
      unfold numF; rw [if_pos (by omega), this]
    · omega
  | c :: d :: r, h1, h2, h =>
    have hc : c ≠ 48 := fun e => h2 ⟨by rw [e]; rfl, by simp⟩
    have hc2 : c.toNat ≠ 48 := fun e => hc (UInt8.toNat_inj.1 (by rw [e]; rfl))
    simp only [digs] at h
    split at h
    · split at h
      · rename_i q1 q2
        rcases digs_ge r (10 * (10 * 0 + ((c.toNat : Int) - 48)) + ((d.toNat : Int) - 48)) (by omega) with h3 | h3
        · omega
        · have hv10 : v = 10 := by omega
          cases r with
          | nil =>
            simp only [digs] at h
            subst hv10
            have e1 := dig_of c 1 (by omega)
            have e2 := dig_of d 0 (by omega)
            rw [e1, e2]; decide
          | cons e r =>
            simp only [digs] at h
            split at h
            · rcases digs_ge r (10 * (10 * (10 * 0 + ((c.toNat : Int) - 48)) + ((d.toNat : Int) - 48)) + ((e.toNat : Int) - 48)) (by omega) with h4 | h4 <;> omega
            · omega
      · omega
    · omega

/-- Both ways at every text of odds. -/
theorem all_ch : ∀ a : Nat, a ≤ 10 → ∀ b : Nat, b ≤ 10 → goodO a b = true → (okPCh (textCh a b) = true ∧ rd1Ch (textCh a b) = a ∧ rd2Ch (textCh a b) = b) ∧ (okSCh ⟨(textCh a b).toArray⟩ = true ∧ rdS ⟨(textCh a b).toArray⟩ 47 0 = a ∧ rdS ⟨(textCh a b).toArray⟩ 47 1 = b) := by decide +kernel

theorem ways_ch (s : ByteArray) : okSCh s = okPCh s.data.toList ∧ valSCh s = valPCh s.data.toList := by
  have key : (okSCh s = true ∨ okPCh s.data.toList = true) → ∃ a b : Nat, a ≤ 10 ∧ b ≤ 10 ∧ goodO a b = true ∧ s.data.toList = textCh a b := by
    rintro (h | h)
    · unfold okSCh at h
      simp only [Bool.and_eq_true, decide_eq_true_eq] at h
      obtain ⟨⟨h5, h2⟩, hg⟩ := h
      have hb := goodO_bd.1 hg
      obtain ⟨a, ha⟩ : ∃ a : Nat, rdS s 47 0 = a := ⟨(rdS s 47 0).toNat, by omega⟩
      obtain ⟨b, hbb⟩ : ∃ b : Nat, rdS s 47 1 = b := ⟨(rdS s 47 1).toNat, by omega⟩
      rw [ha, hbb] at hg hb
      have hj := cutS_join s 47 s.size 0 (Nat.le_refl _) (by omega)
      change Lib.join ((pieces s 47).map _) [47] = _ at hj
      unfold rdS at ha hbb
      match hp : pieces s 47, h2 with
      | [p, q], _ =>
        rw [hp] at hj ha hbb
        have e1 := readL_own (by omega) (show readL p.data.toList = (a : Int) from ha)
        have e2 := readL_own (by omega) (show readL q.data.toList = (b : Int) from hbb)
        refine ⟨a, b, by omega, by omega, hg, ?_⟩
        rw [List.drop_zero] at hj
        rw [← hj, List.map_cons, List.map_cons, List.map_nil, Lib.join_cons, e1, e2]
        simp [Lib.joinTail, textCh]
    · unfold okPCh at h
      simp only [Bool.and_eq_true, decide_eq_true_eq] at h
      obtain ⟨hg, ht⟩ := h
      have hb := goodO_bd.1 hg
      refine ⟨(rd1Ch s.data.toList).toNat, (rd2Ch s.data.toList).toNat, by omega, by omega, ?_, ht.symm⟩
      rw [Int.toNat_of_nonneg (by omega), Int.toNat_of_nonneg (by omega)]; exact hg
  by_cases h : okSCh s = true ∨ okPCh s.data.toList = true
  · obtain ⟨a, b, ha, hb, hg, ht⟩ := key h
    obtain ⟨⟨p0, p1, p2⟩, q0, q1, q2⟩ := all_ch a ha b hb hg
    have hs := ofList_eq s _ ht
    rw [ht]
    subst hs
    exact ⟨by rw [p0, q0], by unfold valSCh valPCh; rw [p0, q0, p1, p2, q1, q2]⟩
  · have h1 : okSCh s = false := by cases e : okSCh s <;> simp_all
    have h2 : okPCh s.data.toList = false := by cases e : okPCh s.data.toList <;> simp_all
    exact ⟨by rw [h1, h2], by unfold valSCh valPCh; rw [h1, h2]; rfl⟩

end Go.Proofs.YthlkndloggmehaaDoor
