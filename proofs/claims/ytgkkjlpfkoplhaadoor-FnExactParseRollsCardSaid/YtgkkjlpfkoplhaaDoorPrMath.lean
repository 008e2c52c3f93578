/-
  Pins, plain facts: a text tells its rolls.
-/
import Derived.Test.YtgkkjlpfkoplhaaDoorPnTxM
namespace Go.Proofs.YtgkkjlpfkoplhaaDoor
set_option linter.unusedVariables false
set_option linter.unusedSimpArgs false

theorem dig_is (p : Nat) (h : p ≤ 10) : digP (p : Int) = [UInt8.ofNat (48 + p)] := by simp [digP]
/-- The signs at a place are one to one. -/
theorem sign_one (Q : Nat) (fresh : Bool) (hQ : Q ≤ 10) : ∀ p q : Fin 11, p.val ≤ Q → q.val ≤ Q →
    (if p.val = 0 then ([45] : List UInt8) else if p.val = 10 ∧ fresh = true then [88] else if p.val = Q then [47] else [UInt8.ofNat (48 + p.val)]) = (if q.val = 0 then [45] else if q.val = 10 ∧ fresh = true then [88] else if q.val = Q then [47] else [UInt8.ofNat (48 + q.val)]) → p = q := by
  have h : ∀ Q : Fin 11, ∀ fresh : Bool, ∀ p q : Fin 11, p.val ≤ Q.val → q.val ≤ Q.val →
    (if p.val = 0 then ([45] : List UInt8) else if p.val = 10 ∧ fresh = true then [88] else if p.val = Q.val then [47] else [UInt8.ofNat (48 + p.val)]) = (if q.val = 0 then [45] else if q.val = 10 ∧ fresh = true then [88] else if q.val = Q.val then [47] else [UInt8.ofNat (48 + q.val)]) → p = q := by decide +kernel
  exact h ⟨Q, by omega⟩ fresh
theorem sign_nat {bs : List Int} {p Q : Nat} (hQ : leftP bs = (Q : Int)) : signM bs (p : Int) = (if p = 0 then ([45] : List UInt8) else if p = 10 ∧ freshB bs = true then [88] else if p = Q then [47] else [UInt8.ofNat (48 + p)]) := by
  unfold signM
  rw [hQ]
  have e1 : ((p : Int) = 0) = (p = 0) := by apply propext; omega
  have e2 : ((p : Int) = 10) = (p = 10) := by apply propext; omega
  have e3 : ((p : Int) = (Q : Int)) = (p = Q) := by apply propext; omega
  simp only [e1, e2, e3]
  simp [digP]
theorem sign_inj {bs : List Int} {p q : Int} (hp0 : 0 ≤ p) (hp : p ≤ leftP bs) (hq0 : 0 ≤ q) (hq : q ≤ leftP bs) (h : signM bs p = signM bs q) : p = q := by
  have hl := leftP_bd bs
  obtain ⟨Q, hQ⟩ : ∃ Q : Nat, leftP bs = (Q : Int) := ⟨(leftP bs).toNat, by omega⟩
  obtain ⟨a, rfl⟩ : ∃ a : Nat, p = (a : Int) := ⟨p.toNat, by omega⟩
  obtain ⟨b, rfl⟩ : ∃ b : Nat, q = (b : Int) := ⟨q.toNat, by omega⟩
  rw [sign_nat hQ, sign_nat hQ] at h
  have := sign_one Q (freshB bs) (by omega) ⟨a, by omega⟩ ⟨b, by omega⟩ (by simp only; omega) (by simp only; omega) h
  have := congrArg Fin.val this
  simp at this; omega
theorem signM_len (bs : List Int) (p : Int) : (signM bs p).length = 1 := by
  unfold signM digP
  split
  · rfl
  · split
    · rfl
    · split <;> rfl
/-- The text of rolls from a place on. -/
def txF (F : Nat) : St → List Int → List UInt8
  | _, [] => []
  | s, p :: l => signM s.2 p ++ txF F (stepG F s p) l
theorem text_game {F : Nat} : ∀ (l : List Int) (s t : St), InvG F s → gameG F s l = some t → textG t = textG s ++ txF F s l
  | [], s, t, _, h => by simp [gameG] at h; subst h; simp [txF]
  | p :: l, s, t, hi, h => by
    by_cases hf : fitsG F s p = true
    · simp only [gameG, hf, if_true] at h
      rw [text_game l _ _ (inv_step hi hf) h, text_step hi hf]
      simp [txF]
    · simp [gameG, hf] at h
theorem txF_inj {F : Nat} : ∀ (l l' : List Int) (s t t' : St), InvG F s → gameG F s l = some t → gameG F s l' = some t' → txF F s l = txF F s l' → l = l'
  | [], [], _, _, _, _, _, _, _ => rfl
  | [], q :: l', s, _, _, _, _, _, h => by
    have := congrArg List.length h
    simp [txF, signM_len] at this; omega
  | p :: l, [], s, _, _, _, _, _, h => by
    have := congrArg List.length h
    simp [txF, signM_len] at this
  | p :: l, q :: l', s, t, t', hi, h1, h2, h => by
    by_cases hf : fitsG F s p = true
    · by_cases hg : fitsG F s q = true
      · simp only [gameG, hf, hg, if_true] at h1 h2
        simp only [txF] at h
        obtain ⟨e1, e2⟩ := List.append_inj h (by rw [signM_len, signM_len])
        obtain ⟨-, p0, p1⟩ := fits_parts hf
        obtain ⟨-, q0, q1⟩ := fits_parts hg
        have e := sign_inj p0 p1 q0 q1 e1
        subst e
        rw [txF_inj l l' _ t t' (inv_step hi hf) h1 h2 e2]
      · simp [gameG, hg] at h2
    · simp [gameG, hf] at h1
/-- A text tells its rolls. -/
theorem text_inj {F : Nat} (hF : 1 ≤ F) {l l' : List Int} {t t' : St} (h1 : gameG F ([], []) l = some t) (h2 : gameG F ([], []) l' = some t') (h : textG t = textG t') : l = l' := by
  rw [text_game l _ _ (inv_start hF) h1, text_game l' _ _ (inv_start hF) h2] at h
  exact txF_inj l l' _ t t' (inv_start hF) h1 h2 (List.append_cancel_left h)
end Go.Proofs.YtgkkjlpfkoplhaaDoor
