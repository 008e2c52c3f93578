/-
  Pins, plain facts: games that are played on.
-/
import Derived.Test.YtgkkjlpfkoplhaaGreatDoorPnScore
namespace Go.Proofs.YtgkkjlpfkoplhaaGreatDoor.Pn

def mG (F : Nat) (s : St) : Nat := 3 * (F - s.1.length) - s.2.length
def fillN (pick : Int → Bool → Int) (F : Nat) : Nat → St → List Int
  | 0, _ => []
  | n + 1, s => if overG F s then [] else pick (leftP s.2) (lastG F s) :: fillN pick F n (stepG F s (pick (leftP s.2) (lastG F s)))
/-- The balls with which somebody plays on. -/
def fillG (pick : Int → Bool → Int) (F : Nat) (s : St) : List Int := fillN pick F (mG F s) s
def fairP (pick : Int → Bool → Int) : Prop := ∀ st last, 1 ≤ st → st ≤ 10 → 0 ≤ pick st last ∧ pick st last ≤ st
theorem open_len {last : Bool} {bs : List Int} (h : openB last bs) : bs.length ≤ 2 := by
  match bs, h with
  | [], _ => simp
  | [a], _ => simp
  | [a, b], _ => simp
theorem over_false {F : Nat} {s : St} (h : InvG F s) (ho : overG F s = false) : s.1.length < F := by
  have := h.1
  simp [overG] at ho; omega
theorem mG_pos {F : Nat} {s : St} (h : InvG F s) (ho : overG F s = false) : 1 ≤ mG F s := by
  have := open_len (inv_open h ho)
  have := over_false h ho
  unfold mG; omega
theorem mG_step {F : Nat} {s : St} (h : InvG F s) (ho : overG F s = false) (p : Int) : mG F (stepG F s p) < mG F s := by
  have := open_len (inv_open h ho)
  have := over_false h ho
  unfold mG stepG
  split <;> simp <;> omega
theorem fits_pick {F : Nat} {s : St} (ho : overG F s = false) {pick : Int → Bool → Int} (hp : fairP pick) : fitsG F s (pick (leftP s.2) (lastG F s)) = true := by
  have := leftP_bd s.2
  have := hp (leftP s.2) (lastG F s) this.1 this.2
  simp [fitsG, ho, this]
theorem fillN_eq {pick : Int → Bool → Int} {F : Nat} (hp : fairP pick) : ∀ (n m : Nat) (s : St), InvG F s → mG F s ≤ n → mG F s ≤ m → fillN pick F n s = fillN pick F m s
  | 0, m, s, hi, hn, hm => by
    cases ho : overG F s
    · have := mG_pos hi ho; omega
    · cases m <;> simp [fillN, ho]
  | n + 1, 0, s, hi, hn, hm => by
    cases ho : overG F s
    · have := mG_pos hi ho; omega
    · simp [fillN, ho]
  | n + 1, m + 1, s, hi, hn, hm => by
    cases ho : overG F s
    · have hf := fits_pick ho hp
      have := mG_step hi ho (pick (leftP s.2) (lastG F s))
      simp only [fillN, ho, Bool.false_eq_true, if_false]
      rw [fillN_eq hp n m _ (inv_step hi hf) (by omega) (by omega)]
    · simp [fillN, ho]
theorem fill_over {pick : Int → Bool → Int} {F : Nat} {s : St} (ho : overG F s = true) : fillG pick F s = [] := by
  unfold fillG
  cases mG F s <;> simp [fillN, ho]
theorem fill_step {pick : Int → Bool → Int} {F : Nat} {s : St} (hp : fairP pick) (hi : InvG F s) (ho : overG F s = false) :
    fillG pick F s = pick (leftP s.2) (lastG F s) :: fillG pick F (stepG F s (pick (leftP s.2) (lastG F s))) := by
  have h1 := mG_pos hi ho
  have hf := fits_pick ho hp
  have h2 := mG_step hi ho (pick (leftP s.2) (lastG F s))
  obtain ⟨n, hn⟩ : ∃ n, mG F s = n + 1 := ⟨mG F s - 1, by omega⟩
  unfold fillG
  rw [hn, fillN, ho]
  simp only [Bool.false_eq_true, if_false]
  rw [fillN_eq hp n _ _ (inv_step hi hf) (by omega) (Nat.le_refl _)]
theorem fill_game {pick : Int → Bool → Int} {F : Nat} (hp : fairP pick) : ∀ (n : Nat) (s : St), InvG F s → mG F s ≤ n → ∃ t, gameG F s (fillG pick F s) = some t ∧ overG F t = true ∧ InvG F t
  | 0, s, hi, hn => by
    cases ho : overG F s
    · have := mG_pos hi ho; omega
    · exact ⟨s, by rw [fill_over ho]; rfl, ho, hi⟩
  | n + 1, s, hi, hn => by
    cases ho : overG F s
    · have hf := fits_pick ho hp
      have := mG_step hi ho (pick (leftP s.2) (lastG F s))
      obtain ⟨t, h1, h2, h3⟩ := fill_game hp n _ (inv_step hi hf) (by omega)
      refine ⟨t, ?_, h2, h3⟩
      rw [fill_step hp hi ho, gameG, if_pos hf]
      exact h1
    · exact ⟨s, by rw [fill_over ho]; rfl, ho, hi⟩
theorem fill_len_le {pick : Int → Bool → Int} {F : Nat} : ∀ (n : Nat) (s : St), (fillN pick F n s).length ≤ n
  | 0, _ => by simp [fillN]
  | n + 1, s => by
    simp only [fillN]
    split
    · simp
    · have := fill_len_le (pick := pick) (F := F) n (stepG F s (pick (leftP s.2) (lastG F s)))
      simp; exact this

def pickAll (st : Int) (_ : Bool) : Int := st
def pickNone (_ : Int) (_ : Bool) : Int := 0
def pickFew (st : Int) (last : Bool) : Int := if last then 0 else st
def pickMany (st : Int) (last : Bool) : Int := if last then st else 0
theorem fair_all : fairP pickAll := fun st _ h _ => by unfold pickAll; omega
theorem fair_none : fairP pickNone := fun st _ h _ => by unfold pickNone; omega
theorem fair_few : fairP pickFew := fun st last h _ => by unfold pickFew; split <;> omega
theorem fair_many : fairP pickMany := fun st last h _ => by unfold pickMany; split <;> omega

/-- How many balls the model says are left. -/
def leastLeft (F : Nat) (s : St) : Nat :=
  if overG F s then 0 else
  if lastG F s then (if s.2.length = 0 then 2 else if s.2.length = 1 ∧ s.2.getD 0 0 = 10 then 2 else 1)
  else (F - 1 - s.1.length) + 2
def mostLeft (F : Nat) (s : St) : Nat :=
  if overG F s then 0 else
  if lastG F s then (if s.2.length = 0 then 3 else if s.2.length = 1 then 2 else 1)
  else if s.2.length = 1 then 1 + 2 * (F - 1 - s.1.length - 1) + 3 else 2 * (F - 1 - s.1.length) + 3
theorem few_len {F : Nat} : ∀ (n : Nat) (s : St), InvG F s → mG F s ≤ n → (fillG pickFew F s).length = leastLeft F s
  | 0, s, hi, hn => by
    cases ho : overG F s
    · have := mG_pos hi ho; omega
    · rw [fill_over ho]; simp [leastLeft, ho]
  | n + 1, s, hi, hn => by
    cases ho : overG F s
    · have hf := fits_pick ho fair_few
      have hm := mG_step hi ho (pickFew (leftP s.2) (lastG F s))
      have hlt := over_false hi ho
      have hop := inv_open hi ho
      have hi2 := inv_step hi hf
      have ih := few_len n _ hi2 (by omega)
      rw [fill_step fair_few hi ho, List.length_cons, ih]
      cases hl : lastG F s
      · obtain ⟨r1, r2⟩ := roll_mid hi hf hl
        rw [hl] at hop
        have hd : ¬ s.1.length + 1 = F := by simpa [lastG] using hl
        have hpk : pickFew (leftP s.2) (lastG F s) = leftP s.2 := by simp [pickFew, hl]
        rw [hl] at hpk
        rw [hl, hpk] at r1
        rw [hpk]
        obtain ⟨e, eo⟩ := r1 (.inl (by omega))
        rw [e] at eo ⊢
        have h1 : leastLeft F s = (F - 1 - s.1.length) + 2 := by simp [leastLeft, ho, hl]
        rw [h1]
        unfold leastLeft
        rw [eo]
        simp only [Bool.false_eq_true, if_false, List.length_nil, if_true]
        split
        · rename_i h2; simp [lastG] at h2; omega
        · rename_i h2; simp [lastG] at h2; simp; omega
      · rw [hl] at hop
        have hd : s.1.length + 1 = F := by simpa [lastG] using hl
        have hpk : pickFew (leftP s.2) true = 0 := by simp [pickFew]
        rw [hpk]
        have key : ∀ (d : List (List Int)) (bs : List Int), d.length + 1 = F → leastLeft F (d, bs) = (if bs.length = 0 then 2 else if bs.length = 1 ∧ bs.getD 0 0 = 10 then 2 else 1) := by
          intro d bs hh
          have : ¬ d.length = F := by omega
          simp [leastLeft, overG, lastG, this, hh]
        have keyO : ∀ (d : List (List Int)), d.length = F → leastLeft F (d, []) = 0 := by
          intro d hh; simp [leastLeft, overG, hh]
        obtain ⟨d, bs⟩ := s
        simp only at hd hop hl ⊢
        rw [key d bs hd]
        match bs, hop with
        | [], _ =>
          have e : stepG F (d, []) 0 = (d, [0]) := by simp [stepG, hl, endedF, inF, cntF, strikeB, spareB]
          rw [e, key d _ hd]; simp
        | [a], hop =>
          simp only [openB] at hop; simp at hop
          by_cases ha : a = 10
          · subst ha
            have e : stepG F (d, [10]) 0 = (d, [10, 0]) := by simp [stepG, hl, endedF, inF, cntF, strikeB, spareB]
            rw [e, key d _ hd]; simp
          · have e : stepG F (d, [a]) 0 = (d ++ [[a, 0]], []) := by simp [stepG, hl, endedF, inF, cntF, strikeB, spareB, ha]
            rw [e, keyO _ (by simp; omega)]; simp [ha]
        | [a, b], hop =>
          simp only [openB] at hop
          obtain ⟨-, h2, h3, h4, h5, h6⟩ := hop
          have e : stepG F (d, [a, b]) 0 = (d ++ [[a, b, 0]], []) := by
            rcases h6 with rfl | h6
            · simp [stepG, hl, endedF, inF, cntF, strikeB, spareB]
            · simp [stepG, hl, endedF, inF, cntF, strikeB, spareB, h6]
          rw [e, keyO _ (by simp; omega)]; simp
    · rw [fill_over ho]; simp [leastLeft, ho]
theorem many_len {F : Nat} : ∀ (n : Nat) (s : St), InvG F s → mG F s ≤ n → (fillG pickMany F s).length = mostLeft F s
  | 0, s, hi, hn => by
    cases ho : overG F s
    · have := mG_pos hi ho; omega
    · rw [fill_over ho]; simp [mostLeft, ho]
  | n + 1, s, hi, hn => by
    cases ho : overG F s
    · have hf := fits_pick ho fair_many
      have hm := mG_step hi ho (pickMany (leftP s.2) (lastG F s))
      have hlt := over_false hi ho
      have hop := inv_open hi ho
      have hi2 := inv_step hi hf
      have ih := many_len n _ hi2 (by omega)
      rw [fill_step fair_many hi ho, List.length_cons, ih]
      cases hl : lastG F s
      · rw [hl] at hop
        have hd : ¬ s.1.length + 1 = F := by simpa [lastG] using hl
        have hpk : pickMany (leftP s.2) false = 0 := by simp [pickMany]
        rw [hpk]
        obtain ⟨d, bs⟩ := s
        simp only at hd hop hl hlt ⊢
        have hne : ¬ d.length = F := by omega
        match bs, hop with
        | [], _ =>
          have e : stepG F (d, []) 0 = (d, [0]) := by simp [stepG, hl, endedF, inF, strikeB]
          rw [e]
          simp [mostLeft, overG, lastG, hd, hne]; omega
        | [a], hop =>
          simp only [openB] at hop; simp at hop
          have h10 : (a == 10) = false := by simp; omega
          have e : stepG F (d, [a]) 0 = (d ++ [[a, 0]], []) := by simp [stepG, hl, endedF, inF, strikeB, h10]
          rw [e]
          have x1 : mostLeft F (d, [a]) = 1 + 2 * (F - 1 - d.length - 1) + 3 := by simp [mostLeft, overG, lastG, hne, hd]
          rw [x1]
          by_cases h2 : d.length + 1 + 1 = F
          · have x2 : mostLeft F (d ++ [[a, 0]], []) = 3 := by simp [mostLeft, overG, lastG, hd, h2]
            rw [x2]; omega
          · have x2 : mostLeft F (d ++ [[a, 0]], []) = 2 * (F - 1 - (d.length + 1)) + 3 := by simp [mostLeft, overG, lastG, hd, h2]
            rw [x2]; omega
        | [_, _], hop => exact absurd hop.1 (by simp)
        | _ :: _ :: _ :: _, hop => exact absurd hop (by simp [openB])
      · rw [hl] at hop
        have hd : s.1.length + 1 = F := by simpa [lastG] using hl
        have hpk : pickMany (leftP s.2) true = leftP s.2 := by simp [pickMany]
        rw [hpk]
        have key : ∀ (d : List (List Int)) (bs : List Int), d.length + 1 = F → mostLeft F (d, bs) = (if bs.length = 0 then 3 else if bs.length = 1 then 2 else 1) := by
          intro d bs hh
          have : ¬ d.length = F := by omega
          simp [mostLeft, overG, lastG, this, hh]
        have keyO : ∀ (d : List (List Int)), d.length = F → mostLeft F (d, []) = 0 := by
          intro d hh; simp [mostLeft, overG, hh]
        obtain ⟨d, bs⟩ := s
        simp only at hd hop hl ⊢
        rw [key d bs hd]
        match bs, hop with
        | [], _ =>
          have e : stepG F (d, []) (leftP []) = (d, [10]) := by simp [stepG, hl, endedF, inF, cntF, strikeB, spareB, leftP]
          rw [e, key d _ hd]; simp
        | [a], hop =>
          simp only [openB] at hop; simp at hop
          by_cases ha : a = 10
          · subst ha
            have e : stepG F (d, [10]) (leftP [10]) = (d, [10, 10]) := by simp [stepG, hl, endedF, inF, cntF, strikeB, spareB, leftP]
            rw [e, key d _ hd]; simp
          · have hlp : leftP [a] = 10 - a := by simp [leftP]; omega
            have e : stepG F (d, [a]) (leftP [a]) = (d, [a, 10 - a]) := by
              have : a + (10 - a) = 10 := by omega
              rw [hlp]; simp [stepG, hl, endedF, inF, cntF, strikeB, spareB, this]
            rw [e, key d _ hd]; simp
        | [a, b], hop =>
          simp only [openB] at hop
          obtain ⟨-, h2, h3, h4, h5, h6⟩ := hop
          have e : stepG F (d, [a, b]) (leftP [a, b]) = (d ++ [[a, b, leftP [a, b]]], []) := by
            rcases h6 with rfl | h6
            · simp [stepG, hl, endedF, inF, cntF, strikeB, spareB]
            · simp [stepG, hl, endedF, inF, cntF, strikeB, spareB, h6]
          rw [e, keyO _ (by simp; omega)]; simp
    · rw [fill_over ho]; simp [mostLeft, ho]
end Go.Proofs.YtgkkjlpfkoplhaaGreatDoor.Pn
