/-
  Tennis: plain facts on sets: the program's way through the points and the model's.
-/
import Derived.Test.YtgkkjlpfkoplhaaGreatDoorTnPlayMath
namespace Go.Proofs.YtgkkjlpfkoplhaaGreatDoor

theorem stray_won : ∀ (l : List UInt8) (to a b : Int) (k : Nat), stray to a b l = some (k, true) → wonN to (a + cntA (l.take k)) (b + cntB (l.take k)) ≠ 0
  | [], _, _, _, _, h => by simp [stray] at h
  | c :: r, to, a, b, k, h => by
    unfold stray at h
    split at h
    · rename_i hw; simp at h; subst h; simpa [cntA_nil, cntB_nil] using hw
    · split at h
      · rename_i hc
        rw [Option.map_eq_some_iff] at h
        obtain ⟨⟨j, e⟩, hj, he⟩ := h
        simp at he
        obtain ⟨rfl, rfl⟩ := he
        have := stray_won r to _ _ j hj
        rw [List.take_succ_cons, cntA_cons, cntB_cons hc, show a + (upA c + cntA (r.take j)) = a + upA c + cntA (r.take j) from by omega, show b + (upB c + cntB (r.take j)) = b + upB c + cntB (r.take j) from by omega]
        exact this
      · simp at h

def cutI (to : Int) (l : List UInt8) : Option (List UInt8 × List UInt8) :=
  if 300 < l.length then none else match stray to 0 0 l with
    | none => some (l, [])
    | some (k, true) => some (l.take k, l.drop k)
    | some (_, false) => none
def raceTo (a b : Int) : Int := if a = 6 ∧ b = 6 then 7 else 4
def sideC (w : Nat) : UInt8 := if w = 1 then 97 else 98

/-- The program: games that have ended, and the points of the next one. -/
def setI : Nat → List UInt8 → List UInt8 → Option (List UInt8 × Int × Int)
  | 0, _, _ => none
  | f + 1, G, rest =>
    if winN (cntA G) (cntB G) ≠ 0 then (if rest = [] then some (G, 0, 0) else none)
    else match cutI (raceTo (cntA G) (cntB G)) rest with
      | none => none
      | some (g, bh) =>
        if wonN (raceTo (cntA G) (cntB G)) (cntA g) (cntB g) = 0 then some (G, cntA g, cntB g)
        else setI f (G ++ [sideC (wonN (raceTo (cntA G) (cntB G)) (cntA g) (cntB g))]) bh

/-- The model: games that have ended, what is left of the points, the points of the next one if the set goes on. -/
def setS : Nat → List UInt8 → List UInt8 → List UInt8 × List UInt8 × Option (Int × Int)
  | 0, G, rest => (G, rest, none)
  | f + 1, G, rest =>
    if overB (cntA G) (cntB G) then (G, rest, none)
    else if (playS (raceTo (cntA G) (cntB G)) 0 0 rest).2.2.2 = false then (G, rest, some ((playS (raceTo (cntA G) (cntB G)) 0 0 rest).1, (playS (raceTo (cntA G) (cntB G)) 0 0 rest).2.1))
    else setS f (G ++ [if (playS (raceTo (cntA G) (cntB G)) 0 0 rest).2.1 < (playS (raceTo (cntA G) (cntB G)) 0 0 rest).1 then 97 else 98]) (rest.drop (playS (raceTo (cntA G) (cntB G)) 0 0 rest).2.2.1)
def okS (x : List UInt8 × List UInt8 × Option (Int × Int)) : Bool := x.2.2.isSome || x.2.1.isEmpty
def nextS (x : List UInt8 × List UInt8 × Option (Int × Int)) : Int × Int := x.2.2.getD (0, 0)

theorem cntA_app (l m : List UInt8) : cntA (l ++ m) = cntA l + cntA m := by simp [cntA]
theorem cntB_app (l m : List UInt8) : cntB (l ++ m) = cntB l + cntB m := by simp [cntB]
theorem near_game {G : List UInt8} (h : nearB (cntA G) (cntB G) = true) (ho : overB (cntA G) (cntB G) = false) (w : Nat) : nearB (cntA (G ++ [sideC w])) (cntB (G ++ [sideC w])) = true ∧ cntA (G ++ [sideC w]) + cntB (G ++ [sideC w]) = cntA G + cntB G + 1 := by
  obtain ⟨n1, n2⟩ := near_step h ho
  rw [cntA_app, cntB_app]
  unfold sideC
  split
  · exact ⟨by simpa [cntA, cntB] using n1, by simp [cntA, cntB]; omega⟩
  · exact ⟨by simpa [cntA, cntB] using n2, by simp [cntA, cntB]; omega⟩
theorem race_open (a b : Int) : wonN (raceTo a b) 0 0 = 0 := by unfold wonN raceTo; split <;> simp
theorem won_side {to x y : Int} (h : wonN to x y ≠ 0) : (if y < x then (97 : UInt8) else 98) = sideC (wonN to x y) := by
  unfold wonN at *
  unfold sideC
  by_cases h1 : to ≤ x ∧ 2 ≤ x - y
  · rw [if_pos h1, if_pos (by omega)]; rfl
  · rw [if_neg h1] at h ⊢
    by_cases h2 : to ≤ y ∧ 2 ≤ y - x
    · rw [if_pos h2, if_neg (by omega)]; rfl
    · rw [if_neg h2] at h; exact absurd rfl h

theorem set_eq : ∀ (f : Nat) (G rest : List UInt8), nearB (cntA G) (cntB G) = true → 14 ≤ (f : Int) + cntA G + cntB G → rest.length ≤ 300 →
    setI f G rest = if abL rest && okS (setS f G rest) then some ((setS f G rest).1, (nextS (setS f G rest)).1, (nextS (setS f G rest)).2) else none
  | 0, G, rest, hn, hf, _ => by
    have := near_bd hn; simp at hf; omega
  | f + 1, G, rest, hn, hf, hl => by
    cases ho : overB (cntA G) (cntB G)
    · have hw := (near_win hn).2 ho
      have ng := near_game hn ho
      have hto := race_open (cntA G) (cntB G)
      have hI : setI (f + 1) G rest = match cutI (raceTo (cntA G) (cntB G)) rest with
          | none => none
          | some (g, bh) => if wonN (raceTo (cntA G) (cntB G)) (cntA g) (cntB g) = 0 then some (G, cntA g, cntB g)
            else setI f (G ++ [sideC (wonN (raceTo (cntA G) (cntB G)) (cntA g) (cntB g))]) bh := by
        rw [setI, if_neg (by simp [hw])]
      cases ha : abL rest
      · simp only [Bool.false_and, Bool.false_eq_true, if_false]
        rw [hI]
        generalize raceTo (cntA G) (cntB G) = to at *
        unfold cutI
        rw [if_neg (by omega)]
        have hb := stray_bad rest to 0 0 ha
        cases hs : stray to 0 0 rest with
        | none => exact absurd hs hb
        | some x =>
          obtain ⟨k, e⟩ := x
          cases e
          · rfl
          · obtain ⟨h1, h2⟩ := stray_end _ _ _ _ _ hs
            have h3 := stray_won _ _ _ _ _ hs
            simp only [Int.zero_add] at h3
            simp only
            rw [if_neg h3]
            obtain ⟨m1, m2⟩ := ng (wonN to (cntA (rest.take k)) (cntB (rest.take k)))
            have hd : abL (rest.drop k) = false := by
              cases hd : abL (rest.drop k)
              · rfl
              · have := abL_append.2 ⟨h2, hd⟩; rw [List.take_append_drop, ha] at this; exact absurd this (by simp)
            rw [set_eq f _ _ m1 (by omega) (by simp; omega), hd]
            simp
      · have hp := play_stray rest (raceTo (cntA G) (cntB G)) 0 0 ha hto
        have hS : setS (f + 1) G rest = if (playS (raceTo (cntA G) (cntB G)) 0 0 rest).2.2.2 = false then (G, rest, some ((playS (raceTo (cntA G) (cntB G)) 0 0 rest).1, (playS (raceTo (cntA G) (cntB G)) 0 0 rest).2.1))
            else setS f (G ++ [if (playS (raceTo (cntA G) (cntB G)) 0 0 rest).2.1 < (playS (raceTo (cntA G) (cntB G)) 0 0 rest).1 then 97 else 98]) (rest.drop (playS (raceTo (cntA G) (cntB G)) 0 0 rest).2.2.1) := by
          rw [setS, if_neg (by simp [ho])]
        rw [hI]
        generalize raceTo (cntA G) (cntB G) = to at *
        generalize playS to 0 0 rest = p at *
        obtain ⟨x, y, n, e⟩ := p
        simp only [Int.zero_add] at hp
        obtain ⟨i1, i2, i3, i4, i5, i6, i7⟩ := hp
        have hcut : cutI to rest = some (rest.take n, rest.drop n) := by
          unfold cutI
          rw [if_neg (by omega), i7]
          by_cases hq : n = rest.length
          · rw [if_pos hq]; simp [hq]
          · rw [if_neg hq]
        rw [hcut]
        simp only
        rw [← i2, ← i3]
        cases e
        · have hw0 : wonN to x y = 0 := by
            by_cases h0 : wonN to x y = 0
            · exact h0
            · exact absurd (i4.1 h0) (by simp)
          rw [if_pos hw0, hS]; simp [okS, nextS]
        · have hw0 : wonN to x y ≠ 0 := i4.2 rfl
          have hS' : setS (f + 1) G rest = setS f (G ++ [sideC (wonN to x y)]) (rest.drop n) := by
            rw [hS, if_neg (by simp)]; simp only; rw [won_side hw0]
          rw [if_neg hw0, hS']
          obtain ⟨m1, m2⟩ := ng (wonN to x y)
          have hd : abL (rest.drop n) = true := by
            rw [← List.take_append_drop n rest] at ha
            exact (abL_append.1 ha).2
          rw [set_eq f _ _ m1 (by omega) (by simp; omega), hd]
    · have hw : winN (cntA G) (cntB G) ≠ 0 := fun e => by rw [(near_win hn).1 e] at ho; exact absurd ho (by simp)
      have hS : setS (f + 1) G rest = (G, rest, none) := by rw [setS, if_pos ho]
      rw [setI, if_pos hw, hS]
      by_cases hr : rest = []
      · subst hr; simp [okS, nextS, abL]
      · rw [if_neg hr]; simp [okS, hr]

/-- The points of a set: the program's answer, the model's. -/
def goodS (l : List UInt8) : Bool := decide (l.length ≤ 300) && abL l && okS (setS 14 [] l)
theorem setI_good (l : List UInt8) : setI 14 [] l = if goodS l then some ((setS 14 [] l).1, (nextS (setS 14 [] l)).1, (nextS (setS 14 [] l)).2) else none := by
  by_cases hl : l.length ≤ 300
  · rw [set_eq 14 [] l (by decide) (by decide) hl]; simp [goodS, hl]
  · have : goodS l = false := by simp [goodS, hl]
    rw [this, setI, if_neg (by decide), cutI, if_pos (by omega)]; simp

end Go.Proofs.YtgkkjlpfkoplhaaGreatDoor
