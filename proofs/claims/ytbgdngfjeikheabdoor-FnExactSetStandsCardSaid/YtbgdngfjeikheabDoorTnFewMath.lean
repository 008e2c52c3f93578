/-
  Tennis: plain facts on the fewest points to a set.
-/
import Derived.Test.YtbgdngfjeikheabDoorTnSetMath
namespace Go.Proofs.YtbgdngfjeikheabDoor

theorem playS_app : ∀ (r : List UInt8) (to a b : Int) (c : UInt8), (playS to a b r).2.2.2 = false →
    playS to a b (r ++ [c]) = ((playS to a b r).1 + upA c, (playS to a b r).2.1 + upB c, (playS to a b r).2.2.1 + 1, overR to ((playS to a b r).1 + upA c) ((playS to a b r).2.1 + upB c))
  | [], to, a, b, c, _ => by
    simp only [List.nil_append, playS]
    cases overR to (a + upA c) (b + upB c) <;> simp
  | d :: r, to, a, b, c, h => by
    cases ho : overR to (a + upA d) (b + upB d)
    · have hp : playS to a b (d :: r) = ((playS to (a + upA d) (b + upB d) r).1, (playS to (a + upA d) (b + upB d) r).2.1, (playS to (a + upA d) (b + upB d) r).2.2.1 + 1, (playS to (a + upA d) (b + upB d) r).2.2.2) := by rw [playS, if_neg (by simp [ho])]
      rw [hp] at h ⊢
      have ih := playS_app r to (a + upA d) (b + upB d) c h
      rw [List.cons_append, playS, if_neg (by simp [ho]), ih]
    · have hp : playS to a b (d :: r) = (a + upA d, b + upB d, 1, true) := by rw [playS, if_pos ho]
      rw [hp] at h; exact absurd h (by simp)
theorem playS_len : ∀ (r : List UInt8) (to a b : Int), (playS to a b r).2.2.1 ≤ r.length ∧ ((playS to a b r).2.2.2 = false → (playS to a b r).2.2.1 = r.length)
  | [], _, _, _ => by simp [playS]
  | d :: r, to, a, b => by
    have := playS_len r to (a + upA d) (b + upB d)
    unfold playS
    split
    · simp
    · simp; exact ⟨this.1, this.2⟩
theorem playS_app_end : ∀ (r : List UInt8) (to a b : Int) (m : List UInt8), (playS to a b r).2.2.2 = true → playS to a b (r ++ m) = playS to a b r
  | [], to, a, b, m, h => by simp [playS] at h
  | d :: r, to, a, b, m, h => by
    cases ho : overR to (a + upA d) (b + upB d)
    · have hp : playS to a b (d :: r) = ((playS to (a + upA d) (b + upB d) r).1, (playS to (a + upA d) (b + upB d) r).2.1, (playS to (a + upA d) (b + upB d) r).2.2.1 + 1, (playS to (a + upA d) (b + upB d) r).2.2.2) := by rw [playS, if_neg (by simp [ho])]
      rw [hp] at h ⊢
      have ih := playS_app_end r to (a + upA d) (b + upB d) m h
      rw [List.cons_append, playS, if_neg (by simp [ho]), ih]
    · have hp : ∀ q, playS to a b (d :: q) = (a + upA d, b + upB d, 1, true) := fun q => by rw [playS, if_pos ho]
      rw [List.cons_append, hp, hp]

/-- What an open set is: the games, the points of the next one. -/
structure OpenSet (G : List UInt8) (x y : Int) : Prop where
  near : nearB (cntA G) (cntB G) = true
  going : overB (cntA G) (cntB G) = false
  race : wonN (raceTo (cntA G) (cntB G)) x y = 0

theorem raceTo_pos (a b : Int) : 0 < raceTo a b := by unfold raceTo; split <;> decide

/-- A point more for an open set. -/
theorem set_app : ∀ (f : Nat) (G rest : List UInt8) (c : UInt8) (G' r' : List UInt8) (x y : Int), nearB (cntA G) (cntB G) = true → 14 ≤ (f : Int) + cntA G + cntB G →
    setS f G rest = (G', r', some (x, y)) →
    OpenSet G' x y ∧ setS f G (rest ++ [c]) =
      if wonN (raceTo (cntA G') (cntB G')) (x + upA c) (y + upB c) = 0 then (G', r' ++ [c], some (x + upA c, y + upB c))
      else (let H := G' ++ [sideC (wonN (raceTo (cntA G') (cntB G')) (x + upA c) (y + upB c))]; if overB (cntA H) (cntB H) then (H, [], none) else (H, [], some (0, 0)))
  | 0, G, rest, c, G', r', x, y, hn, hf, h => by simp [setS] at h
  | f + 1, G, rest, c, G', r', x, y, hn, hf, h => by
    cases ho : overB (cntA G) (cntB G)
    · have ng := near_game hn ho
      have hto := race_open (cntA G) (cntB G)
      have hS : ∀ q, setS (f + 1) G q = if (playS (raceTo (cntA G) (cntB G)) 0 0 q).2.2.2 = false then (G, q, some ((playS (raceTo (cntA G) (cntB G)) 0 0 q).1, (playS (raceTo (cntA G) (cntB G)) 0 0 q).2.1))
            else setS f (G ++ [if (playS (raceTo (cntA G) (cntB G)) 0 0 q).2.1 < (playS (raceTo (cntA G) (cntB G)) 0 0 q).1 then 97 else 98]) (q.drop (playS (raceTo (cntA G) (cntB G)) 0 0 q).2.2.1) := fun q => by
          rw [setS, if_neg (by simp [ho])]
      rw [hS] at h ⊢
      have hopen : (playS (raceTo (cntA G) (cntB G)) 0 0 rest).2.2.2 = false → wonN (raceTo (cntA G) (cntB G)) (playS (raceTo (cntA G) (cntB G)) 0 0 rest).1 (playS (raceTo (cntA G) (cntB G)) 0 0 rest).2.1 = 0 := by
        have : ∀ (r : List UInt8) (to a b : Int), wonN to a b = 0 → (playS to a b r).2.2.2 = false → wonN to (playS to a b r).1 (playS to a b r).2.1 = 0 := by
          intro r
          induction r with
          | nil => intro to a b hw _; exact hw
          | cons d r ih =>
            intro to a b hw he
            cases hv : overR to (a + upA d) (b + upB d)
            · rw [playS, if_neg (by simp [hv])] at he ⊢
              exact ih to _ _ (overR_false.1 hv) he
            · rw [playS, if_pos hv] at he; exact absurd he (by simp)
        exact this rest _ 0 0 hto
      have hpl := playS_len rest (raceTo (cntA G) (cntB G)) 0 0
      have happ := playS_app rest (raceTo (cntA G) (cntB G)) 0 0 c
      have hend := playS_app_end rest (raceTo (cntA G) (cntB G)) 0 0 [c]
      have hwon : (playS (raceTo (cntA G) (cntB G)) 0 0 rest).2.2.2 = true → wonN (raceTo (cntA G) (cntB G)) (playS (raceTo (cntA G) (cntB G)) 0 0 rest).1 (playS (raceTo (cntA G) (cntB G)) 0 0 rest).2.1 ≠ 0 := by
        have : ∀ (r : List UInt8) (to a b : Int), (playS to a b r).2.2.2 = true → wonN to (playS to a b r).1 (playS to a b r).2.1 ≠ 0 := by
          intro r
          induction r with
          | nil => intro to a b he; simp [playS] at he
          | cons d r ih =>
            intro to a b he
            cases hv : overR to (a + upA d) (b + upB d)
            · rw [playS, if_neg (by simp [hv])] at he ⊢
              exact ih to _ _ he
            · rw [playS, if_pos hv]; exact overR_true.1 hv
        exact this rest _ 0 0
      generalize hto' : raceTo (cntA G) (cntB G) = to at *
      generalize playS to 0 0 rest = p at *
      obtain ⟨px, py, n, e⟩ := p
      simp only at *
      cases e
      · rw [if_pos rfl] at h
        simp only [Prod.mk.injEq, Option.some.injEq] at h
        obtain ⟨rfl, rfl, rfl, rfl⟩ := h
        have hw := hopen rfl
        refine ⟨⟨hn, ho, by rw [hto']; exact hw⟩, ?_⟩
        rw [happ rfl, hto']
        simp only
        rw [hpl.2 rfl]
        by_cases hq : wonN to (px + upA c) (py + upB c) = 0
        · rw [if_pos (overR_false.2 hq), if_pos hq]
        · have hov : overR to (px + upA c) (py + upB c) = true := overR_true.2 hq
          rw [if_neg (by simp [hov]), if_neg hq, won_side hq]
          obtain ⟨m1, m2⟩ := ng (wonN to (px + upA c) (py + upB c))
          rw [show (rest ++ [c]).drop (rest.length + 1) = [] from by simp]
          obtain ⟨f', rfl⟩ : ∃ f', f = f' + 1 := ⟨f - 1, by have := near_open hn ho; omega⟩
          rw [setS]
          cases hov2 : overB (cntA (G ++ [sideC (wonN to (px + upA c) (py + upB c))])) (cntB (G ++ [sideC (wonN to (px + upA c) (py + upB c))]))
          · simp [playS]
          · simp
      · rw [if_neg (by simp)] at h
        rw [hend rfl]
        simp only
        rw [if_neg (by simp)]
        have hw := hwon rfl
        rw [won_side hw] at h ⊢
        obtain ⟨m1, m2⟩ := ng (wonN to px py)
        rw [show (rest ++ [c]).drop n = rest.drop n ++ [c] from List.drop_append_of_le_length hpl.1]
        exact set_app f _ _ c G' r' x y m1 (by omega) h
    · rw [setS, if_pos ho] at h; simp at h

/-- The least number of points to win a race that is open, and a set. -/
def fewR (to x y : Int) (c : UInt8) : Int := max (to - if c = 97 then x else y) (2 - (2 * (if c = 97 then x else y) - x - y))
def fewS : Nat → Int → Int → Int → Int → UInt8 → Int
  | 0, _, _, _, _, _ => 0
  | f + 1, a, b, x, y, c => if winN a b ≠ 0 then 0 else fewR (raceTo a b) x y c + fewS f (a + upA c) (b + upB c) 0 0 c

theorem few_step {to x y : Int} {c : UInt8} (hc : c = 97 ∨ c = 98) (h : wonN to x y = 0) :
    1 ≤ fewR to x y c ∧ (wonN to (x + upA c) (y + upB c) = 0 → fewR to (x + upA c) (y + upB c) c = fewR to x y c - 1) ∧
    (wonN to (x + upA c) (y + upB c) ≠ 0 → fewR to x y c = 1 ∧ sideC (wonN to (x + upA c) (y + upB c)) = c) := by
  unfold wonN at *
  unfold fewR sideC upA upB
  rcases hc with rfl | rfl
  · simp only [if_true]
    by_cases h1 : to ≤ x ∧ 2 ≤ x - y
    · rw [if_pos h1] at h; exact absurd h (by simp)
    rw [if_neg h1] at h
    by_cases h2 : to ≤ y ∧ 2 ≤ y - x
    · rw [if_pos h2] at h; exact absurd h (by simp)
    by_cases h3 : to ≤ x + 1 ∧ 2 ≤ x + 1 - (y + 0)
    · rw [if_pos h3]; exact ⟨by omega, by simp, fun _ => ⟨by omega, rfl⟩⟩
    · rw [if_neg h3]
      have h4 : ¬ (to ≤ y + 0 ∧ 2 ≤ y + 0 - (x + 1)) := by omega
      rw [if_neg h4]; exact ⟨by omega, fun _ => by omega, by simp⟩
  · have hne : ¬ (98 : UInt8) = 97 := by decide
    simp only [if_neg hne]
    by_cases h1 : to ≤ x ∧ 2 ≤ x - y
    · rw [if_pos h1] at h; exact absurd h (by simp)
    rw [if_neg h1] at h
    by_cases h2 : to ≤ y ∧ 2 ≤ y - x
    · rw [if_pos h2] at h; exact absurd h (by simp)
    have h3 : ¬ (to ≤ x + 0 ∧ 2 ≤ x + 0 - (y + 1)) := by omega
    rw [if_neg h3]
    by_cases h4 : to ≤ y + 1 ∧ 2 ≤ y + 1 - (x + 0)
    · rw [if_pos h4]; exact ⟨by omega, by simp, fun _ => ⟨by omega, rfl⟩⟩
    · rw [if_neg h4]; exact ⟨by omega, fun _ => by omega, by simp⟩

end Go.Proofs.YtbgdngfjeikheabDoor
