/-
  Tennis: plain facts on orders of games: their points, how many there are, the first of them.
-/
import Derived.Test.YtaplkciomagmiabTnPlayMath
namespace Go.Proofs.Ytaplkciomagmiab

/-- The program's points of an order of games, and the model's. -/
def ptsI (a b : Int) : List UInt8 → List UInt8
  | [] => []
  | c :: r => List.replicate (if a = 6 ∧ b = 6 then 7 else 4) c ++ ptsI (a + upA c) (b + upB c) r
def ptsS (i : Nat) : List UInt8 → List UInt8
  | [] => []
  | c :: r => List.replicate (if i = 12 then 7 else 4) c ++ ptsS (i + 1) r

theorem ordI_cons {a b : Int} {c : UInt8} {r : List UInt8} (h : ordI a b (c :: r) = true) (hn : nearB a b = true) :
    (c = 97 ∨ c = 98) ∧ overB a b = false ∧ nearB (a + upA c) (b + upB c) = true ∧ ordI (a + upA c) (b + upB c) r = true := by
  unfold ordI at h
  split at h
  · rename_i hc
    have ho := (near_win hn).1 hc.2
    obtain ⟨n1, n2⟩ := near_step hn ho
    refine ⟨hc.1, ho, ?_⟩
    by_cases h1 : c = 97
    · rw [if_pos h1] at h; subst h1; simpa [upA, upB] using ⟨n1, h⟩
    · rw [if_neg h1] at h; simpa [upA, upB, h1] using ⟨n2, h⟩
  · exact absurd h (by simp)

theorem pts_eq : ∀ (l : List UInt8) (a b : Int) (i : Nat), nearB a b = true → ordI a b l = true → a + b = i → ptsI a b l = ptsS i l
  | [], _, _, _, _, _, _ => rfl
  | c :: r, a, b, i, hn, h, hi => by
    obtain ⟨hc, ho, hn', h'⟩ := ordI_cons h hn
    have hb := near_open hn ho
    have hu : upA c + upB c = 1 := by unfold upA upB; split <;> rfl
    rw [ptsI, ptsS, pts_eq r _ _ (i + 1) hn' h' (by omega)]
    have : (a = 6 ∧ b = 6) = (i = 12) := by simp; omega
    simp only [this]

theorem ptsS_len : ∀ (l : List UInt8) (i : Nat), (ptsS i l).length ≤ 7 * l.length
  | [], _ => by simp [ptsS]
  | c :: r, i => by
    have := ptsS_len r (i + 1)
    simp only [ptsS, List.length_append, List.length_replicate, List.length_cons]
    split <;> omega

/-- The model's way through all orders of games that go on from one. -/
def ordL : Nat → Int → Int → Int → Int → List UInt8 → List (List UInt8)
  | 0, _, _, _, _, _ => []
  | f + 1, a, b, x, y, g =>
    if x = a ∧ y = b then [g] else if overB x y then [] else
      (if x < a then ordL f a b (x + 1) y (g ++ [97]) else []) ++ (if y < b then ordL f a b x (y + 1) (g ++ [98]) else [])
def ordsL (a b : Int) : List (List UInt8) := ordL 14 a b 0 0 []

/-- The program's table: how many orders, and the first. -/
def entry := Int × List UInt8
def addE (e o : Int × List UInt8) (c : UInt8) : Int × List UInt8 :=
  (e.1 + o.1, if 0 < o.1 ∧ (e.1 = 0 ∨ decide (o.2 ++ [c] < e.2)) then o.2 ++ [c] else e.2)
def stepT (t : List (Int × List UInt8)) (x y : Nat) : List (Int × List UInt8) :=
  if winN x y = 0 then
    let o := t.getD (x * 8 + y) (0, [])
    let t1 := t.set ((x + 1) * 8 + y) (addE (t.getD ((x + 1) * 8 + y) (0, [])) o 97)
    t1.set (x * 8 + (y + 1)) (addE (t1.getD (x * 8 + (y + 1)) (0, [])) o 98)
  else t
def rowT (t : List (Int × List UInt8)) (x : Nat) : Nat → List (Int × List UInt8)
  | 0 => t
  | n + 1 => stepT (rowT t x n) x n
def headL (l : List (List UInt8)) : List UInt8 := l.headD []
end Go.Proofs.Ytaplkciomagmiab
