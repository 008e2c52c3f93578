/-
  Goals, plain facts: letters, games, scores.
-/
import Derived.Test.YtgkkjlpfkoplhaaDoorGoMath
import Derived.Lib.IndexBytes
namespace Go.Proofs.YtgkkjlpfkoplhaaDoor
set_option linter.unusedVariables false

def firstL : List UInt8 := [97, 98, 99, 100, 101]
def secondL : List UInt8 := [65, 66, 67, 68, 69]
theorem idx1_all : ∀ n < 6, ∀ m < 256, Lib.indexByte (firstL.take n) (UInt8.ofNat m) = if 97 ≤ m ∧ m < 97 + n then ((m - 97 : Nat) : Int) else -1 := by decide +kernel
theorem idx2_all : ∀ n < 6, ∀ m < 256, Lib.indexByte (secondL.take n) (UInt8.ofNat m) = if 65 ≤ m ∧ m < 65 + n then ((m - 65 : Nat) : Int) else -1 := by decide +kernel
theorem idx1 {n : Nat} (hn : n ≤ 5) (c : UInt8) : Lib.indexByte (firstL.take n) c = if 97 ≤ c.toNat ∧ c.toNat < 97 + n then ((c.toNat - 97 : Nat) : Int) else -1 := by
  have := idx1_all n (by omega) c.toNat (UInt8.toNat_lt c)
  rwa [UInt8.ofNat_toNat] at this
theorem idx2 {n : Nat} (hn : n ≤ 5) (c : UInt8) : Lib.indexByte (secondL.take n) c = if 65 ≤ c.toNat ∧ c.toNat < 65 + n then ((c.toNat - 65 : Nat) : Int) else -1 := by
  have := idx2_all n (by omega) c.toNat (UInt8.toNat_lt c)
  rwa [UInt8.ofNat_toNat] at this

/-- What a letter scores for both sides. -/
def goalG (ks : List Int) (c : UInt8) : Option (Int × Int) :=
  if 97 ≤ c.toNat ∧ c.toNat < 97 + ks.length then some (ks.getD (c.toNat - 97) 0, 0)
  else if 65 ≤ c.toNat ∧ c.toNat < 65 + ks.length then some (0, ks.getD (c.toNat - 65) 0) else none
/-- What all letters score. -/
def goalsG (ks : List Int) : List UInt8 → Option (List (Int × Int))
  | [] => some []
  | c :: r => match goalG ks c with
    | none => none
    | some x => (goalsG ks r).map (x :: ·)
/-- The goals of a game. -/
def gameG (ks : List Int) (g : List UInt8) : Option (List (Int × Int)) := if g.length ≤ 60 then goalsG ks g else none
def playG (ks : List Int) (g : List UInt8) : Option (List (Int × Int)) := if goodK ks = true then gameG ks g else none

theorem goalsG_snoc (ks : List Int) (c : UInt8) : ∀ l : List UInt8, goalsG ks (l ++ [c]) = match goalsG ks l, goalG ks c with
    | some L, some x => some (L ++ [x])
    | _, _ => none
  | [] => by
    cases h : goalG ks c <;> simp [goalsG, h]
  | d :: r => by
    rw [List.cons_append, goalsG, goalsG, goalsG_snoc ks c r]
    cases goalG ks d with
    | none => rfl
    | some x =>
      cases goalsG ks r with
      | none => rfl
      | some L => cases goalG ks c <;> rfl
theorem goalsG_len {ks : List Int} : ∀ {l : List UInt8} {L : List (Int × Int)}, goalsG ks l = some L → L.length = l.length
  | [], L, h => by cases h; rfl
  | c :: r, L, h => by
    rw [goalsG] at h
    cases hc : goalG ks c with
    | none => rw [hc] at h; cases h
    | some x =>
      rw [hc] at h
      cases hr : goalsG ks r with
      | none => rw [hr] at h; cases h
      | some M => rw [hr] at h; cases h; simp [goalsG_len hr]
theorem goalsG_bad {ks : List Int} {c : UInt8} (h : goalG ks c = none) : ∀ (l r : List UInt8), goalsG ks (l ++ c :: r) = none
  | [], r => by rw [List.nil_append, goalsG, h]
  | d :: l, r => by
    rw [List.cons_append, goalsG, goalsG_bad h l r]
    cases goalG ks d <;> rfl
theorem goalG_bd {ks : List Int} (hk : ∀ x ∈ ks, 1 ≤ x ∧ x ≤ 20) {c : UInt8} {x : Int × Int} (h : goalG ks c = some x) : 0 ≤ x.1 ∧ x.1 ≤ 20 ∧ 0 ≤ x.2 ∧ x.2 ≤ 20 := by
  have hget : ∀ j, j < ks.length → 1 ≤ ks.getD j 0 ∧ ks.getD j 0 ≤ 20 := fun j hj => by
    have := hk ks[j] (List.getElem_mem hj); simpa [hj] using this
  unfold goalG at h
  split at h
  · rename_i hc
    cases h
    have := hget (c.toNat - 97) (by omega)
    simp only; omega
  · split at h
    · rename_i hc
      cases h
      have := hget (c.toNat - 65) (by omega)
      simp only; omega
    · cases h

/-- The scores behind each goal. -/
def runG : Int × Int → List (Int × Int) → List (Int × Int)
  | s, [] => [s]
  | s, x :: r => s :: runG (s.1 + x.1, s.2 + x.2) r
theorem runG_len : ∀ (s : Int × Int) (l : List (Int × Int)), (runG s l).length = l.length + 1
  | s, [] => rfl
  | s, x :: r => by rw [runG, List.length_cons, runG_len _ r, List.length_cons]
def scoresG (L : List (Int × Int)) : List (Int × Int) := runG (0, 0) L
def sumG : Int × Int → List (Int × Int) → Int × Int
  | s, [] => s
  | s, x :: r => sumG (s.1 + x.1, s.2 + x.2) r
theorem runG_snoc : ∀ (s : Int × Int) (l : List (Int × Int)) (x : Int × Int), runG s (l ++ [x]) = runG s l ++ [((sumG s l).1 + x.1, (sumG s l).2 + x.2)]
  | s, [], x => rfl
  | s, y :: r, x => by rw [List.cons_append, runG, runG, runG_snoc _ r x]; rfl
theorem sumG_snoc : ∀ (s : Int × Int) (l : List (Int × Int)) (x : Int × Int), sumG s (l ++ [x]) = ((sumG s l).1 + x.1, (sumG s l).2 + x.2)
  | s, [], x => rfl
  | s, y :: r, x => by rw [List.cons_append, sumG, sumG, sumG_snoc _ r x]
theorem runG_last : ∀ (s : Int × Int) (l : List (Int × Int)), (runG s l).getLast? = some (sumG s l)
  | s, [] => rfl
  | s, x :: r => by
    rw [runG, sumG, ← runG_last _ r]
    cases h : runG (s.1 + x.1, s.2 + x.2) r with
    | nil => have := runG_len (s.1 + x.1, s.2 + x.2) r; rw [h] at this; simp at this
    | cons y q => simp
theorem sumG_bd {n : Nat} : ∀ (s : Int × Int) (l : List (Int × Int)), (∀ x ∈ l, 0 ≤ x.1 ∧ x.1 ≤ 20 ∧ 0 ≤ x.2 ∧ x.2 ≤ 20) → 0 ≤ s.1 → 0 ≤ s.2 → s.1 ≤ 20 * n → s.2 ≤ 20 * n → 0 ≤ (sumG s l).1 ∧ 0 ≤ (sumG s l).2 ∧ (sumG s l).1 ≤ 20 * (n + l.length) ∧ (sumG s l).2 ≤ 20 * (n + l.length)
  | s, [], _, h1, h2, h3, h4 => by simpa [sumG] using ⟨h1, h2, h3, h4⟩
  | s, x :: r, hl, h1, h2, h3, h4 => by
    obtain ⟨x1, x2, x3, x4⟩ := hl x (List.mem_cons_self ..)
    have := sumG_bd (n := n + 1) (s.1 + x.1, s.2 + x.2) r (fun y hy => hl y (List.mem_cons_of_mem _ hy)) (by simp only; omega) (by simp only; omega) (by simp only; push_cast; omega) (by simp only; push_cast; omega)
    rw [sumG, List.length_cons]
    push_cast at this ⊢
    omega
theorem goalsG_bd {ks : List Int} (hk : ∀ x ∈ ks, 1 ≤ x ∧ x ≤ 20) : ∀ {l : List UInt8} {L : List (Int × Int)}, goalsG ks l = some L → ∀ x ∈ L, 0 ≤ x.1 ∧ x.1 ≤ 20 ∧ 0 ≤ x.2 ∧ x.2 ≤ 20
  | [], L, h => by cases h; intro x hx; cases hx
  | c :: r, L, h => by
    rw [goalsG] at h
    cases hc : goalG ks c with
    | none => rw [hc] at h; cases h
    | some x =>
      rw [hc] at h
      cases hr : goalsG ks r with
      | none => rw [hr] at h; cases h
      | some M =>
        rw [hr] at h; cases h
        intro y hy
        rcases List.mem_cons.1 hy with rfl | hy
        · exact goalG_bd hk hc
        · exact goalsG_bd hk hr y hy
theorem gameG_some {ks : List Int} {g : List UInt8} {L : List (Int × Int)} (h : gameG ks g = some L) : g.length ≤ 60 ∧ goalsG ks g = some L := by
  unfold gameG at h
  split at h
  · exact ⟨by assumption, h⟩
  · cases h
end Go.Proofs.YtgkkjlpfkoplhaaDoor
