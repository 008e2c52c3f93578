/-
  Leagues: the points that two teams have got against each other: both sides.
-/
import Derived.Test.YthbkclgdoopbpaaLgRing
namespace Go.Proofs.Ythbkclgdoopbpaa
open Go.RowKit
set_option linter.unusedVariables false
set_option linter.unusedSimpArgs false

def dirB (t wn : Int) (l : List Rs) (a b : Int) : Bool := teamL t wn l a && (teamL t wn l b && !decide (a = b))
def dirV (t wn : Int) (l : List Rs) (a b : Int) : Int := if dirB t wn l a b then dirL wn b (gamesL l a) else 0

def dirV' (t wn : Int) (l : List Rs) (a b : Int) : Int := if dirB t wn l a b then dirL wn a (gamesL l b) else 0
/-- The league in its block. -/
def BoxS (w : World) (t wn : Int) (lv : Value) (Y : World) : Prop := ObAt Y w.heap.size 40 #[.int .i64 t, .int .i64 wn, lv] ∧ Below w.heap.size w Y
theorem BoxS.keep {w : World} {t wn : Int} {lv : Value} {Y Z : World} (h : BoxS w t wn lv Y) (hb : Below Y.heap.size Y Z) : BoxS w t wn lv Z := ⟨h.1.keep hb, h.2.trans (hb.mono h.2.size)⟩
theorem BoxS.full {w : World} {t wn : Int} {lv : Value} {Y : World} (h : BoxS w t wn lv Y) : Y.cell? ⟨w.heap.size, 0, none⟩ = some (.int .i64 t) ∧ Y.cell? ⟨w.heap.size, 1, none⟩ = some (.int .i64 wn) ∧ Y.cell? ⟨w.heap.size, 2, none⟩ = some lv ∧ BoxS w t wn lv Y :=
  ⟨h.1.cell 0, h.1.cell 1, h.1.cell 2, h⟩
theorem BoxS.new (w : World) (t wn : Int) (lv : Value) : BoxS w t wn lv (w.alloc (.cells #[.int .i64 t, .int .i64 wn, lv] 40)) := ⟨ObAt.new _ _ _, Below.ofNew _⟩
theorem BoxS.drew {w : World} {t wn : Int} {lv : Value} {Y : World} (h : BoxS w t wn lv Y) : BoxS w t wn lv Y.drew := h.keep (Below.drew (Below.refl _ _))

/-- The row that the model keeps. -/
def dirF (wn a b : Int) (l : List Rs) (i : Int) : Int := if i = a then dirL wn b (gamesL l a) else if i = b then dirL wn a (gamesL l b) else 0
theorem dirF_bd {wn : Int} (hw : 2 ≤ wn ∧ wn ≤ 3) (a b : Int) (l : List Rs) (h : l.length ≤ 56) (i : Int) : 0 ≤ dirF wn a b l i ∧ dirF wn a b l i ≤ 100000 := by
  have h1 := dirL_bd hw b (gamesL l a)
  have h2 := dirL_bd hw a (gamesL l b)
  have h3 := gamesL_len l a
  have h4 := gamesL_len l b
  unfold dirF
  split
  · omega
  · split <;> omega
theorem dirF_snoc {t wn : Int} (l : List Rs) (k : Nat) (hk : k < l.length) (hg : goodR t (l.getD k zR) = true) (a b : Int) (hab : a ≠ b) (i : Int) :
    dirF wn a b (l.take (k + 1)) i = dirF wn a b (l.take k) i + if ((l.getD k zR).1 = a ∧ (l.getD k zR).2.1 = b) ∨ ((l.getD k zR).1 = b ∧ (l.getD k zR).2.1 = a) then addG wn (l.getD k zR).1 (l.getD k zR).2.1 ((l.getD k zR).2.2.1 - (l.getD k zR).2.2.2) i else 0 := by
  unfold dirF
  by_cases e1 : i = a
  · rw [if_pos e1, if_pos e1, dir_step l k hk hg a b hab, e1]
  · rw [if_neg e1, if_neg e1]
    by_cases e2 : i = b
    · rw [if_pos e2, if_pos e2, dir_step l k hk hg b a (fun e => hab e.symm), e2]
      congr 1
      by_cases c : ((l.getD k zR).1 = a ∧ (l.getD k zR).2.1 = b) ∨ ((l.getD k zR).1 = b ∧ (l.getD k zR).2.1 = a)
      · rw [if_pos c, if_pos c.symm]
      · rw [if_neg c, if_neg (fun h => c h.symm)]
    · rw [if_neg e2, if_neg e2]
      have : (if ((l.getD k zR).1 = a ∧ (l.getD k zR).2.1 = b) ∨ ((l.getD k zR).1 = b ∧ (l.getD k zR).2.1 = a) then addG wn (l.getD k zR).1 (l.getD k zR).2.1 ((l.getD k zR).2.2.1 - (l.getD k zR).2.2.2) i else 0) = 0 := by
        split
        · rename_i c
          unfold addG
          rcases c with ⟨c1, c2⟩ | ⟨c1, c2⟩
          · rw [if_neg (by omega), if_neg (by omega)]
          · rw [if_neg (by omega), if_neg (by omega)]
        · rfl
      rw [this]; rfl

end Go.Proofs.Ythbkclgdoopbpaa
