/-
  Puzzles: slices.Concat of two rows of clues.
-/
import Derived.Test.YtbgdngfjeikheaaDoorPzGrow
namespace Go.Proofs.YtbgdngfjeikheaaDoor
open Go.RowKit
set_option linter.unusedVariables false
set_option linter.unusedSimpArgs false

theorem reads_nil3 {w : World} {ys : List Cl} (h : Reads w none (clus ys)) : ys = [] := by
  rcases h with h | ⟨b, off, h, _⟩
  · have := congrArg List.length h; rw [clus_len] at this; simp at this
    exact List.length_eq_zero_iff.1 (by omega)
  · cases h

/-- The results of a slice, appended to a row of the call's own. -/
theorem wpList_append_res {w : World} {ops : Array Oper} {rest : List Oper} {o : Oper} {a : Act} {Q : Exit → Act → World → Prop} (hgd : o.guard = none) (s x : Operand)
    (ho : o.op = .call { callee := .builtin .append, args := #[s, x], argTypes := #[22, 22] })
    (B : Nat) (w0 : World) (v : Value) (n : Nat) (xs ys : List Cl) (ad : Option Addr) (c : Nat) (hs : a.eval s = v) (hx : a.eval x = .slice ad ys.length c)
    (hown : w.ownsRow B 75 3 v n (clus xs)) (hr : Reads w ad (clus ys)) (hbel : Below B w0 w) (hB : B ≤ w.heap.size) (hsz : n + ys.length ≤ 100000) (hne : ad ≠ none ∨ v ≠ .slice none 0 0)
    (h : ∀ v' w', w'.ownsRow B 75 3 v' (n + ys.length) (clus (xs ++ ys)) → Below B w0 w' → (v ≠ .slice none 0 0 → v' ≠ .slice none 0 0) → wpList Tryd.prog ops Q rest (a.put o.dst v') w') :
    wpList Tryd.prog ops Q (o :: rest) a w := by
  obtain ⟨i0, hi, hz0, hz1, hz2⟩ := info_parts infoClue
  cases ad with
  | none =>
    obtain rfl := reads_nil3 hr
    have hv : v ≠ .slice none 0 0 := by rcases hne with h | h; exact absurd rfl h; exact h
    obtain ⟨hl, hq | ⟨g, cap, cur, rfl, hg, hh, hnc, hrest⟩⟩ := hown
    · exact absurd hq.1 hv
    · exact wpList_append_none hgd s x 22 ho 75 i0 Tryd.underlying22 hi g 0 n cap hnc hs none c hx (h _ _ (by simpa using ⟨hl, .inr ⟨g, cap, cur, rfl, hg, hh, hnc, hrest⟩⟩) hbel (fun q => q))
  | some ad =>
    have hnews : ∀ j u, (clus ys)[j]? = some u → w.cell? (ad.add j) = some u := by
      intro j u hj
      rcases hr with hr | ⟨b, off, he, hlt, hc⟩
      · rw [hr] at hj; simp at hj
      · cases he
        have hjl : j < (clus ys).length := (List.getElem?_eq_some_iff.1 hj).1
        have e : (⟨b, off, none⟩ : Addr).add j = ⟨b, off + j, none⟩ := by unfold Addr.add; split <;> simp_all
        rw [e, hc j hjl, hj]
    refine wpList_append_own_at _ hgd s x 22 ho B 75 i0 (.agg #[.int .i64 0, .int .i64 0, .int .i64 0]) 3 24 Tryd.underlying22 hi hz0 hz1 hz2 rfl (by decide) v n (clus xs) hs hown ad ys.length c (clus ys) hx (by rw [clus_len]; omega) hnews clus_one (by unfold maxLen; omega) (by omega) hB ?_
    intro v' w' ho' hg' hiff _
    refine h v' w' (by rw [clus_append]; exact ho') (hbel.grown hg' hB (fun g hg => ?_)) (fun q q' => q (hiff.1 q').1)
    obtain ⟨_, h | ⟨g', cap, cur, hv, hb', _⟩⟩ := hown
    · rw [h.1] at hg; cases hg
    · rw [hv] at hg; simp [Value.ownBlock] at hg; omega

/-- What holds at the head of each round of the second loop. -/
def CoAt (w : World) (a a' : Option Addr) (xs : List Cl) (v : Value) (wr : World) : Prop :=
  wr.ownsRow w.heap.size 75 3 v xs.length (clus xs) ∧ Below w.heap.size w wr ∧ ((a ≠ none ∧ a' ≠ none) ∨ v ≠ .slice none 0 0)

end Go.Proofs.YtbgdngfjeikheaaDoor
