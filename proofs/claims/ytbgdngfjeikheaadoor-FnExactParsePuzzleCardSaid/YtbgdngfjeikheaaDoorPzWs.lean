/-
  Puzzles: the clues without one: the model.
-/
import Derived.Test.YtbgdngfjeikheaaDoorPzWo
namespace Go.Proofs.YtbgdngfjeikheaaDoor
open Go.RowKit
set_option linter.unusedVariables false
set_option linter.unusedSimpArgs false

theorem wp_append_clu {w : World} {o : Oper} {a : Act} {K : Act → World → Prop} {Q : Exit → Act → World → Prop} (s x : Operand)
    (ho : o.op = .call { callee := .builtin .append, args := #[s, x], argTypes := #[22, 22] })
    (B : Nat) (w0 : World) (v : Value) (n : Nat) (xs ys : List Cl) (ad : Option Addr) (m c : Nat) (hs : a.eval s = v) (hx : a.eval x = .slice ad m c) (hm : m = ys.length)
    (hown : w.ownsRow B 75 3 v n (clus xs)) (hr : Reads w ad (clus ys)) (hbel : Below B w0 w) (hB : B ≤ w.heap.size) (hsz : n + ys.length ≤ 4000000) (hne : ad ≠ none)
    (h : ∀ v' w', w'.ownsRow B 75 3 v' (n + ys.length) (clus (xs ++ ys)) → Below B w0 w' → w.grownBy w' v.ownBlock → K (a.put o.dst v') w') :
    o.wp Tryd.prog a w K Q := by
  subst hm
  obtain ⟨i0, hi, hz0, hz1, hz2⟩ := info_parts infoClue
  cases ad with
  | none => exact absurd rfl hne
  | some ad =>
    have hnews : ∀ j u, (clus ys)[j]? = some u → w.cell? (ad.add j) = some u := by
      intro j u hj
      rcases hr with hr | ⟨b, off, he, hlt, hc⟩
      · rw [hr] at hj; simp at hj
      · cases he
        have hjl : j < (clus ys).length := (List.getElem?_eq_some_iff.1 hj).1
        have e : (⟨b, off, none⟩ : Addr).add j = ⟨b, off + j, none⟩ := by unfold Addr.add; split <;> simp_all
        rw [e, hc j hjl, hj]
    obtain ⟨v', w', hrun, h2, h3, h4, h5⟩ := run_append_own_at (P := Tryd.prog) w B 22 o.type 75 i0 (.agg #[.int .i64 0, .int .i64 0, .int .i64 0]) 3 24 Tryd.underlying22 hi hz0 hz1 hz2 rfl (by decide) v n (clus xs) hown ad ys.length c (clus ys) (by rw [clus_len]; omega) hnews clus_one (by unfold maxLen; omega) (by omega) hB
    refine Lib.wp_append_run w s x _ _ ho v _ hs hx v' w' hrun (h v' w' (by rw [clus_append]; exact h2) (hbel.grown h3 hB (fun g hg => ?_)) h3)
    obtain ⟨_, h | ⟨g', cap, cur, hv, hb', _⟩⟩ := hown
    · rw [h.1] at hg; cases hg
    · rw [hv] at hg; simp [Value.ownBlock] at hg; omega

theorem run_upto (ad : Option Addr) (n c k : Nat) (hk : k ≤ c) (W : World) : (Instr.slice 22 (.slice ad n c) none (some (.int .i64 (k : Int))) none).run Tryd.prog W = .ok (.slice (if c = 0 then ad else ad.map (·.add 0)) k c) W := by
  obtain ⟨i0, hi0, -, -, -⟩ := info_parts infoClue
  have h1 := run_sizeOf (P := Tryd.prog) (w := W) hi0
  have e1 : (0 : Int) ≤ (k : Int) := by omega
  have e2 : (k : Int) ≤ (c : Int) := by omega
  simp [Instr.slice, run_underlying Tryd.underlying22, Instr.sliceBounds, run_sliceBound, h1, e1, e2, hk]
theorem run_from (ad : Option Addr) (n c k : Nat) (hk : k ≤ n) (W : World) : (Instr.slice 22 (.slice ad n c) (some (.int .i64 (k : Int))) none none).run Tryd.prog W = .ok (.slice (cutA ad k c) (n - k) (c - k)) W := by
  obtain ⟨i0, hi0, -, -, -⟩ := info_parts infoClue
  have h1 := run_sizeOf (P := Tryd.prog) (w := W) hi0
  rw [show Tryd.prog.cellsOf 75 = 3 from by kernel_rfl] at h1
  have e1 : (0 : Int) ≤ (k : Int) := by omega
  have e2 : (k : Int) ≤ (n : Int) := by omega
  simp [Instr.slice, run_underlying Tryd.underlying22, Instr.sliceBounds, run_sliceBound, h1, e1, e2, hk, cutA]
theorem upto_same (ad : Option Addr) (c : Nat) : (if c = 0 then ad else ad.map (·.add 0)) = ad := by
  split
  · rfl
  · cases ad with
    | none => rfl
    | some a => simp [Addr.add]
theorem reads_from {w : World} {ad : Option Addr} {l : List Cl} (h : Reads w ad (clus l)) {k c : Nat} (hk : k ≤ l.length) (hc : l.length ≤ c) : Reads w (cutA ad k c) (clus (l.drop k)) := by
  by_cases e : c = k
  · left; rw [List.drop_of_length_le (by omega)]; rfl
  · by_cases e2 : l.length = k
    · left; rw [List.drop_of_length_le (by omega)]; rfl
    · have h2 := reads_cut h (i := k) (j := l.length) hk (Nat.le_refl _)
      rw [partL_from] at h2
      unfold cutA at h2 ⊢
      rw [if_neg e2] at h2
      rw [if_neg e]; exact h2
theorem reads_upto {w : World} {ad : Option Addr} {l : List Cl} (h : Reads w ad (clus l)) (k : Nat) : Reads w ad (clus (l.take k)) := by
  by_cases hk : k ≤ l.length
  · rcases h with h | ⟨b, off, rfl, hlt, hc⟩
    · left; rw [clus_nil h]; simp [clus, flatC, ints]
    · refine .inr ⟨b, off, rfl, hlt, fun j hj => ?_⟩
      have h1 := clus_len l
      have h2 := clus_len (l.take k)
      rw [List.length_take] at h2
      rw [hc j (by omega), clus_take l k hk, List.getElem?_take_of_lt (by omega)]
  · rw [List.take_of_length_le (by omega)]; exact h
theorem clus_empty (w : World) : (w.alloc (.cells #[] 75)).ownsRow w.heap.size 75 3 (.slice (some ⟨w.heap.size, 0, none⟩) 0 0) 0 (clus []) := owns_fresh w 75 3

end Go.Proofs.YtbgdngfjeikheaaDoor
