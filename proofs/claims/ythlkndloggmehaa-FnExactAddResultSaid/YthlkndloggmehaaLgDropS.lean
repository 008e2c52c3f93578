/-
  Leagues: a result less (the model's).
-/
import Derived.Test.YthlkndloggmehaaLgDropI
namespace Go.Proofs.Ythlkndloggmehaa
open Go.RowKit
set_option linter.unusedVariables false
set_option linter.unusedSimpArgs false

theorem wp_append_res {w : World} {o : Oper} {a : Act} {K : Act → World → Prop} {Q : Exit → Act → World → Prop} (s x : Operand)
    (ho : o.op = .call { callee := .builtin .append, args := #[s, x], argTypes := #[60, 60] })
    (B : Nat) (w0 : World) (v : Value) (n : Nat) (xs ys : List Rs) (ad : Option Addr) (m c : Nat) (hs : a.eval s = v) (hx : a.eval x = .slice ad m c) (hm : m = ys.length)
    (hown : w.ownsRow B 66 4 v n (ress xs)) (hr : Reads w ad (ress ys)) (hbel : Below B w0 w) (hB : B ≤ w.heap.size) (hsz : n + ys.length ≤ 100000) (hne : ad ≠ none)
    (h : ∀ v' w', w'.ownsRow B 66 4 v' (n + ys.length) (ress (xs ++ ys)) → Below B w0 w' → w.grownBy w' v.ownBlock → K (a.put o.dst v') w') :
    o.wp Try.prog a w K Q := by
  subst hm
  obtain ⟨i0, hi, hz0, hz1, hz2⟩ := info_parts infoResult
  cases ad with
  | none => exact absurd rfl hne
  | some ad =>
    have hnews : ∀ j u, (ress ys)[j]? = some u → w.cell? (ad.add j) = some u := by
      intro j u hj
      rcases hr with hr | ⟨b, off, he, hlt, hc⟩
      · rw [hr] at hj; simp at hj
      · cases he
        have hjl : j < (ress ys).length := (List.getElem?_eq_some_iff.1 hj).1
        have e : (⟨b, off, none⟩ : Addr).add j = ⟨b, off + j, none⟩ := by unfold Addr.add; split <;> simp_all
        rw [e, hc j hjl, hj]
    obtain ⟨v', w', hrun, h2, h3, h4, h5⟩ := run_append_own_at (P := Try.prog) w B 60 o.type 66 i0 (.agg #[.int .i64 0, .int .i64 0, .int .i64 0, .int .i64 0]) 4 32 Try.underlying60 hi hz0 hz1 hz2 rfl (by decide) v n (ress xs) hown ad ys.length c (ress ys) (by rw [ress_len]; omega) hnews ress_one (by unfold maxLen; omega) (by omega) hB
    refine Lib.wp_append_run w s x _ _ ho v _ hs hx v' w' hrun (h v' w' (by rw [ress_append]; exact h2) (hbel.grown h3 hB (fun g hg => ?_)) h3)
    obtain ⟨_, h | ⟨g', cap, cur, hv, hb', _⟩⟩ := hown
    · rw [h.1] at hg; cases hg
    · rw [hv] at hg; simp [Value.ownBlock] at hg; omega

end Go.Proofs.Ythlkndloggmehaa
