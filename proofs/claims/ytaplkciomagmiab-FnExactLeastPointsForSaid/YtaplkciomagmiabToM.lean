/-
  Tennis: game orders: the model's list of them.
-/
import Derived.Test.YtaplkciomagmiabToI
import Derived.Test.YtaplkciomagmiabTnScore
import Derived.Maps.AppendAt
import Derived.Deep.AppendSrc
import Derived.Laws.MakeOwn
namespace Go.Proofs.Ytaplkciomagmiab
open Go.RowKit Go.Deep
set_option linter.unusedVariables false
set_option linter.unusedSimpArgs false

theorem infoStr : (Try.prog.info? 9).map (fun i => (i.zero, i.size, i.bytes)) = some (some (.string ⟨#[]⟩), 1, 16) := by kernel_rfl
def tx (L : List (List UInt8)) : List Value := L.map fun p => .string ⟨p.toArray⟩
theorem tx_len (L : List (List UInt8)) : (tx L).length = L.length := by simp [tx]
theorem tx_app (L M : List (List UInt8)) : tx (L ++ M) = tx L ++ tx M := by simp [tx]
def StrR (L : List (List UInt8)) (w : World) (e : Ending) (w' : World) : Prop :=
  ∃ v, e = .returned v ∧ w'.ownsRow w.heap.size 9 1 v L.length (tx L) ∧ Below w.heap.size w w'
theorem owns_below {B : Nat} {e : TypeId} {k : Nat} {v : Value} {n : Nat} {xs : List Value} {w w' : World} (h : w.ownsRow B e k v n xs) (hb : Below w.heap.size w w') : w'.ownsRow B e k v n xs := by
  obtain ⟨h1, h2⟩ := h
  refine ⟨h1, ?_⟩
  rcases h2 with h2 | ⟨g, cap, cur, hv, hg, hh, r⟩
  · exact Or.inl h2
  · exact Or.inr ⟨g, cap, cur, hv, hg, by rw [hb.block g (Array.getElem?_eq_some_iff.1 hh).1]; exact hh, r⟩
theorem owns_base {w : World} {B B' T n size : Nat} {v : Value} {xs : List Value} (h : w.ownsRow B' T size v n xs) (hb : B ≤ B') : w.ownsRow B T size v n xs := by
  obtain ⟨hl, ⟨rfl, h2⟩ | ⟨g', cap, cur, rfl, hbb, r⟩⟩ := h
  · exact ⟨hl, .inl ⟨rfl, h2⟩⟩
  · exact ⟨hl, .inr ⟨g', cap, cur, rfl, Nat.le_trans hb hbb, r⟩⟩
theorem owns_none (w : World) (B : Nat) (T : TypeId) : w.ownsRow B T 1 (.slice none 0 0) 0 [] := ⟨rfl, .inl ⟨rfl, rfl⟩⟩
theorem owns_block {w : World} {B T n size : Nat} {v : Value} {xs : List Value} (h : w.ownsRow B T size v n xs) (g : Nat) (hg : v.ownBlock = some g) : B ≤ g := by
  obtain ⟨hl, ⟨rfl, h2⟩ | ⟨g', cap, cur, rfl, hb, hh, r⟩⟩ := h
  · simp [Value.ownBlock] at hg
  · simp [Value.ownBlock] at hg
    subst hg; exact hb

/-- A row of the call's own, with another one behind it. -/
theorem append_rows {ops : Array Oper} {rest : List Oper} {o : Oper} {a : Act} {Q : Exit → Act → World → Prop} {w w0 : World} {B : Nat} {L M : List (List UInt8)} (hgd : o.guard = none) (s x : Operand)
    (ho : o.op = .call { callee := .builtin .append, args := #[s, x], argTypes := #[35, 35] }) (v u : Value) (hs : a.eval s = v) (hx : a.eval x = u)
    (h1 : w.ownsRow B 9 1 v L.length (tx L)) (h2 : w.ownsRow B 9 1 u M.length (tx M)) (hB : B ≤ w.heap.size) (hbel : Below B w0 w) (hL : L.length + M.length ≤ 100000)
    (h : ∀ v' w', w'.ownsRow B 9 1 v' (L ++ M).length (tx (L ++ M)) → Below B w0 w' → wpList Try.prog ops Q rest (a.put o.dst v') w') :
    wpList Try.prog ops Q (o :: rest) a w := by
  obtain ⟨i0, hi, hz0, hz1, hz2⟩ := info_parts infoStr
  obtain ⟨hl2, ⟨rfl, hm⟩ | ⟨g, cap, cur, rfl, hg, hh, hn, hcap, hcs, htk⟩⟩ := h2
  · have hM : M = [] := List.length_eq_zero_iff.1 hm
    subst hM
    rw [List.append_nil] at h
    refine wpList_plain hgd fun K hK => ?_
    have hrun := run_append_owned_none (P := Try.prog) (w := w) B 35 o.type 9 i0 1 Try.underlying35 hi v L.length (tx L) h1
    unfold Oper.wp execOp
    simp only [ho, resolve, invoke, builtin, Sem.run_bind, Sem.run_pure, Result.andThen_ok, List.map_toArray, List.map_cons, List.map_nil, hs, hx, hrun]
    exact hK _ _ (h v w h1 hbel)
  · refine wpList_append_own_at w hgd s x 35 ho B 9 i0 (.string ⟨#[]⟩) 1 16 Try.underlying35 hi hz0 hz1 hz2 rfl (by decide) v L.length (tx L) hs h1 ⟨g, 0, none⟩ M.length cap (tx M) hx (by rw [tx_len, Nat.mul_one]) (fun j u hu => ?_) (fun u hu => ?_) (by unfold maxLen; omega) (by omega) hB (fun v' w' ho' hgr _ _ => ?_)
    · have hj : j < M.length := by
        have := (List.getElem?_eq_some_iff.1 hu).1
        rw [tx_len] at this; exact this
      have he : ((⟨g, 0, none⟩ : Addr).add j) = ⟨g, j, none⟩ := by simp [Addr.add]; omega
      rw [he, cell_of_row w g j cur _ _ hh, ← hu, ← htk, List.getElem?_take_of_lt (by omega)]
      simp
    · simp [tx] at hu
      obtain ⟨p, _, rfl⟩ := hu
      rfl
    · refine h v' w' ?_ (hbel.grown hgr hB (fun k e => owns_block h1 k e))
      rw [List.length_append, tx_app]; exact ho'
end Go.Proofs.Ytaplkciomagmiab
