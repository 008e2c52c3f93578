/-
  Darts: the program's tallies: a map of arrays.
-/
import Derived.Test.YtaplkciomagmiaaDnPush
import Derived.Maps.Own
import Derived.Maps.OwnOps
import Derived.Maps.Views
namespace Go.Proofs.Ytaplkciomagmiaa
open Go.RowKit Go.Maps
set_option linter.unusedVariables false
set_option linter.unusedSimpArgs false

def heldR (v : Value) : Option (DataW Value × List MemPlace) := some (.held v, [])
theorem keysInt : Keyed Try.prog 3 := int_keyed underInt
theorem wpList_insert_own {H : Type} {P : Program} (w : World) {ops : Array Oper} {rest : List Oper} {o : Oper} {a : Act} {Q : Exit → Act → World → Prop}
    (hg : o.guard = none) (m x v : Operand) (t : TypeId) (hop : o.op = Op.insert t m x v)
    (k e : TypeId) (K : Keyed P k) (ht : P.underlying t = some (.map k e)) (R : Value → Option (DataW H × List MemPlace)) (b n : Nat) (D : DataW H)
    (hm : a.eval m = .map (some b)) (hown : w.ownsMap P k R b n D) (hn : n < maxLen) (key val : Value) (kl : Lit) (hx : a.eval x = key) (hv : a.eval v = val) (hkey : keyOf P k key = some kl)
    (d : DataW H) (ps : List MemPlace) (hval : R val = some (d, ps))
    (hK : ∀ w', w'.ownsMap P k R b (n + 1) (D.put kl d) → w.grownBy w' (some b) → wpList P ops Q rest (a.put o.dst undef) w') :
    wpList P ops Q (o :: rest) a w := by
  refine wpList_plain hg fun K' hK' => ?_
  obtain ⟨w', hrun, r1, r2⟩ := hown.update K ht hn hkey hval
  unfold Oper.wp
  simp [execOp, hop, hm, hx, hv, hrun, Result.andThen]
  exact hK' _ _ (hK w' r1 r2)
theorem wpList_lookup_run {P : Program} (w : World) {ops : Array Oper} {rest : List Oper} {o : Oper} {a : Act} {Q : Exit → Act → World → Prop}
    (hg : o.guard = none) (m x : Operand) (t : TypeId) (hop : o.op = Op.lookup t m x false) (b : Nat) (hm : a.eval m = .map (some b)) (n n' : Int) (hx : a.eval x = .int .i64 n) (hn : n = n') (v : Value)
    (hrun : (Instr.lookup t (.map (some b)) (.int .i64 n') false).run P w = .ok v w) (hK : wpList P ops Q rest (a.put o.dst v) w) : wpList P ops Q (o :: rest) a w := by
  subst hn
  refine wpList_plain hg fun K' hK' => ?_
  unfold Oper.wp
  simp [execOp, hop, hm, hx, hrun, Result.andThen]
  exact hK' _ _ hK
theorem owns_block {H : Type} {P : Program} {k : TypeId} {R : Value → Option (DataW H × List MemPlace)} {w w' : World} {b n : Nat} {D : DataW H} (h : w.ownsMap P k R b n D) (e : w'.heap[b]? = w.heap[b]?) : w'.ownsMap P k R b n D := by
  obtain ⟨es, clock, hb, F, hs, hD⟩ := h
  exact ⟨es, clock, e.trans hb, F, hs, hD⟩
/-- A tally as a value: never opened. -/
def tallyA0 (k : Nat) : { a : Array Value // a = (ints (tallyL k)).toArray } := ⟨_, rfl⟩
def tallyA (k : Nat) : Array Value := (tallyA0 k).1
theorem tallyA_is (k : Nat) : tallyA k = (ints (tallyL k)).toArray := (tallyA0 k).2
theorem tallyA_size (k : Nat) : (tallyA k).size = 181 := by rw [tallyA_is, List.size_toArray, ints_len, tallyL_len]
theorem info181 : (Try.prog.info? 60).map (·.size) = some 181 := by kernel_rfl
theorem index_tally (k n : Nat) (hk : k ≤ 3) (h : n ≤ 180) (w : World) : (Instr.index 60 (.agg (tallyA k)) (.int .i64 (n : Int))).run Try.prog w = .ok (.int .i64 (ways k n)) w := by
  obtain ⟨i0, hi, hz0, hz1, hz2⟩ := info_parts infoInt
  refine run_index_cell Try.underlying60 underInt rfl hi hz1 (tallyA k) n _ (by omega) (by omega) ?_ w
  rw [Int.toNat_natCast, tallyA_is, List.getElem?_toArray, ints_get _ _ (by rw [tallyL_len]; omega), tallyL_get hk h]
def DM : Nat → DataW Value
  | 0 => (DataW.map []).put (.int .i64 0) (.held (.agg (tallyA 0)))
  | k + 1 => (DM k).put (.int .i64 ((k + 1 : Nat) : Int)) (.held (.agg (tallyA (k + 1))))
theorem wfI (n : Nat) (h : n ≤ 3) : (Lit.int .i64 (n : Int)).wf = true := WalkArith.wf_i64 (by omega)
theorem keyI (n : Nat) (h : n ≤ 3) : keyOf Try.prog 3 (.int .i64 (n : Int)) = some (.int .i64 (n : Int)) := keyOf_int_mk underInt (wfI n h)
def MapAt (w : World) (b k : Nat) : Prop := w.ownsMap Try.prog 3 heldR b (k + 1) (DM k)
theorem DM_isMap : ∀ k, IsMap (DM k)
  | 0 => ⟨_, rfl⟩
  | k + 1 => by
    obtain ⟨es, h⟩ := DM_isMap k
    unfold DM
    rw [h]; exact ⟨_, rfl⟩
theorem DM_at : ∀ (k : Nat), k ≤ 3 → ∀ (n : Nat), n ≤ k → ∀ z, (DM k).atKey (.int .i64 (n : Int)) z = .held (.agg (tallyA n))
  | 0, _, n, hn, z => by
    obtain rfl : n = 0 := by omega
    exact atKey_put_same ⟨_, rfl⟩ (keysInt.key (keyI 0 (by omega))) _ _
  | k + 1, hk, n, hn, z => by
    unfold DM
    by_cases q : n = k + 1
    · subst q
      exact atKey_put_same (DM_isMap k) (keysInt.key (keyI (k + 1) hk)) _ _
    · rw [atKey_put_other (fun e => by injection e with _ e; omega)]
      exact DM_at k (by omega) n (by omega) z
theorem lookup_tally {w : World} {b k n : Nat} (h : MapAt w b k) (hk : k ≤ 3) (hn : n ≤ k) : (Instr.lookup 61 (.map (some b)) (.int .i64 (n : Int)) false).run Try.prog w = .ok (.agg (tallyA n)) w := by
  obtain ⟨v, ps, hrun, hR⟩ := h.lookup keysInt Try.underlying61 (Try.zeroValue60 w) (zd := .held (.agg Try.zeroCells60)) (zp := []) rfl (keyI n (by omega))
  rw [DM_at k hk n hn] at hR
  simp only [heldR, Option.some.injEq, Prod.mk.injEq, DataW.held.injEq] at hR
  rw [hrun, hR.1]
theorem z181_is : Try.zeroCells60.setIfInBounds 0 (.int .i64 1) = tallyA 0 := by
  rw [tallyA_is]; unfold tallyL; rw [rowW_first]; kernel_rfl
theorem zc181 : Try.zeroCells60 = (ints (List.replicate 181 0)).toArray := by kernel_rfl
end Go.Proofs.Ytaplkciomagmiaa
