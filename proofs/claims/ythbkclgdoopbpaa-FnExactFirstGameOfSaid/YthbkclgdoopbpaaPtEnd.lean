/-
  Pins: all frames that have ended, in order.
-/
import Derived.Test.YthbkclgdoopbpaaPtMath
import Derived.Test.YthbkclgdoopbpaaPnNext
import Derived.Laws.OwnMore
import Derived.BigQuiet
namespace Go.Proofs.Ythbkclgdoopbpaa
open Go.RowKit
set_option linter.unusedVariables false
set_option linter.unusedSimpArgs false

/-- All frames that begin so and have ended. -/
def endN (last : Bool) : Nat → List Int → List (List Int)
  | 0, bs => [bs]
  | k + 1, bs => if stF last bs = 0 then [bs] else (List.range (stF last bs + 1).toNat).flatMap fun (p : Nat) => endN last k (bs ++ [(p : Int)])
theorem stF_le {last : Bool} {bs : List Int} : stF last bs ≤ 10 := by
  unfold stF
  split
  · omega
  · exact (leftP_bd bs).2
theorem endN_len (last : Bool) : ∀ (k : Nat) (bs : List Int), (endN last k bs).length ≤ 11 ^ k
  | 0, bs => by simp [endN]
  | k + 1, bs => by
    unfold endN
    split
    · simp only [List.length_singleton]; exact Nat.pow_pos (by omega)
    · have h1 : ∀ L : List Nat, (L.flatMap fun (p : Nat) => endN last k (bs ++ [(p : Int)])).length ≤ L.length * 11 ^ k := by
        intro L
        induction L with
        | nil => simp
        | cons x L ih =>
          have := endN_len last k (bs ++ [(x : Int)])
          simp only [List.flatMap_cons, List.length_append, List.length_cons, Nat.succ_mul]
          omega
      have h2 := h1 (List.range (stF last bs + 1).toNat)
      rw [List.length_range] at h2
      have h3 := stF_le (last := last) (bs := bs)
      have h4 : (stF last bs + 1).toNat * 11 ^ k ≤ 11 * 11 ^ k := Nat.mul_le_mul_right _ (by omega)
      rw [Nat.pow_succ, Nat.mul_comm]
      omega
def goodB (last : Bool) (bs : List Int) : Prop := openB last bs ∨ endB last bs
theorem good_small {last : Bool} {bs : List Int} (h : goodB last bs) : smallB bs := h.elim small_open small_end
theorem good_step {last : Bool} {bs : List Int} {p : Int} (h : openB last bs) (h0 : 0 ≤ p) (h1 : p ≤ leftP bs) : goodB last (bs ++ [p]) := by
  cases he : endedF last (bs ++ [p])
  · exact .inl (step_open h h0 h1 he)
  · exact .inr (step_end h h0 h1 he)
theorem ownsBlockS {w : World} {B T n size : Nat} {v : Value} {xs : List Value} (ho : w.ownsRow B T size v n xs) {g : Nat} (e : v.ownBlock = some g) : B ≤ g := by
  obtain ⟨-, ⟨rfl, -⟩ | ⟨g', cap, cur, rfl, hb, -⟩⟩ := ho
  · simp [Value.ownBlock] at e
  · simp [Value.ownBlock] at e
    omega
/-- A row of frames is put behind a row of frames, both the call's own. -/
theorem append_sheet {ops : Array Oper} {rest : List Oper} {o : Oper} {a : Act} {Q : Exit → Act → World → Prop} {w w0 : World} {B : Nat} {L M : List (List Int)} (hgd : o.guard = none) (s x : Operand)
    (ho : o.op = .call { callee := .builtin .append, args := #[s, x], argTypes := #[97, 97] }) (v u : Value) (hs : a.eval s = v) (hx : a.eval x = u)
    (h1 : w.ownsRow B 69 3 v L.length (sheetC L)) (h2 : w.ownsRow B 69 3 u M.length (sheetC M)) (hB : B ≤ w.heap.size) (hbel : Below B w0 w) (hL : L.length + M.length ≤ 100000)
    (h : ∀ v' w', w'.ownsRow B 69 3 v' (L ++ M).length (sheetC (L ++ M)) → Below B w0 w' → (∀ b, b < w.heap.size → v.ownBlock ≠ some b → w'.heap[b]? = w.heap[b]?) → wpList Try.prog ops Q rest (a.put o.dst v') w') :
    wpList Try.prog ops Q (o :: rest) a w := by
  obtain ⟨i0, hi, hz0, hz1, hz2⟩ := info_parts infoFrame
  obtain ⟨hl2, ⟨rfl, hm⟩ | ⟨g, cap, cur, rfl, hg, hh, hn, hcap, hcs, htk⟩⟩ := h2
  · have hM : M = [] := List.length_eq_zero_iff.1 hm
    subst hM
    rw [List.append_nil] at h
    refine wpList_plain hgd fun K hK => ?_
    have hrun := run_append_owned_none (P := Try.prog) (w := w) B 97 o.type 69 i0 3 Try.underlying97 hi v L.length (sheetC L) h1
    unfold Oper.wp execOp
    simp only [ho, resolve, invoke, builtin, Sem.run_bind, Sem.run_pure, Result.andThen_ok, List.map_toArray, List.map_cons, List.map_nil, hs, hx, hrun]
    exact hK _ _ (h v w h1 hbel (fun _ _ _ => rfl))
  · refine wpList_append_own_at w hgd s x 97 ho B 69 i0 (.agg #[.int .i64 0, .int .i64 0, .int .i64 0]) 3 24 Try.underlying97 hi hz0 hz1 hz2 rfl (by decide) v L.length (sheetC L) hs h1 ⟨g, 0, none⟩ M.length cap (sheetC M) hx (by rw [sheetC_len, Nat.mul_comm]) (fun j u hu => ?_) (fun u hu => ?_) (by unfold maxLen; omega) (by omega) hB (fun v' w' ho' hgr _ _ => ?_)
    · have hj : j < 3 * M.length := by
        have := (List.getElem?_eq_some_iff.1 hu).1
        rw [sheetC_len] at this; exact this
      have he : ((⟨g, 0, none⟩ : Addr).add j) = ⟨g, j, none⟩ := by rw [add_pl]; simp
      rw [he, cell_of_row w g j cur _ _ hh, ← hu, ← htk, List.getElem?_take_of_lt (by omega)]
      simp
    · simp [sheetC] at hu
      obtain ⟨bs, _, hu⟩ := hu
      rcases hu with rfl | rfl | rfl <;> rfl
    · refine h v' w' ?_ (hbel.grown hgr hB (fun k e => ownsBlockS h1 e)) (fun b hb hne => hgr.block b hb (fun e => hne e.symm))
      rw [List.length_append, sheetC_append]; exact ho'
theorem owns_belowS {B : Nat} {e : TypeId} {k : Nat} {v : Value} {n : Nat} {xs : List Value} {w w' : World} (h : w.ownsRow B e k v n xs) (hb : Below w.heap.size w w') : w'.ownsRow B e k v n xs := by
  obtain ⟨h1, h2⟩ := h
  refine ⟨h1, ?_⟩
  rcases h2 with h2 | ⟨g, cap, cur, hv, hg, hh, r⟩
  · exact Or.inl h2
  · exact Or.inr ⟨g, cap, cur, hv, hg, by rw [hb.block g (Array.getElem?_eq_some_iff.1 hh).1]; exact hh, r⟩
theorem owns_baseS {w : World} {B B' T n size : Nat} {v : Value} {xs : List Value} (h : w.ownsRow B' T size v n xs) (hb : B ≤ B') : w.ownsRow B T size v n xs := by
  obtain ⟨h1, h2 | ⟨g, cap, cur, e, hg, r⟩⟩ := h
  · exact ⟨h1, .inl h2⟩
  · exact ⟨h1, .inr ⟨g, cap, cur, e, Nat.le_trans hb hg, r⟩⟩
def flN (last : Bool) (k : Nat) (bs : List Int) (n : Nat) : List (List Int) := (List.range n).flatMap fun (p : Nat) => endN last k (bs ++ [(p : Int)])
theorem flN_succ (last : Bool) (k : Nat) (bs : List Int) (n : Nat) : flN last k bs (n + 1) = flN last k bs n ++ endN last k (bs ++ [(n : Int)]) := by
  unfold flN; rw [List.range_succ, List.flatMap_append]; simp
theorem flN_len (last : Bool) (k : Nat) (bs : List Int) : ∀ n : Nat, (flN last k bs n).length ≤ n * 11 ^ k
  | 0 => by simp [flN]
  | n + 1 => by
    have h1 := flN_len last k bs n
    have h2 := endN_len last k (bs ++ [(n : Int)])
    rw [flN_succ, List.length_append, Nat.succ_mul]; omega
def EnAt (w : World) (bs : List Int) (L : List (List Int)) (v : Value) (wr : World) : Prop := PnAt wr w.heap.size bs ∧ wr.ownsRow w.heap.size 69 3 v L.length (sheetC L) ∧ Below w.heap.size w wr

/-- A frame's block, its balls as numbers. -/
def P3At (w : World) (x y z : Int) (wr : World) : Prop := wr.heap[w.heap.size]? = some (.cells #[.int .i64 x, .int .i64 y, .int .i64 z] 69 (0, 0)) ∧ Below w.heap.size w wr
theorem P3At.new (w : World) (x y z : Int) : P3At w x y z (w.alloc (.cells #[.int .i64 x, .int .i64 y, .int .i64 z] 69)) := ⟨heap_alloc_last w _, (Below.refl _ _).alloc (Nat.le_refl _) _⟩
theorem P3At.keep {w : World} {x y z : Int} {wr w' : World} (h : P3At w x y z wr) (hb : Below wr.heap.size wr w') : P3At w x y z w' :=
  ⟨by rw [hb.block _ (Array.getElem?_eq_some_iff.1 h.1).1]; exact h.1, h.2.trans (hb.mono h.2.size)⟩
theorem P3At.cells {w : World} {x y z : Int} {wr : World} (h : P3At w x y z wr) : wr.cell? ⟨w.heap.size, 0, none⟩ = some (.int .i64 x) ∧ wr.cell? ⟨w.heap.size, 1, none⟩ = some (.int .i64 y) ∧ wr.cell? ⟨w.heap.size, 2, none⟩ = some (.int .i64 z) :=
  ⟨by rw [cell_of_row _ _ _ _ _ _ h.1]; rfl, by rw [cell_of_row _ _ _ _ _ _ h.1]; rfl, by rw [cell_of_row _ _ _ _ _ _ h.1]; rfl⟩
theorem own_three {w wr : World} {x y z : Int} (hb : Below w.heap.size w wr) : (wr.alloc (.cells #[.int .i64 x, .int .i64 y, .int .i64 z] 69)).ownsRow w.heap.size 69 3 (.slice (some ⟨wr.heap.size, 0, none⟩) 1 1) 1 [.int .i64 x, .int .i64 y, .int .i64 z] :=
  ⟨rfl, .inr ⟨wr.heap.size, 1, #[.int .i64 x, .int .i64 y, .int .i64 z], rfl, hb.size, heap_alloc_last wr _, Nat.le_refl _, by decide, by simp, by simp⟩⟩
set_option maxHeartbeats 1600000 in
theorem ended_any (last : Bool) (bs : List Int) (hs : smallB bs) (hst : stF last bs = 0) (w : World) :
    Calls Try.prog 83 #[frV bs, .bool last] w fun e w' => ∃ v, e = .returned v ∧ w'.ownsRow w.heap.size 69 3 v [bs].length (sheetC [bs]) ∧ Below w.heap.size w w' := by
  have hS := fun W => standing_any last bs hs W
  rw [hst] at hS; clear hst hs
  rw [show sheetC [bs] = [.int .i64 (bs.getD 0 (-1)), .int .i64 (bs.getD 1 (-1)), .int .i64 (bs.getD 2 (-1))] from rfl, show [bs].length = 1 from rfl]
  rw [show frV bs = .agg #[.int .i64 (bs.getD 0 (-1)), .int .i64 (bs.getD 1 (-1)), .int .i64 (bs.getD 2 (-1))] from rfl] at hS ⊢
  generalize bs.getD 0 (-1) = x at *
  generalize bs.getD 1 (-1) = y at *
  generalize bs.getD 2 (-1) = z at *
  have HS := Lib.hid hS; clear hS
  have H0 := Lib.hid (P3At.new w x y z)
  go_enter Try.func83, Try.ntmps83
  go_wp2_with fail
  refine (HS.out _).mono ?_; rintro e w1 ⟨rfl, b1⟩
  have H1 := Lib.hid (H0.out.keep b1); clear b1
  obtain ⟨c0, c1, c2⟩ := H1.out.cells
  go_wp2_with fail
  go_ret
  exact ⟨_, rfl, own_three H1.out.2, H1.out.2.alloc H1.out.2.size _⟩

set_option maxHeartbeats 3200000 in
theorem endings_any (last : Bool) : ∀ (k : Nat), k ≤ 3 → ∀ (bs : List Int), goodB last bs → 3 ≤ bs.length + k → ∀ w : World,
    Calls Try.prog 83 #[frV bs, .bool last] w fun e w' => ∃ v, e = .returned v ∧ w'.ownsRow w.heap.size 69 3 v (endN last k bs).length (sheetC (endN last k bs)) ∧ Below w.heap.size w w' := by
  intro k
  induction k with
  | zero =>
    intro _ bs hg hk w
    refine ended_any last bs (good_small hg) ?_ w
    rcases hg with h | h
    · have := open_len h; omega
    · exact stF_end h
  | succ k ih =>
    intro hk3 bs hg hk w
    by_cases hst : stF last bs = 0
    · have e : endN last (k + 1) bs = [bs] := by unfold endN; rw [if_pos hst]
      rw [e]
      exact ended_any last bs (good_small hg) hst w
    · have ho : openB last bs := hg.resolve_right (fun h => hst (stF_end h))
      obtain ⟨n, hn⟩ : ∃ n : Nat, stF last bs = n := ⟨(stF last bs).toNat, by rw [stF_open ho]; have := leftP_bd bs; omega⟩
      have hn10 : n ≤ 10 := by have := stF_le (last := last) (bs := bs); omega
      have hn1 : 1 ≤ n := by rw [stF_open ho] at hn; have := leftP_bd bs; omega
      have e : endN last (k + 1) bs = flN last k bs (n + 1) := by
        unfold endN flN
        rw [if_neg hst, hn]; congr 2
      have HW := Lib.hid (fun p W => with_any bs p (small_open ho) (open_len ho) W)
      have HE := Lib.hid (fun (p : Nat) (hp : p ≤ n) W => ih (by omega) (bs ++ [(p : Int)]) (good_step ho (by omega) (by rw [stF_open ho] at hn; omega)) (by simp; omega) W)
      have hS := fun W => standing_any last bs (small_open ho) W
      have HL := Lib.hid (fun m => And.intro (flN_succ last k bs m) (flN_len last k bs m))
      have HPW : Hid (∀ m, m ≤ 11 → m * 11 ^ k ≤ 1331 * 11) := Lib.hid (fun m hm => by
        have h2 : 11 ^ k ≤ 11 ^ 3 := Nat.pow_le_pow_right (by omega) (by omega)
        have : m * 11 ^ k ≤ 11 * 11 ^ 3 := Nat.mul_le_mul hm h2
        omega)
      rw [hn] at hS
      rw [e]; clear e ih hst ho hg hn
      rw [show frV bs = .agg #[.int .i64 (bs.getD 0 (-1)), .int .i64 (bs.getD 1 (-1)), .int .i64 (bs.getD 2 (-1))] from rfl] at hS HW ⊢
      generalize bs.getD 0 (-1) = x at *
      generalize bs.getD 1 (-1) = y at *
      generalize bs.getD 2 (-1) = z at *
      have HS := Lib.hid hS; clear hS
      have H0 := Lib.hid (P3At.new w x y z)
      have e0 : ((n : Int) == 0) = false := by simp; omega
      have e1 : ¬ n = 0 := by omega
      go_enter Try.func83, Try.ntmps83
      go_wp2_with fail
      refine (HS.out _).mono ?_; rintro e w1 ⟨rfl, b1⟩
      have H1 := Lib.hid (H0.out.keep b1); clear b1
      go_wp2_with fail
      go_loopw [6, 17] (fun v i wr => ∃ m : Nat, i = .int .i64 m ∧ m ≤ n + 1 ∧ Hid (P3At w x y z wr ∧ wr.ownsRow (w.heap.size + 1) 69 3 v (flN last k bs m).length (sheetC (flN last k bs m)))) (fun _ i _ => n + 1 - (intOf i).toNat)
      case atStart => exact ⟨0, rfl, Nat.zero_le _, Lib.hid ⟨H1.out, ⟨rfl, .inl ⟨rfl, rfl⟩⟩⟩⟩
      case round =>
        obtain ⟨m, rfl, hm, hH⟩ := hrel
        obtain ⟨c0, c1, c2⟩ := hH.out.1.cells
        by_cases hlt : m ≤ n
        · have b1 : (m : Int) < (n : Int) + 1 := by omega
          have HEM := Lib.hid (HE.out m hlt)
          have HWM := Lib.hid (HW.out (m : Int))
          have HLM := Lib.hid (HL.out m)
          have hle := endN_len last k (bs ++ [(m : Int)])
          have hlf := (HL.out m).2
          have hp1 := HPW.out m (by omega)
          have hp2 := HPW.out 1 (by omega)
          have HLE : Hid ((flN last k bs m).length + (endN last k (bs ++ [(m : Int)])).length ≤ 100000) := Lib.hid (by omega)
          clear hle hlf hp1 hp2
          generalize frV (bs ++ [(m : Int)]) = V at *
          generalize endN last k (bs ++ [(m : Int)]) = M at *
          generalize flN last k bs m = L at *
          go_wp2_with fail
          refine (HWM.out _).mono ?_; rintro e w2 ⟨rfl, b2⟩
          have H2 := Lib.hid (And.intro (hH.out.1.keep b2) (owns_belowS hH.out.2 b2)); clear b2 hH c0 c1 c2
          go_wp2_with fail
          refine (HEM.out _).mono ?_; rintro e w3 ⟨v3, rfl, own3, b3⟩
          have H3 := Lib.hid (And.intro (H2.out.1.keep b3) (And.intro (owns_belowS H2.out.2 b3) (owns_baseS own3 (show w.heap.size + 1 ≤ w2.heap.size from (Array.getElem?_eq_some_iff.1 H2.out.1.1).1)))); clear b3 own3 H2
          go_wp2_with (at_builtin; refine append_sheet (w0 := w3) (B := w.heap.size + 1) (L := L) (M := M) rfl _ _ rfl u6 v3 rfl rfl H3.out.2.1 H3.out.2.2 (show w.heap.size + 1 ≤ w3.heap.size from (Array.getElem?_eq_some_iff.1 H3.out.1.1).1) (Below.refl _ _) HLE.out ?_)
          intro v' w4 own4 b4 hbk
          have hlt3 : w.heap.size < w3.heap.size := (Array.getElem?_eq_some_iff.1 H3.out.1.1).1
          have hP4 : P3At w x y z w4 := by
            refine ⟨?_, H3.out.1.2.trans (b4.mono (Nat.le_succ _))⟩
            rw [hbk _ hlt3 (fun e => by have := ownsBlockS H3.out.2.1 e; omega)]
            exact H3.out.1.1
          have H4 : Hid (P3At w x y z w4 ∧ w4.ownsRow (w.heap.size + 1) 69 3 v' (flN last k bs (m + 1)).length (sheetC (flN last k bs (m + 1)))) := Lib.hid ⟨hP4, by rw [HLM.out.1, List.length_append]; exact own4⟩
          clear hP4 hlt3 hbk
          clear own4 b4 H3
          go_wp2_with fail
          go_roundw
          case rel => exact ⟨m + 1, by go_num, by omega, H4⟩
          case measure => simp [intOf]; omega
        · obtain rfl : m = n + 1 := by omega
          go_wp2_with fail
          go_ret
          exact ⟨_, rfl, owns_baseS hH.out.2 (Nat.le_succ _), hH.out.1.2⟩
end Go.Proofs.Ythbkclgdoopbpaa
