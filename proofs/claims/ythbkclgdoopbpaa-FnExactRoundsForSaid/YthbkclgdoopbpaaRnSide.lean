/-
  Rounds: both sides.
-/
import Derived.Test.YthbkclgdoopbpaaRnRow
import Derived.Lib.AppendZeros
import Derived.Maps.AppendAt
namespace Go.Proofs.Ythbkclgdoopbpaa
open Go.RowKit
set_option linter.unusedVariables false
set_option linter.unusedSimpArgs false

def firstP (n r : Nat) : Int × Int := if r % 2 = 1 then ((r : Int), (n : Int)) else ((n : Int), (r : Int))
def nthA (n r k : Nat) : Nat := (r + k) % n
def nthB (n r k : Nat) : Nat := (r + n - k) % n
/-- The first k games of the round r. -/
def roundT (n r k : Nat) : List (Int × Int) := firstP n r :: (List.range (k - 1)).map fun i => (((nthA n r (i + 1) : Nat) : Int), ((nthB n r (i + 1) : Nat) : Int))
theorem roundT_one (n r : Nat) : roundT n r 1 = [firstP n r] := rfl
theorem roundT_succ (n r k : Nat) (hk : 1 ≤ k) : roundT n r (k + 1) = roundT n r k ++ [(((nthA n r k : Nat) : Int), ((nthB n r k : Nat) : Int))] := by
  unfold roundT
  obtain ⟨k, rfl⟩ : ∃ j, k = j + 1 := ⟨k - 1, by omega⟩
  simp only [Nat.add_sub_cancel]
  rw [List.range_succ, List.map_append]; rfl
theorem roundT_len (n r k : Nat) (hk : 1 ≤ k) : (roundT n r k).length = k := by
  unfold roundT; simp; omega
/-- The first m rounds. -/
def roundsT (n h m : Nat) : List (List (List Int)) := (List.range m).map fun r => rows2 (roundT n r h)
theorem roundsT_succ (n h m : Nat) : roundsT n h (m + 1) = roundsT n h m ++ [rows2 (roundT n m h)] := by
  unfold roundsT; rw [List.range_succ, List.map_append]; rfl
theorem roundsT_len (n h m : Nat) : (roundsT n h m).length = m := by simp [roundsT]
theorem rounds_small (n h m : Nat) (hm : m ≤ 50) (h1 : 1 ≤ h) (h2 : h ≤ 50) : SmallE (roundsT n h m) := by
  refine ⟨by rw [roundsT_len]; exact hm, fun i hi => ?_⟩
  rw [roundsT_len] at hi
  have : (roundsT n h m).getD i [] = rows2 (roundT n i h) := by simp [roundsT, hi]
  rw [this]
  refine ⟨by rw [rows2_len, roundT_len _ _ _ h1]; omega, fun j hj => ?_⟩
  rw [rows2_len] at hj
  rw [rows2_get _ hj]
  simp

/-- Rows of two, made by the call. -/
def PS (w : World) (L : List (Int × Int)) (v : Value) (wr : World) : Prop := PairD w.heap.size L v wr ∧ Below w.heap.size w wr
theorem PS.more {w : World} {L : List (Int × Int)} {v : Value} {w2 : World} (h : PS w L v w2) (x y : Int) {vs : List Value} (hvs : w2.ownsRow w.heap.size 25 1 v L.length vs ∧ (Heads vs (rows2 L) ∧ (∀ j, j < L.length → RowAt w2 (blk vs j) 3 ((rows2 L).getD j []) ∧ w.heap.size ≤ blk vs j) ∧ Apart vs (rows2 L))) {v' : Value} {w5 : World}
    (ho : w5.ownsRow w.heap.size 25 1 v' (L.length + 1) (vs ++ [.slice (some ⟨w2.heap.size, 0, none⟩) 2 2])) (hg : ((w2.alloc (.cells #[.int .i64 x, .int .i64 y] 3)).alloc (.cells #[.slice (some ⟨w2.heap.size, 0, none⟩) 2 2] 25)).grownBy w5 v.ownBlock) :
    PS w (L ++ [(x, y)]) v' w5 :=
  ⟨h.1.snoc' h.2.size ⟨vs, hvs.1, hvs.2, ho⟩ hg, pair_grown hvs.1 h.2.size h.2 hg⟩
/-- A list of one row. -/
theorem PS.one {w wr : World} {g g2 : Nat} (hb : Below w.heap.size w wr) (x y : Int) (hh : wr.heap[g]? = some (.cells #[.int .i64 x, .int .i64 y] 3 (0, 0))) (hg : w.heap.size ≤ g) (hh2 : wr.heap[g2]? = some (.cells #[.slice (some ⟨g, 0, none⟩) 2 2] 25 (0, 0))) (hg2 : w.heap.size ≤ g2) :
    PS w [(x, y)] (.slice (some ⟨g2, 0, none⟩) 1 1) wr := by
  have e : blk [Value.slice (some ⟨g, 0, none⟩) 2 2] 0 = g := by simp [blk, Value.ownBlock]
  refine ⟨⟨[.slice (some ⟨g, 0, none⟩) 2 2], ⟨rfl, .inr ⟨g2, 1, #[.slice (some ⟨g, 0, none⟩) 2 2], rfl, hg2, hh2, Nat.le_refl _, by decide, by simp, by simp⟩⟩, ⟨rfl, fun j hj => ?_⟩, fun j hj => ?_, fun i j hij hj => ?_⟩, hb⟩
  · obtain rfl : j = 0 := by rw [rows2_len] at hj; simp at hj; exact hj
    exact ⟨2, by rw [e]; rfl⟩
  · obtain rfl : j = 0 := by simp at hj; exact hj
    rw [e]
    exact ⟨hh, hg⟩
  · rw [rows2_len] at hj; simp at hj; omega

/-- Appending a row of two: the last operation of a drawn region. -/
theorem wp_append_ps {w0 w2 : World} {o : Oper} {a : Act} {K : Act → World → Prop} {Q : Exit → Act → World → Prop} (s x : Operand)
    (ho : o.op = .call { callee := .builtin .append, args := #[s, x], argTypes := #[88, 88] })
    (v : Value) (L : List (Int × Int)) (X Y : Int) (hs : a.eval s = v) (hx : a.eval x = .slice (some ⟨w2.heap.size + 1, 0, none⟩) 1 1)
    (h : PS w0 L v w2) (hsz : L.length ≤ 1000) (hk : ∀ v' w', PS w0 (L ++ [(X, Y)]) v' w' → K (a.put o.dst v') w') :
    o.wp Try.prog a ((w2.alloc (.cells #[.int .i64 X, .int .i64 Y] 3)).alloc (.cells #[.slice (some ⟨w2.heap.size, 0, none⟩) 2 2] 25)) K Q := by
  obtain ⟨i0, hi, hz0, hz1, hz2⟩ := info_parts infoSlice
  obtain ⟨vs, hvs⟩ := h.1
  obtain ⟨v', w', hrun, h2, h3, h4, h5⟩ := run_append_own_at (P := Try.prog) _ w0.heap.size 88 o.type 25 i0 (.slice none 0 0) 1 24 Try.underlying88 hi hz0 hz1 hz2 rfl (by decide) v L.length vs ((hvs.1.alloc (.cells #[.int .i64 X, .int .i64 Y] 3)).alloc (.cells #[.slice (some ⟨w2.heap.size, 0, none⟩) 2 2] 25)) ⟨w2.heap.size + 1, 0, none⟩ 1 1 [.slice (some ⟨w2.heap.size, 0, none⟩) 2 2] rfl (new_head w2 _ _ _) (by intro u hu; simp at hu; subst hu; rfl) (by unfold maxLen; omega) (by omega) (by have := h.2.size; simp; omega)
  exact Lib.wp_append_run _ s x _ _ ho v _ hs hx v' w' hrun (hk v' w' (h.more X Y hvs h2 h3))

set_option maxHeartbeats 3200000 in
theorem roundOf_any (T n h r : Nat) (hT : T = n + 1) (hn1 : 1 ≤ n) (hn : n ≤ 7) (hh : T = h + h) (hr : r < n) (w : World) :
    Calls Try.prog 59 #[.int .i64 T, .int .i64 r] w fun e w' => ∃ v, e = .returned v ∧ PairD w.heap.size (roundT n r h) v w' ∧ Below w.heap.size w w' := by
  have eT : (T : Int) - 1 = (n : Int) := by omega
  have eh : ((T : Int)).tdiv 2 = (h : Int) := by rw [Int.tdiv_eq_ediv_of_nonneg (by omega)]; omega
  have hh1 : 1 ≤ h := by omega
  have hhn : h ≤ n := by omega
  have hh4 : h ≤ 4 := by omega
  have hT8 : T ≤ 8 := by omega
  have hn1' : (1 : Int) ≤ (n : Int) := by omega
  clear hT hh
  by_cases hp : r % 2 = 1
  · have t1 : ((r : Int)).tmod 2 = 1 := by rw [Int.tmod_eq_emod_of_nonneg (by omega)]; omega
    have t2 : ((r : Int)) % 2 = 1 := by omega
    have HF : Hid (firstP n r = ((r : Int), (n : Int))) := Lib.hid (by simp [firstP, hp])
    clear hp
    go_enter Try.func59, Try.ntmps59
    go_wp2_with fail
    have HAP := Lib.hid (fun W v (h : PS w (roundT n r 1) v W) => h)
    go_loopw [6, 7] (fun v i wr => ∃ k : Nat, i = .int .i64 k ∧ 1 ≤ k ∧ k ≤ h ∧ Hid (PS w (roundT n r k) v wr)) (fun _ i _ => h - (intOf i).toNat)
    case atStart => exact ⟨1, rfl, by omega, by omega, by
      have b0 := (Below.refl w.heap.size w)
      refine Lib.hid ?_
      rw [roundT_one, HF.out]
      refine PS.one (g := w.heap.size + 1 + 1) (g2 := w.heap.size + 1 + 1 + 1) (by (repeat (first | exact Below.refl _ _ | exact ‹Below _ _ _› | refine Below.drew ?_ | refine Below.alloc ?_ (by first | omega | (simp; done) | (simp; omega)) _ | refine Below.setCell ?_ (by first | omega | (simp; done) | (simp; omega)) _ | refine Below.trans ?_ (Below.mono ‹Below _ _ _› (by first | omega | (simp; done) | (simp; omega)))))) _ _ ?_ (by omega) ?_ (by omega)
      · rw [Below.heap_alloc _ _ _ (by simp)]
        have := heap_alloc_last ((w.alloc (Obj.cells #[Value.int IntKind.i64 n, Value.int IntKind.i64 r] 3)).alloc (Obj.cells #[Value.slice (some { block := w.heap.size, off := 0 }) 2 2] 25)) (Obj.cells #[Value.int IntKind.i64 r, Value.int IntKind.i64 n] 3)
        simpa using this
      · have := heap_alloc_last (((w.alloc (Obj.cells #[Value.int IntKind.i64 n, Value.int IntKind.i64 r] 3)).alloc (Obj.cells #[Value.slice (some { block := w.heap.size, off := 0 }) 2 2] 25)).alloc (Obj.cells #[Value.int IntKind.i64 r, Value.int IntKind.i64 n] 3)) (Obj.cells #[Value.slice (some { block := w.heap.size + 1 + 1, off := 0 }) 2 2] 25)
        simpa using this⟩
    case round =>
      obtain ⟨k, rfl, hk1, hk, hH⟩ := hrel
      by_cases hlt : k < h
      · have hlt2 : (k : Int) < (h : Int) := by omega
        have hnA : nthA n r k < n := Nat.mod_lt _ (by omega)
        have hnB : nthB n r k < n := Nat.mod_lt _ (by omega)
        have q0 : ((r : Int) + (k : Int)).tmod (n : Int) = ((nthA n r k : Nat) : Int) := by rw [Int.tmod_eq_emod_of_nonneg (by omega)]; unfold nthA; push_cast; rfl
        have q1 : ((r : Int) - (k : Int) + (n : Int)).tmod (n : Int) = ((nthB n r k : Nat) : Int) := by
          rw [Int.tmod_eq_emod_of_nonneg (by omega)]; unfold nthB
          rw [show (r : Int) - (k : Int) + (n : Int) = ((r + n - k : Nat) : Int) by omega]; rfl
        have w1 : IntKind.i64.wrap ((r : Int) + (k : Int)) = (r : Int) + (k : Int) := by rw [IntKind.wrap_i64]; omega
        have w2 : IntKind.i64.wrap ((r : Int) - (k : Int)) = (r : Int) - (k : Int) := by rw [IntKind.wrap_i64]; omega
        have w3 : IntKind.i64.wrap ((r : Int) - (k : Int) + (n : Int)) = (r : Int) - (k : Int) + (n : Int) := by rw [IntKind.wrap_i64]; omega
        have w4 : IntKind.i64.wrap ((nthA n r k : Nat) : Int) = ((nthA n r k : Nat) : Int) := by rw [IntKind.wrap_i64]; omega
        have w5 : IntKind.i64.wrap ((nthB n r k : Nat) : Int) = ((nthB n r k : Nat) : Int) := by rw [IntKind.wrap_i64]; omega
        have e8 : ¬ (n : Int) = 0 := by omega
        have e9 : ¬ n = 0 := by omega
        have hst := roundT_succ n r k hk1
        have hlen := roundT_len n r k hk1
        have HST := Lib.hid hst; have HLN := Lib.hid hlen; clear hst hlen
        have KD := Lib.hid (show PS w (roundT n r k) _ wr.drew from ⟨hH.out.1.keep (Below.drew (Below.refl _ _)), hH.out.2.drew⟩)
        generalize nthA n r k = A at *
        generalize nthB n r k = B at *
        clear hH
        go_wp2_with fail
        refine wp_region_held_drew (S := fun _ => True) (by kernel_rfl) trivial (fun hHeld => ?_)
        (refine wpAnyH_take (i := 0) (v := ?_) rfl (by kernel_rfl) (by kernel_rfl) (by kernel_rfl) (fun _ _ _ h => h) (Or.inl ⟨by kernel_rfl, ?_⟩) (by assumption) ?_; rotate_left; focus (intro w hSw; (try dsimp only at hSw); go_simp; try with_reducible rfl); (try simp only [List.getElem_toArray, List.getElem_cons_succ, List.getElem_cons_zero, Act.put, List.setIfInBounds_toArray, List.set_cons_zero, List.set_cons_succ])); (refine wpAnyH_take (i := 1) (v := ?_) rfl (by kernel_rfl) (by kernel_rfl) (by kernel_rfl) (fun _ _ _ h => h) (Or.inl ⟨by kernel_rfl, ?_⟩) (by assumption) ?_; rotate_left; focus (intro w hSw; (try dsimp only at hSw); go_simp; try with_reducible rfl); (try simp only [List.getElem_toArray, List.getElem_cons_succ, List.getElem_cons_zero, Act.put, List.setIfInBounds_toArray, List.set_cons_zero, List.set_cons_succ])); (refine wpAnyH_take (i := 2) (v := ?_) rfl (by kernel_rfl) (by kernel_rfl) (by kernel_rfl) (fun _ _ _ h => h) (Or.inl ⟨by kernel_rfl, ?_⟩) (by assumption) ?_; rotate_left; focus (intro w hSw; (try dsimp only at hSw); go_simp; try with_reducible rfl); (try simp only [List.getElem_toArray, List.getElem_cons_succ, List.getElem_cons_zero, Act.put, List.setIfInBounds_toArray, List.set_cons_zero, List.set_cons_succ])); (refine wpAnyH_take (i := 3) (v := ?_) rfl (by kernel_rfl) (by kernel_rfl) (by kernel_rfl) (fun _ _ _ h => h) (Or.inl ⟨by kernel_rfl, ?_⟩) (by assumption) ?_; rotate_left; focus (intro w hSw; (try dsimp only at hSw); go_simp; try with_reducible rfl); (try simp only [List.getElem_toArray, List.getElem_cons_succ, List.getElem_cons_zero, Act.put, List.setIfInBounds_toArray, List.set_cons_zero, List.set_cons_succ])); (refine wpAnyH_take (i := 4) (v := ?_) rfl (by kernel_rfl) (by kernel_rfl) (by kernel_rfl) (fun _ _ _ h => h) (Or.inl ⟨by kernel_rfl, ?_⟩) (by assumption) ?_; rotate_left; focus (intro w hSw; (try dsimp only at hSw); go_simp; try with_reducible rfl); (try simp only [List.getElem_toArray, List.getElem_cons_succ, List.getElem_cons_zero, Act.put, List.setIfInBounds_toArray, List.set_cons_zero, List.set_cons_succ])); (refine wpAnyH_take (i := 5) (v := ?_) rfl (by kernel_rfl) (by kernel_rfl) (by kernel_rfl) (fun _ _ _ h => h) (Or.inl ⟨by kernel_rfl, ?_⟩) (by assumption) ?_; rotate_left; focus (intro w hSw; (try dsimp only at hSw); go_simp; try with_reducible rfl); (try simp only [List.getElem_toArray, List.getElem_cons_succ, List.getElem_cons_zero, Act.put, List.setIfInBounds_toArray, List.set_cons_zero, List.set_cons_succ])); (refine wpAnyH_take (i := 6) (v := ?_) rfl (by kernel_rfl) (by kernel_rfl) (by kernel_rfl) (fun _ _ _ h => h) (Or.inl ⟨by kernel_rfl, ?_⟩) (by assumption) ?_; rotate_left; focus (intro w hSw; (try dsimp only at hSw); go_simp; try with_reducible rfl); (try simp only [List.getElem_toArray, List.getElem_cons_succ, List.getElem_cons_zero, Act.put, List.setIfInBounds_toArray, List.set_cons_zero, List.set_cons_succ])); (refine wpAnyH_take (i := 7) (v := ?_) rfl (by kernel_rfl) (by kernel_rfl) (by kernel_rfl) (fun _ _ _ h => h) (Or.inl ⟨by kernel_rfl, ?_⟩) (by assumption) ?_; rotate_left; focus (intro w hSw; (try dsimp only at hSw); go_simp; try with_reducible rfl); (try simp only [List.getElem_toArray, List.getElem_cons_succ, List.getElem_cons_zero, Act.put, List.setIfInBounds_toArray, List.set_cons_zero, List.set_cons_succ])); (refine wpAnyH_take (i := 8) (v := ?_) rfl (by kernel_rfl) (by kernel_rfl) (by kernel_rfl) (fun _ _ _ h => h) (Or.inl ⟨by kernel_rfl, ?_⟩) (by assumption) ?_; rotate_left; focus (intro w hSw; (try dsimp only at hSw); go_simp; try with_reducible rfl); (try simp only [List.getElem_toArray, List.getElem_cons_succ, List.getElem_cons_zero, Act.put, List.setIfInBounds_toArray, List.set_cons_zero, List.set_cons_succ])); (refine wpAnyH_take (i := 9) (v := ?_) rfl (by kernel_rfl) (by kernel_rfl) (by kernel_rfl) (fun _ _ _ h => h) (Or.inl ⟨by kernel_rfl, ?_⟩) (by assumption) ?_; rotate_left; focus (intro w hSw; (try dsimp only at hSw); go_simp; try with_reducible rfl); (try simp only [List.getElem_toArray, List.getElem_cons_succ, List.getElem_cons_zero, Act.put, List.setIfInBounds_toArray, List.set_cons_zero, List.set_cons_succ])); (refine wpAnyH_take (i := 10) (v := ?_) rfl (by kernel_rfl) (by kernel_rfl) (by kernel_rfl) (fun _ _ _ h => h) (Or.inl ⟨by kernel_rfl, ?_⟩) (by assumption) ?_; rotate_left; focus (intro w hSw; (try dsimp only at hSw); go_simp; try with_reducible rfl); (try simp only [List.getElem_toArray, List.getElem_cons_succ, List.getElem_cons_zero, Act.put, List.setIfInBounds_toArray, List.set_cons_zero, List.set_cons_succ])); (refine wpAnyH_take (i := 11) (v := ?_) rfl (by kernel_rfl) (by kernel_rfl) (by kernel_rfl) (fun _ _ _ h => h) (Or.inl ⟨by kernel_rfl, ?_⟩) (by assumption) ?_; rotate_left; focus (intro w hSw; (try dsimp only at hSw); go_simp; try with_reducible rfl); (try simp only [List.getElem_toArray, List.getElem_cons_succ, List.getElem_cons_zero, Act.put, List.setIfInBounds_toArray, List.set_cons_zero, List.set_cons_succ])); (refine wpAnyH_take (i := 12) (v := ?_) rfl (by kernel_rfl) (by kernel_rfl) (by kernel_rfl) (fun _ _ _ h => h) (Or.inl ⟨by kernel_rfl, ?_⟩) (by assumption) ?_; rotate_left; focus (intro w hSw; (try dsimp only at hSw); go_simp; try with_reducible rfl); (try simp only [List.getElem_toArray, List.getElem_cons_succ, List.getElem_cons_zero, Act.put, List.setIfInBounds_toArray, List.set_cons_zero, List.set_cons_succ]))
        refine wpAnyH_ready (rs := [13]) (by kernel_rfl) (by simp) ?_; refine AllReadyH.cons rfl (fun K hK => ?_) AllReadyH.nil
        go_simp
        first
          | refine hK.out _ _ trivial (fun hHeld => ?_)
          | refine hK _ _ trivial (fun hHeld => ?_)
        clear hK K
        (try simp only [List.getElem_toArray, List.getElem_cons_succ, List.getElem_cons_zero, Act.put, List.setIfInBounds_toArray, List.set_cons_zero, List.set_cons_succ])
        refine wpAnyH_ready (rs := [14]) (by kernel_rfl) (by simp) ?_; refine AllReadyH.cons rfl (fun K hK => ?_) AllReadyH.nil
        go_simp
        first
          | refine hK.out _ _ trivial (fun hHeld => ?_)
          | refine hK _ _ trivial (fun hHeld => ?_)
        clear hK K
        (try simp only [List.getElem_toArray, List.getElem_cons_succ, List.getElem_cons_zero, Act.put, List.setIfInBounds_toArray, List.set_cons_zero, List.set_cons_succ])
        refine wpAnyH_ready (rs := [15]) (by kernel_rfl) (by simp) ?_; refine AllReadyH.cons rfl (fun K hK => ?_) AllReadyH.nil
        refine wp_append_ps (w0 := w) (w2 := wr.drew) _ _ rfl u6 (roundT n r k) (A : Int) (B : Int) (by rfl) (by rfl) KD.out (by rw [HLN.out]; omega) ?_
        intro v5 w5 h5
        have H7 := Lib.hid h5; clear h5
        first
          | refine hK.out _ _ trivial (fun hHeld => ?_)
          | refine hK _ _ trivial (fun hHeld => ?_)
        clear hK K
        (try simp only [List.getElem_toArray, List.getElem_cons_succ, List.getElem_cons_zero, Act.put, List.setIfInBounds_toArray, List.set_cons_zero, List.set_cons_succ])
        (refine wpAnyH_take (i := 16) (v := ?_) rfl (by kernel_rfl) (by kernel_rfl) (by kernel_rfl) (fun _ _ _ h => h) (Or.inl ⟨by kernel_rfl, ?_⟩) (by assumption) ?_; rotate_left; focus (intro w hSw; (try dsimp only at hSw); go_simp; try with_reducible rfl); (try simp only [List.getElem_toArray, List.getElem_cons_succ, List.getElem_cons_zero, Act.put, List.setIfInBounds_toArray, List.set_cons_zero, List.set_cons_succ]))
        refine wpAnyH_done (by kernel_rfl) ?_ _
        (try simp only [List.getElem_toArray, List.getElem_cons_succ, List.getElem_cons_zero, Act.put, List.setIfInBounds_toArray, List.set_cons_zero, List.set_cons_succ])
        go_wp2_with fail
        go_roundw
        case rel => exact ⟨k + 1, by go_num, by omega, by omega, by rw [HST.out]; exact H7⟩
        case measure => simp [intOf]; omega
      · obtain rfl : k = h := by omega
        go_wp2_with fail
        go_ret
        exact ⟨_, rfl, hH.out.1, hH.out.2⟩
  · have t1 : ((r : Int)).tmod 2 = 0 := by rw [Int.tmod_eq_emod_of_nonneg (by omega)]; omega
    have t2 : ((r : Int)) % 2 = 0 := by omega
    have HF : Hid (firstP n r = ((n : Int), (r : Int))) := Lib.hid (by simp [firstP, hp])
    clear hp
    go_enter Try.func59, Try.ntmps59
    go_wp2_with fail
    have HAP := Lib.hid (fun W v (h : PS w (roundT n r 1) v W) => h)
    go_loopw [6, 7] (fun v i wr => ∃ k : Nat, i = .int .i64 k ∧ 1 ≤ k ∧ k ≤ h ∧ Hid (PS w (roundT n r k) v wr)) (fun _ i _ => h - (intOf i).toNat)
    case atStart => exact ⟨1, rfl, by omega, by omega, by
      refine Lib.hid ?_
      rw [roundT_one, HF.out]
      refine PS.one (g := w.heap.size) (g2 := w.heap.size + 1) (by (repeat (first | exact Below.refl _ _ | exact ‹Below _ _ _› | refine Below.drew ?_ | refine Below.alloc ?_ (by first | omega | (simp; done) | (simp; omega)) _ | refine Below.setCell ?_ (by first | omega | (simp; done) | (simp; omega)) _ | refine Below.trans ?_ (Below.mono ‹Below _ _ _› (by first | omega | (simp; done) | (simp; omega)))))) _ _ ?_ (by omega) ?_ (by omega)
      · rw [Below.heap_alloc _ _ _ (by simp)]
        exact heap_alloc_last w _
      · have := heap_alloc_last (w.alloc (Obj.cells #[Value.int IntKind.i64 n, Value.int IntKind.i64 r] 3)) (Obj.cells #[Value.slice (some { block := w.heap.size, off := 0 }) 2 2] 25)
        simpa using this⟩
    case round =>
      obtain ⟨k, rfl, hk1, hk, hH⟩ := hrel
      by_cases hlt : k < h
      · have hlt2 : (k : Int) < (h : Int) := by omega
        have hnA : nthA n r k < n := Nat.mod_lt _ (by omega)
        have hnB : nthB n r k < n := Nat.mod_lt _ (by omega)
        have q0 : ((r : Int) + (k : Int)).tmod (n : Int) = ((nthA n r k : Nat) : Int) := by rw [Int.tmod_eq_emod_of_nonneg (by omega)]; unfold nthA; push_cast; rfl
        have q1 : ((r : Int) - (k : Int) + (n : Int)).tmod (n : Int) = ((nthB n r k : Nat) : Int) := by
          rw [Int.tmod_eq_emod_of_nonneg (by omega)]; unfold nthB
          rw [show (r : Int) - (k : Int) + (n : Int) = ((r + n - k : Nat) : Int) by omega]; rfl
        have w1 : IntKind.i64.wrap ((r : Int) + (k : Int)) = (r : Int) + (k : Int) := by rw [IntKind.wrap_i64]; omega
        have w2 : IntKind.i64.wrap ((r : Int) - (k : Int)) = (r : Int) - (k : Int) := by rw [IntKind.wrap_i64]; omega
        have w3 : IntKind.i64.wrap ((r : Int) - (k : Int) + (n : Int)) = (r : Int) - (k : Int) + (n : Int) := by rw [IntKind.wrap_i64]; omega
        have w4 : IntKind.i64.wrap ((nthA n r k : Nat) : Int) = ((nthA n r k : Nat) : Int) := by rw [IntKind.wrap_i64]; omega
        have w5 : IntKind.i64.wrap ((nthB n r k : Nat) : Int) = ((nthB n r k : Nat) : Int) := by rw [IntKind.wrap_i64]; omega
        have e8 : ¬ (n : Int) = 0 := by omega
        have e9 : ¬ n = 0 := by omega
        have hst := roundT_succ n r k hk1
        have hlen := roundT_len n r k hk1
        have HST := Lib.hid hst; have HLN := Lib.hid hlen; clear hst hlen
        have KD := Lib.hid (show PS w (roundT n r k) _ wr.drew from ⟨hH.out.1.keep (Below.drew (Below.refl _ _)), hH.out.2.drew⟩)
        generalize nthA n r k = A at *
        generalize nthB n r k = B at *
        clear hH
        go_wp2_with fail
        refine wp_region_held_drew (S := fun _ => True) (by kernel_rfl) trivial (fun hHeld => ?_)
        (refine wpAnyH_take (i := 0) (v := ?_) rfl (by kernel_rfl) (by kernel_rfl) (by kernel_rfl) (fun _ _ _ h => h) (Or.inl ⟨by kernel_rfl, ?_⟩) (by assumption) ?_; rotate_left; focus (intro w hSw; (try dsimp only at hSw); go_simp; try with_reducible rfl); (try simp only [List.getElem_toArray, List.getElem_cons_succ, List.getElem_cons_zero, Act.put, List.setIfInBounds_toArray, List.set_cons_zero, List.set_cons_succ])); (refine wpAnyH_take (i := 1) (v := ?_) rfl (by kernel_rfl) (by kernel_rfl) (by kernel_rfl) (fun _ _ _ h => h) (Or.inl ⟨by kernel_rfl, ?_⟩) (by assumption) ?_; rotate_left; focus (intro w hSw; (try dsimp only at hSw); go_simp; try with_reducible rfl); (try simp only [List.getElem_toArray, List.getElem_cons_succ, List.getElem_cons_zero, Act.put, List.setIfInBounds_toArray, List.set_cons_zero, List.set_cons_succ])); (refine wpAnyH_take (i := 2) (v := ?_) rfl (by kernel_rfl) (by kernel_rfl) (by kernel_rfl) (fun _ _ _ h => h) (Or.inl ⟨by kernel_rfl, ?_⟩) (by assumption) ?_; rotate_left; focus (intro w hSw; (try dsimp only at hSw); go_simp; try with_reducible rfl); (try simp only [List.getElem_toArray, List.getElem_cons_succ, List.getElem_cons_zero, Act.put, List.setIfInBounds_toArray, List.set_cons_zero, List.set_cons_succ])); (refine wpAnyH_take (i := 3) (v := ?_) rfl (by kernel_rfl) (by kernel_rfl) (by kernel_rfl) (fun _ _ _ h => h) (Or.inl ⟨by kernel_rfl, ?_⟩) (by assumption) ?_; rotate_left; focus (intro w hSw; (try dsimp only at hSw); go_simp; try with_reducible rfl); (try simp only [List.getElem_toArray, List.getElem_cons_succ, List.getElem_cons_zero, Act.put, List.setIfInBounds_toArray, List.set_cons_zero, List.set_cons_succ])); (refine wpAnyH_take (i := 4) (v := ?_) rfl (by kernel_rfl) (by kernel_rfl) (by kernel_rfl) (fun _ _ _ h => h) (Or.inl ⟨by kernel_rfl, ?_⟩) (by assumption) ?_; rotate_left; focus (intro w hSw; (try dsimp only at hSw); go_simp; try with_reducible rfl); (try simp only [List.getElem_toArray, List.getElem_cons_succ, List.getElem_cons_zero, Act.put, List.setIfInBounds_toArray, List.set_cons_zero, List.set_cons_succ])); (refine wpAnyH_take (i := 5) (v := ?_) rfl (by kernel_rfl) (by kernel_rfl) (by kernel_rfl) (fun _ _ _ h => h) (Or.inl ⟨by kernel_rfl, ?_⟩) (by assumption) ?_; rotate_left; focus (intro w hSw; (try dsimp only at hSw); go_simp; try with_reducible rfl); (try simp only [List.getElem_toArray, List.getElem_cons_succ, List.getElem_cons_zero, Act.put, List.setIfInBounds_toArray, List.set_cons_zero, List.set_cons_succ])); (refine wpAnyH_take (i := 6) (v := ?_) rfl (by kernel_rfl) (by kernel_rfl) (by kernel_rfl) (fun _ _ _ h => h) (Or.inl ⟨by kernel_rfl, ?_⟩) (by assumption) ?_; rotate_left; focus (intro w hSw; (try dsimp only at hSw); go_simp; try with_reducible rfl); (try simp only [List.getElem_toArray, List.getElem_cons_succ, List.getElem_cons_zero, Act.put, List.setIfInBounds_toArray, List.set_cons_zero, List.set_cons_succ])); (refine wpAnyH_take (i := 7) (v := ?_) rfl (by kernel_rfl) (by kernel_rfl) (by kernel_rfl) (fun _ _ _ h => h) (Or.inl ⟨by kernel_rfl, ?_⟩) (by assumption) ?_; rotate_left; focus (intro w hSw; (try dsimp only at hSw); go_simp; try with_reducible rfl); (try simp only [List.getElem_toArray, List.getElem_cons_succ, List.getElem_cons_zero, Act.put, List.setIfInBounds_toArray, List.set_cons_zero, List.set_cons_succ])); (refine wpAnyH_take (i := 8) (v := ?_) rfl (by kernel_rfl) (by kernel_rfl) (by kernel_rfl) (fun _ _ _ h => h) (Or.inl ⟨by kernel_rfl, ?_⟩) (by assumption) ?_; rotate_left; focus (intro w hSw; (try dsimp only at hSw); go_simp; try with_reducible rfl); (try simp only [List.getElem_toArray, List.getElem_cons_succ, List.getElem_cons_zero, Act.put, List.setIfInBounds_toArray, List.set_cons_zero, List.set_cons_succ])); (refine wpAnyH_take (i := 9) (v := ?_) rfl (by kernel_rfl) (by kernel_rfl) (by kernel_rfl) (fun _ _ _ h => h) (Or.inl ⟨by kernel_rfl, ?_⟩) (by assumption) ?_; rotate_left; focus (intro w hSw; (try dsimp only at hSw); go_simp; try with_reducible rfl); (try simp only [List.getElem_toArray, List.getElem_cons_succ, List.getElem_cons_zero, Act.put, List.setIfInBounds_toArray, List.set_cons_zero, List.set_cons_succ])); (refine wpAnyH_take (i := 10) (v := ?_) rfl (by kernel_rfl) (by kernel_rfl) (by kernel_rfl) (fun _ _ _ h => h) (Or.inl ⟨by kernel_rfl, ?_⟩) (by assumption) ?_; rotate_left; focus (intro w hSw; (try dsimp only at hSw); go_simp; try with_reducible rfl); (try simp only [List.getElem_toArray, List.getElem_cons_succ, List.getElem_cons_zero, Act.put, List.setIfInBounds_toArray, List.set_cons_zero, List.set_cons_succ])); (refine wpAnyH_take (i := 11) (v := ?_) rfl (by kernel_rfl) (by kernel_rfl) (by kernel_rfl) (fun _ _ _ h => h) (Or.inl ⟨by kernel_rfl, ?_⟩) (by assumption) ?_; rotate_left; focus (intro w hSw; (try dsimp only at hSw); go_simp; try with_reducible rfl); (try simp only [List.getElem_toArray, List.getElem_cons_succ, List.getElem_cons_zero, Act.put, List.setIfInBounds_toArray, List.set_cons_zero, List.set_cons_succ])); (refine wpAnyH_take (i := 12) (v := ?_) rfl (by kernel_rfl) (by kernel_rfl) (by kernel_rfl) (fun _ _ _ h => h) (Or.inl ⟨by kernel_rfl, ?_⟩) (by assumption) ?_; rotate_left; focus (intro w hSw; (try dsimp only at hSw); go_simp; try with_reducible rfl); (try simp only [List.getElem_toArray, List.getElem_cons_succ, List.getElem_cons_zero, Act.put, List.setIfInBounds_toArray, List.set_cons_zero, List.set_cons_succ]))
        refine wpAnyH_ready (rs := [13]) (by kernel_rfl) (by simp) ?_; refine AllReadyH.cons rfl (fun K hK => ?_) AllReadyH.nil
        go_simp
        first
          | refine hK.out _ _ trivial (fun hHeld => ?_)
          | refine hK _ _ trivial (fun hHeld => ?_)
        clear hK K
        (try simp only [List.getElem_toArray, List.getElem_cons_succ, List.getElem_cons_zero, Act.put, List.setIfInBounds_toArray, List.set_cons_zero, List.set_cons_succ])
        refine wpAnyH_ready (rs := [14]) (by kernel_rfl) (by simp) ?_; refine AllReadyH.cons rfl (fun K hK => ?_) AllReadyH.nil
        go_simp
        first
          | refine hK.out _ _ trivial (fun hHeld => ?_)
          | refine hK _ _ trivial (fun hHeld => ?_)
        clear hK K
        (try simp only [List.getElem_toArray, List.getElem_cons_succ, List.getElem_cons_zero, Act.put, List.setIfInBounds_toArray, List.set_cons_zero, List.set_cons_succ])
        refine wpAnyH_ready (rs := [15]) (by kernel_rfl) (by simp) ?_; refine AllReadyH.cons rfl (fun K hK => ?_) AllReadyH.nil
        refine wp_append_ps (w0 := w) (w2 := wr.drew) _ _ rfl u6 (roundT n r k) (A : Int) (B : Int) (by rfl) (by rfl) KD.out (by rw [HLN.out]; omega) ?_
        intro v5 w5 h5
        have H7 := Lib.hid h5; clear h5
        first
          | refine hK.out _ _ trivial (fun hHeld => ?_)
          | refine hK _ _ trivial (fun hHeld => ?_)
        clear hK K
        (try simp only [List.getElem_toArray, List.getElem_cons_succ, List.getElem_cons_zero, Act.put, List.setIfInBounds_toArray, List.set_cons_zero, List.set_cons_succ])
        (refine wpAnyH_take (i := 16) (v := ?_) rfl (by kernel_rfl) (by kernel_rfl) (by kernel_rfl) (fun _ _ _ h => h) (Or.inl ⟨by kernel_rfl, ?_⟩) (by assumption) ?_; rotate_left; focus (intro w hSw; (try dsimp only at hSw); go_simp; try with_reducible rfl); (try simp only [List.getElem_toArray, List.getElem_cons_succ, List.getElem_cons_zero, Act.put, List.setIfInBounds_toArray, List.set_cons_zero, List.set_cons_succ]))
        refine wpAnyH_done (by kernel_rfl) ?_ _
        (try simp only [List.getElem_toArray, List.getElem_cons_succ, List.getElem_cons_zero, Act.put, List.setIfInBounds_toArray, List.set_cons_zero, List.set_cons_succ])
        go_wp2_with fail
        go_roundw
        case rel => exact ⟨k + 1, by go_num, by omega, by omega, by rw [HST.out]; exact H7⟩
        case measure => simp [intOf]; omega
      · obtain rfl : k = h := by omega
        go_wp2_with fail
        go_ret
        exact ⟨_, rfl, hH.out.1, hH.out.2⟩
def goodT (t : Int) : Bool := decide (2 ≤ t ∧ t ≤ 8 ∧ t % 2 = 0)
def roundsO (t : Int) : List (List (List Int)) := if goodT t then roundsT (t.toNat - 1) (t.toNat / 2) (t.toNat - 1) else []
theorem infoSlice2 : (Try.prog.info? 88).map (fun i => (i.zero, i.size, i.bytes)) = some (some (.slice none 0 0), 1, 24) := by kernel_rfl
/-- Rounds, made by the call. -/
def RS (w : World) (E : List (List (List Int))) (v : Value) (wr : World) : Prop := RnD w.heap.size E v wr ∧ Below w.heap.size w wr
def RoundsR (E : List (List (List Int))) (o : Bool) (w : World) (e : Ending) (w' : World) : Prop :=
  ∃ v, e = .returned (.tuple #[v, .bool o]) ∧ RnD w.heap.size E v w' ∧ Below w.heap.size w w'
theorem RS.nil (w : World) : RS w [] (.slice none 0 0) w := ⟨⟨[], RnV.nil _ _⟩, Below.refl _ _⟩
theorem RS.more {w wr w1 w5 : World} {E : List (List (List Int))} {v v' : Value} {vs : List Value} (h : Below w.heap.size w wr) (hv : RnV w.heap.size E v vs wr) (hb : Below wr.heap.size wr w1) {D : List (List Int)} {a1 : Option Addr} {c1 : Nat} (hD : FrC wr.heap.size D (.slice a1 D.length c1) w1) (hne : 0 < D.length)
    (ho : w5.ownsRow w.heap.size 88 1 v' (E.length + 1) (vs ++ [.slice a1 D.length c1])) (hg : (w1.alloc (.cells #[.slice a1 D.length c1] 88)).grownBy w5 v.ownBlock) : RS w (E ++ [D]) v' w5 := by
  have hsz := h.size
  have hsb := hb.size
  refine ⟨⟨_, hv.snoc hb hsz hD hne ho hg⟩, ?_⟩
  refine ((h.trans (hb.mono hsz)).alloc (by omega) _).grown hg (by simp; omega) (fun g hg => by have := (owns_ge hv.1 hg).1; omega)


set_option maxHeartbeats 3200000 in
theorem implRounds_good (T n h : Nat) (hT : T = n + 1) (hn1 : 1 ≤ n) (hn : n ≤ 7) (hh : T = h + h) (w : World) :
    Calls Try.prog 27 #[.int .i64 T] w (RoundsR (roundsT n h n) true w) := by
  obtain ⟨i0, hi, hz0, hz1, hz2⟩ := info_parts infoSlice2
  have HI := Lib.hid (And.intro hi (And.intro hz0 (And.intro hz1 hz2))); clear hi hz0 hz1 hz2
  have HC := Lib.hid (fun r (hr : r < n) W => roundOf_any T n h r hT hn1 hn hh hr W)
  have eT : (T : Int) - 1 = (n : Int) := by omega
  have hh1 : 1 ≤ h := by omega
  have hT2 : ¬ (T : Int) < 2 := by omega
  have hT8 : ¬ 8 < (T : Int) := by omega
  have hTle : T ≤ 8 := by omega
  have hT1 : (T : Int).tmod 2 = 0 := by rw [Int.tmod_eq_emod_of_nonneg (by omega)]; omega
  have hTm : (T : Int) % 2 = 0 := by omega
  have HHH := Lib.hid hh1
  have H1 : Hid (RS w (roundsT n h 0) (.slice none 0 0) w) := Lib.hid (RS.nil w)
  clear hT hh
  go_enter Try.func27, Try.ntmps27
  go_wp2_with fail
  go_loopw [4, 19] (fun v i wr => ∃ k : Nat, i = .int .i64 k ∧ k ≤ n ∧ Hid (RS w (roundsT n h k) v wr)) (fun _ i _ => n - (intOf i).toNat)
  case atStart => exact ⟨0, rfl, by omega, H1⟩
  case round =>
    clear H1
    obtain ⟨k, rfl, hk, hH⟩ := hrel
    by_cases hlt : k < n
    · have hlt2 : (k : Int) < (n : Int) := by omega
      have HST := Lib.hid (roundsT_succ n h k)
      have HLN := Lib.hid (roundsT_len n h k)
      have HLR := Lib.hid (roundT_len n k h HHH.out)
      obtain ⟨vs, hvs⟩ := hH.out.1
      have HVS := Lib.hid hvs; clear hvs
      go_wp2_with fail
      refine (HC.out k hlt _).mono ?_; rintro e w1 ⟨v1, rfl, pd1, b1⟩
      have fc1 := pd1.c
      generalize roundT n k h = R at *
      clear pd1
      obtain ⟨a1, c1, rfl⟩ := fc1.slice
      have HLD : Hid ((rows2 R).length = h) := Lib.hid (by rw [rows2_len]; exact HLR.out)
      generalize rows2 R = D at *
      have HF := Lib.hid (And.intro fc1 b1); clear fc1 b1
      generalize roundsT n h k = E at *
      go_wp2_with (at_builtin; refine wpList_append_own_at _ rfl _ _ 47 rfl w.heap.size 88 i0 (.slice none 0 0) 1 24 Try.underlying47 HI.out.1 HI.out.2.1 HI.out.2.2.1 HI.out.2.2.2 rfl (by decide) _ _ _ rfl ((HVS.out.keep HF.out.2).1.alloc _) ⟨w1.heap.size, 0, none⟩ 1 1 [.slice a1 D.length c1] rfl rfl (cell_one_new w1 _ _) ?_ ?_ ?_ ?_ ?_)
      · first | rfl | (intro u hu; simp at hu; subst hu; rfl)
      · have := HLN.out; unfold maxLen; omega
      · have := HLN.out; omega
      · have := hH.out.2.size; have := HF.out.2.size; first | omega | (simp; omega)
      intro v' w7 hown7 hgrow _ _
      have H7 := Lib.hid (RS.more hH.out.2 HVS.out HF.out.2 HF.out.1 (by rw [HLD.out]; exact HHH.out) hown7 hgrow)
      clear hown7 hgrow HVS HF hH HLN
      go_wp2_with fail
      go_roundw
      case rel => exact ⟨k + 1, by go_num, by omega, by rw [HST.out]; exact H7⟩
      case measure => simp [intOf]; omega
    · obtain rfl : k = n := by omega
      go_wp2_with fail
      refine bodyPost_ret (v := .tuple #[u4, .bool true]) ?_ rfl ⟨_, rfl, hH.out.1, hH.out.2⟩
      simp [results, Try.results27, go_sem, *]

set_option maxHeartbeats 800000 in
theorem implRounds_bad (t : Int) (hg : goodT t = false) (w : World) :
    Calls Try.prog 27 #[.int .i64 t] w (RoundsR [] false w) := by
  have HF : Hid (RoundsR [] false w (.returned (.tuple #[.slice none 0 0, .bool false])) w) := Lib.hid ⟨_, rfl, ⟨[], RnV.nil _ _⟩, Below.refl _ _⟩
  by_cases h1 : t < 2
  · clear hg
    go_enter Try.func27, Try.ntmps27
    go_wp2_with fail
    refine bodyPost_ret (v := .tuple #[.slice none 0 0, .bool false]) ?_ rfl HF.out
    simp [results, Try.results27, go_sem, *]
  · by_cases h2 : 8 < t
    · clear hg
      go_enter Try.func27, Try.ntmps27
      go_wp2_with fail
      refine bodyPost_ret (v := .tuple #[.slice none 0 0, .bool false]) ?_ rfl HF.out
      simp [results, Try.results27, go_sem, *]
    · have hm : t % 2 = 1 := by simp [goodT] at hg; omega
      have ht : t.tmod 2 = 1 := by rw [Int.tmod_eq_emod_of_nonneg (by omega)]; exact hm
      clear hg
      go_enter Try.func27, Try.ntmps27
      go_wp2_with fail
      refine bodyPost_ret (v := .tuple #[.slice none 0 0, .bool false]) ?_ rfl HF.out
      simp [results, Try.results27, go_sem, *]
set_option maxHeartbeats 800000 in
theorem specRounds_bad (t : Int) (hg : goodT t = false) (w : World) :
    Calls Try.prog 26 #[.int .i64 t] w (RoundsR [] false w) := by
  have HF : Hid (RoundsR [] false w (.returned (.tuple #[.slice none 0 0, .bool false])) w) := Lib.hid ⟨_, rfl, ⟨[], RnV.nil _ _⟩, Below.refl _ _⟩
  cases hr : inR t 2 8
  · have HR := Lib.hid hr
    clear hg hr
    go_enter Try.func26, Try.ntmps26
    go_wp2_with fail
    refine (l1In_any _ _ _ _).mono ?_; rintro e w' ⟨rfl, rfl⟩
    rw [HR.out]
    go_wp2_with fail
    refine bodyPost_ret (v := .tuple #[.slice none 0 0, .bool false]) ?_ rfl HF.out
    simp [results, Try.results26, go_sem, *]
  · have HR := Lib.hid hr
    have hb : 2 ≤ t ∧ t ≤ 8 := by simp [inR] at hr; omega
    have hm : t % 2 = 1 := by simp [goodT] at hg; omega
    have ht : t.tmod 2 = 1 := by rw [Int.tmod_eq_emod_of_nonneg (by omega)]; exact hm
    clear hg hr
    obtain ⟨hb1, hb2⟩ := hb
    go_enter Try.func26, Try.ntmps26
    go_wp2_with fail
    refine (l1In_any _ _ _ _).mono ?_; rintro e w' ⟨rfl, rfl⟩
    rw [HR.out]
    go_wp2_with fail
    refine bodyPost_ret (v := .tuple #[.slice none 0 0, .bool false]) ?_ rfl HF.out
    simp [results, Try.results26, go_sem, *]

set_option maxHeartbeats 6400000 in
theorem specRounds_good (T n h : Nat) (hT : T = n + 1) (hn1 : 1 ≤ n) (hn : n ≤ 7) (hh : T = h + h) (w : World) :
    Calls Try.prog 26 #[.int .i64 T] w (RoundsR (roundsT n h n) true w) := by
  obtain ⟨i0, hi, hz0, hz1, hz2⟩ := info_parts infoSlice2
  have HI := Lib.hid (And.intro hi (And.intro hz0 (And.intro hz1 hz2))); clear hi hz0 hz1 hz2
  have eT : (T : Int) - 1 = (n : Int) := by omega
  have eh : ((T : Int)).tdiv 2 = (h : Int) := by rw [Int.tdiv_eq_ediv_of_nonneg (by omega)]; omega
  have hh1 : 1 ≤ h := by omega
  have hhn : h ≤ n := by omega
  have hh4 : h ≤ 4 := by omega
  have hT8 : T ≤ 8 := by omega
  have hn1' : (1 : Int) ≤ (n : Int) := by omega
  have hT1 : (T : Int).tmod 2 = 0 := by rw [Int.tmod_eq_emod_of_nonneg (by omega)]; omega
  have hTm : (T : Int) % 2 = 0 := by omega
  have HR : Hid (inR (T : Int) 2 8 = true) := Lib.hid (by simp [inR]; omega)
  have H1 : Hid (RS w (roundsT n h 0) (.slice none 0 0) w) := Lib.hid (RS.nil w)
  clear hT hh
  go_enter Try.func26, Try.ntmps26
  go_wp2_with fail
  refine (l1In_any _ _ _ _).mono ?_; rintro e w' ⟨rfl, rfl⟩
  rw [HR.out]
  go_wp2_with fail
  go_loopw [5, 6] (fun v i wr => ∃ k : Nat, i = .int .i64 k ∧ k ≤ n ∧ Hid (RS w (roundsT n h k) v wr)) (fun _ i _ => n - (intOf i).toNat)
  case atStart => exact ⟨0, rfl, by omega, H1⟩
  case round =>
    clear H1
    obtain ⟨k, rfl, hk, hH⟩ := hrel
    by_cases hlt : k < n
    · have hlt2 : (k : Int) < (n : Int) := by omega
      by_cases hp : k % 2 = 1
      · have t1 : ((k : Int)).tmod 2 = 1 := by rw [Int.tmod_eq_emod_of_nonneg (by omega)]; omega
        have t2 : ((k : Int)) % 2 = 1 := by omega
        have HF : Hid (firstP n k = ((k : Int), (n : Int))) := Lib.hid (by simp [firstP, hp])
        clear hp
        obtain ⟨WB, hWB⟩ : ∃ WB, WB = wr := ⟨wr, rfl⟩
        subst hWB
        go_wp2_with fail
        go_loopw [8, 9] (fun v i wi => ∃ j : Nat, i = .int .i64 j ∧ 1 ≤ j ∧ j ≤ h ∧ Hid (PS WB (roundT n k j) v wi)) (fun _ i _ => h - (intOf i).toNat)
        case atStart => exact ⟨1, rfl, by omega, by omega, by
            refine Lib.hid ?_
            rw [roundT_one, HF.out]
            refine PS.one (g := WB.heap.size + 1) (g2 := WB.heap.size + 1 + 1) (by (repeat (first | exact Below.refl _ _ | exact ‹Below _ _ _› | refine Below.drew ?_ | refine Below.alloc ?_ (by first | omega | (simp; done) | (simp; omega)) _ | refine Below.setCell ?_ (by first | omega | (simp; done) | (simp; omega)) _ | refine Below.trans ?_ (Below.mono ‹Below _ _ _› (by first | omega | (simp; done) | (simp; omega)))))) _ _ ?_ (by omega) ?_ (by omega)
            · rw [Below.heap_alloc _ _ _ (by simp)]
              have := heap_alloc_last (WB.alloc (Obj.cells #[Value.int IntKind.i64 n, Value.int IntKind.i64 k] 3)) (Obj.cells #[Value.int IntKind.i64 k, Value.int IntKind.i64 n] 3)
              simpa using this
            · have := heap_alloc_last ((WB.alloc (Obj.cells #[Value.int IntKind.i64 n, Value.int IntKind.i64 k] 3)).alloc (Obj.cells #[Value.int IntKind.i64 k, Value.int IntKind.i64 n] 3)) (Obj.cells #[Value.slice (some { block := WB.heap.size + 1, off := 0 }) 2 2] 25)
              simpa using this⟩
        case round =>
          obtain ⟨j, rfl, hj1, hj, hJ⟩ := hrel
          by_cases hlj : j < h
          · have hlj2 : (j : Int) < (h : Int) := by omega
            have hnA : nthA n k j < n := Nat.mod_lt _ (by omega)
            have hnB : nthB n k j < n := Nat.mod_lt _ (by omega)
            have q0 : ((k : Int) + (j : Int)).tmod (n : Int) = ((nthA n k j : Nat) : Int) := by rw [Int.tmod_eq_emod_of_nonneg (by omega)]; unfold nthA; push_cast; rfl
            have q1 : ((k : Int) - (j : Int) + (n : Int)).tmod (n : Int) = ((nthB n k j : Nat) : Int) := by
              rw [Int.tmod_eq_emod_of_nonneg (by omega)]; unfold nthB
              rw [show (k : Int) - (j : Int) + (n : Int) = ((k + n - j : Nat) : Int) by omega]; rfl
            have w1 : IntKind.i64.wrap ((k : Int) + (j : Int)) = (k : Int) + (j : Int) := by rw [IntKind.wrap_i64]; omega
            have w2 : IntKind.i64.wrap ((k : Int) - (j : Int)) = (k : Int) - (j : Int) := by rw [IntKind.wrap_i64]; omega
            have w3 : IntKind.i64.wrap ((k : Int) - (j : Int) + (n : Int)) = (k : Int) - (j : Int) + (n : Int) := by rw [IntKind.wrap_i64]; omega
            have w4 : IntKind.i64.wrap ((nthA n k j : Nat) : Int) = ((nthA n k j : Nat) : Int) := by rw [IntKind.wrap_i64]; omega
            have w5 : IntKind.i64.wrap ((nthB n k j : Nat) : Int) = ((nthB n k j : Nat) : Int) := by rw [IntKind.wrap_i64]; omega
            have e8 : ¬ (n : Int) = 0 := by omega
            have e9 : ¬ n = 0 := by omega
            have hst := roundT_succ n k j hj1
            have hlen := roundT_len n k j hj1
            have HST := Lib.hid hst; have HLN := Lib.hid hlen; clear hst hlen
            have KD := Lib.hid (show PS WB (roundT n k j) _ wr.drew from ⟨hJ.out.1.keep (Below.drew (Below.refl _ _)), hJ.out.2.drew⟩)
            generalize nthA n k j = A at *
            generalize nthB n k j = B at *
            clear hJ
            go_wp2_with fail
            refine wp_region_held_drew (S := fun _ => True) (by kernel_rfl) trivial (fun hHeld => ?_)
            (refine wpAnyH_take (i := 0) (v := ?_) rfl (by kernel_rfl) (by kernel_rfl) (by kernel_rfl) (fun _ _ _ h => h) (Or.inl ⟨by kernel_rfl, ?_⟩) (by assumption) ?_; rotate_left; focus (intro w hSw; (try dsimp only at hSw); go_simp; try with_reducible rfl); (try simp only [List.getElem_toArray, List.getElem_cons_succ, List.getElem_cons_zero, Act.put, List.setIfInBounds_toArray, List.set_cons_zero, List.set_cons_succ])); (refine wpAnyH_take (i := 1) (v := ?_) rfl (by kernel_rfl) (by kernel_rfl) (by kernel_rfl) (fun _ _ _ h => h) (Or.inl ⟨by kernel_rfl, ?_⟩) (by assumption) ?_; rotate_left; focus (intro w hSw; (try dsimp only at hSw); go_simp; try with_reducible rfl); (try simp only [List.getElem_toArray, List.getElem_cons_succ, List.getElem_cons_zero, Act.put, List.setIfInBounds_toArray, List.set_cons_zero, List.set_cons_succ])); (refine wpAnyH_take (i := 2) (v := ?_) rfl (by kernel_rfl) (by kernel_rfl) (by kernel_rfl) (fun _ _ _ h => h) (Or.inl ⟨by kernel_rfl, ?_⟩) (by assumption) ?_; rotate_left; focus (intro w hSw; (try dsimp only at hSw); go_simp; try with_reducible rfl); (try simp only [List.getElem_toArray, List.getElem_cons_succ, List.getElem_cons_zero, Act.put, List.setIfInBounds_toArray, List.set_cons_zero, List.set_cons_succ])); (refine wpAnyH_take (i := 3) (v := ?_) rfl (by kernel_rfl) (by kernel_rfl) (by kernel_rfl) (fun _ _ _ h => h) (Or.inl ⟨by kernel_rfl, ?_⟩) (by assumption) ?_; rotate_left; focus (intro w hSw; (try dsimp only at hSw); go_simp; try with_reducible rfl); (try simp only [List.getElem_toArray, List.getElem_cons_succ, List.getElem_cons_zero, Act.put, List.setIfInBounds_toArray, List.set_cons_zero, List.set_cons_succ])); (refine wpAnyH_take (i := 4) (v := ?_) rfl (by kernel_rfl) (by kernel_rfl) (by kernel_rfl) (fun _ _ _ h => h) (Or.inl ⟨by kernel_rfl, ?_⟩) (by assumption) ?_; rotate_left; focus (intro w hSw; (try dsimp only at hSw); go_simp; try with_reducible rfl); (try simp only [List.getElem_toArray, List.getElem_cons_succ, List.getElem_cons_zero, Act.put, List.setIfInBounds_toArray, List.set_cons_zero, List.set_cons_succ])); (refine wpAnyH_take (i := 5) (v := ?_) rfl (by kernel_rfl) (by kernel_rfl) (by kernel_rfl) (fun _ _ _ h => h) (Or.inl ⟨by kernel_rfl, ?_⟩) (by assumption) ?_; rotate_left; focus (intro w hSw; (try dsimp only at hSw); go_simp; try with_reducible rfl); (try simp only [List.getElem_toArray, List.getElem_cons_succ, List.getElem_cons_zero, Act.put, List.setIfInBounds_toArray, List.set_cons_zero, List.set_cons_succ])); (refine wpAnyH_take (i := 6) (v := ?_) rfl (by kernel_rfl) (by kernel_rfl) (by kernel_rfl) (fun _ _ _ h => h) (Or.inl ⟨by kernel_rfl, ?_⟩) (by assumption) ?_; rotate_left; focus (intro w hSw; (try dsimp only at hSw); go_simp; try with_reducible rfl); (try simp only [List.getElem_toArray, List.getElem_cons_succ, List.getElem_cons_zero, Act.put, List.setIfInBounds_toArray, List.set_cons_zero, List.set_cons_succ])); (refine wpAnyH_take (i := 7) (v := ?_) rfl (by kernel_rfl) (by kernel_rfl) (by kernel_rfl) (fun _ _ _ h => h) (Or.inl ⟨by kernel_rfl, ?_⟩) (by assumption) ?_; rotate_left; focus (intro w hSw; (try dsimp only at hSw); go_simp; try with_reducible rfl); (try simp only [List.getElem_toArray, List.getElem_cons_succ, List.getElem_cons_zero, Act.put, List.setIfInBounds_toArray, List.set_cons_zero, List.set_cons_succ])); (refine wpAnyH_take (i := 8) (v := ?_) rfl (by kernel_rfl) (by kernel_rfl) (by kernel_rfl) (fun _ _ _ h => h) (Or.inl ⟨by kernel_rfl, ?_⟩) (by assumption) ?_; rotate_left; focus (intro w hSw; (try dsimp only at hSw); go_simp; try with_reducible rfl); (try simp only [List.getElem_toArray, List.getElem_cons_succ, List.getElem_cons_zero, Act.put, List.setIfInBounds_toArray, List.set_cons_zero, List.set_cons_succ])); (refine wpAnyH_take (i := 9) (v := ?_) rfl (by kernel_rfl) (by kernel_rfl) (by kernel_rfl) (fun _ _ _ h => h) (Or.inl ⟨by kernel_rfl, ?_⟩) (by assumption) ?_; rotate_left; focus (intro w hSw; (try dsimp only at hSw); go_simp; try with_reducible rfl); (try simp only [List.getElem_toArray, List.getElem_cons_succ, List.getElem_cons_zero, Act.put, List.setIfInBounds_toArray, List.set_cons_zero, List.set_cons_succ])); (refine wpAnyH_take (i := 10) (v := ?_) rfl (by kernel_rfl) (by kernel_rfl) (by kernel_rfl) (fun _ _ _ h => h) (Or.inl ⟨by kernel_rfl, ?_⟩) (by assumption) ?_; rotate_left; focus (intro w hSw; (try dsimp only at hSw); go_simp; try with_reducible rfl); (try simp only [List.getElem_toArray, List.getElem_cons_succ, List.getElem_cons_zero, Act.put, List.setIfInBounds_toArray, List.set_cons_zero, List.set_cons_succ])); (refine wpAnyH_take (i := 11) (v := ?_) rfl (by kernel_rfl) (by kernel_rfl) (by kernel_rfl) (fun _ _ _ h => h) (Or.inl ⟨by kernel_rfl, ?_⟩) (by assumption) ?_; rotate_left; focus (intro w hSw; (try dsimp only at hSw); go_simp; try with_reducible rfl); (try simp only [List.getElem_toArray, List.getElem_cons_succ, List.getElem_cons_zero, Act.put, List.setIfInBounds_toArray, List.set_cons_zero, List.set_cons_succ])); (refine wpAnyH_take (i := 12) (v := ?_) rfl (by kernel_rfl) (by kernel_rfl) (by kernel_rfl) (fun _ _ _ h => h) (Or.inl ⟨by kernel_rfl, ?_⟩) (by assumption) ?_; rotate_left; focus (intro w hSw; (try dsimp only at hSw); go_simp; try with_reducible rfl); (try simp only [List.getElem_toArray, List.getElem_cons_succ, List.getElem_cons_zero, Act.put, List.setIfInBounds_toArray, List.set_cons_zero, List.set_cons_succ]))
            refine wpAnyH_ready (rs := [13]) (by kernel_rfl) (by simp) ?_; refine AllReadyH.cons rfl (fun K hK => ?_) AllReadyH.nil
            go_simp
            first
              | refine hK.out _ _ trivial (fun hHeld => ?_)
              | refine hK _ _ trivial (fun hHeld => ?_)
            clear hK K
            (try simp only [List.getElem_toArray, List.getElem_cons_succ, List.getElem_cons_zero, Act.put, List.setIfInBounds_toArray, List.set_cons_zero, List.set_cons_succ])
            refine wpAnyH_ready (rs := [14]) (by kernel_rfl) (by simp) ?_; refine AllReadyH.cons rfl (fun K hK => ?_) AllReadyH.nil
            go_simp
            first
              | refine hK.out _ _ trivial (fun hHeld => ?_)
              | refine hK _ _ trivial (fun hHeld => ?_)
            clear hK K
            (try simp only [List.getElem_toArray, List.getElem_cons_succ, List.getElem_cons_zero, Act.put, List.setIfInBounds_toArray, List.set_cons_zero, List.set_cons_succ])
            refine wpAnyH_ready (rs := [15]) (by kernel_rfl) (by simp) ?_; refine AllReadyH.cons rfl (fun K hK => ?_) AllReadyH.nil
            refine wp_append_ps (w0 := WB) (w2 := wr.drew) _ _ rfl u8 (roundT n k j) (A : Int) (B : Int) (by rfl) (by rfl) KD.out (by rw [HLN.out]; omega) ?_
            intro v5 w5 h5
            have H7 := Lib.hid h5; clear h5
            first
              | refine hK.out _ _ trivial (fun hHeld => ?_)
              | refine hK _ _ trivial (fun hHeld => ?_)
            clear hK K
            (try simp only [List.getElem_toArray, List.getElem_cons_succ, List.getElem_cons_zero, Act.put, List.setIfInBounds_toArray, List.set_cons_zero, List.set_cons_succ])
            (refine wpAnyH_take (i := 16) (v := ?_) rfl (by kernel_rfl) (by kernel_rfl) (by kernel_rfl) (fun _ _ _ h => h) (Or.inl ⟨by kernel_rfl, ?_⟩) (by assumption) ?_; rotate_left; focus (intro w hSw; (try dsimp only at hSw); go_simp; try with_reducible rfl); (try simp only [List.getElem_toArray, List.getElem_cons_succ, List.getElem_cons_zero, Act.put, List.setIfInBounds_toArray, List.set_cons_zero, List.set_cons_succ]))
            refine wpAnyH_done (by kernel_rfl) ?_ _
            (try simp only [List.getElem_toArray, List.getElem_cons_succ, List.getElem_cons_zero, Act.put, List.setIfInBounds_toArray, List.set_cons_zero, List.set_cons_succ])
            go_wp2_with fail
            go_roundw
            case rel => exact ⟨j + 1, by go_num, by omega, by omega, by rw [HST.out]; exact H7⟩
            case measure => simp [intOf]; omega
          · obtain rfl : j = h := by omega
            have HLR := Lib.hid (roundT_len n k j (by omega))
            have hsucc := roundsT_succ n j k
            have HLN := Lib.hid (roundsT_len n j k)
            have fc1 := hJ.out.1.c
            have b1 := hJ.out.2
            have HST := Lib.hid hsucc; clear hsucc
            generalize roundT n k j = R at *
            have HLD : Hid ((rows2 R).length = j) := Lib.hid (by rw [rows2_len]; exact HLR.out)
            generalize rows2 R = D at *
            obtain ⟨a1, c1, rfl⟩ := fc1.slice
            have HF2 := Lib.hid (And.intro fc1 b1); clear fc1 b1 hJ
            obtain ⟨vs, hvs⟩ := hH.out.1
            have HVS := Lib.hid hvs; clear hvs
            have hj0 : 0 < j := by omega
            generalize roundsT n j k = E at *
            go_wp2_with (at_builtin; refine wpList_append_own_at _ rfl _ _ 47 rfl w.heap.size 88 i0 (.slice none 0 0) 1 24 Try.underlying47 HI.out.1 HI.out.2.1 HI.out.2.2.1 HI.out.2.2.2 rfl (by decide) _ _ _ rfl ((HVS.out.keep HF2.out.2).1.alloc _) ⟨wr.heap.size, 0, none⟩ 1 1 [.slice a1 D.length c1] rfl rfl (cell_one_new wr _ _) ?_ ?_ ?_ ?_ ?_)
            · first | rfl | (intro u hu; simp at hu; subst hu; rfl)
            · have := HLN.out; unfold maxLen; omega
            · have := HLN.out; omega
            · have := hH.out.2.size; have := HF2.out.2.size; first | omega | (simp; omega)
            intro v' w7 hown7 hgrow _ _
            have H7 := Lib.hid (RS.more hH.out.2 HVS.out HF2.out.2 HF2.out.1 (by rw [HLD.out]; exact hj0) hown7 hgrow)
            clear hown7 hgrow HVS HF2 hH HLN
            go_wp2_with fail
            go_roundw
            case rel => exact ⟨k + 1, by go_num, by omega, by rw [HST.out]; exact H7⟩
            case measure => simp [intOf]; omega
      · have t1 : ((k : Int)).tmod 2 = 0 := by rw [Int.tmod_eq_emod_of_nonneg (by omega)]; omega
        have t2 : ((k : Int)) % 2 = 0 := by omega
        have HF : Hid (firstP n k = ((n : Int), (k : Int))) := Lib.hid (by simp [firstP, hp])
        clear hp
        obtain ⟨WB, hWB⟩ : ∃ WB, WB = wr := ⟨wr, rfl⟩
        subst hWB
        go_wp2_with fail
        go_loopw [8, 9] (fun v i wi => ∃ j : Nat, i = .int .i64 j ∧ 1 ≤ j ∧ j ≤ h ∧ Hid (PS WB (roundT n k j) v wi)) (fun _ i _ => h - (intOf i).toNat)
        case atStart => exact ⟨1, rfl, by omega, by omega, by
            refine Lib.hid ?_
            rw [roundT_one, HF.out]
            refine PS.one (g := WB.heap.size) (g2 := WB.heap.size + 1) (by (repeat (first | exact Below.refl _ _ | exact ‹Below _ _ _› | refine Below.drew ?_ | refine Below.alloc ?_ (by first | omega | (simp; done) | (simp; omega)) _ | refine Below.setCell ?_ (by first | omega | (simp; done) | (simp; omega)) _ | refine Below.trans ?_ (Below.mono ‹Below _ _ _› (by first | omega | (simp; done) | (simp; omega)))))) _ _ ?_ (by omega) ?_ (by omega)
            · rw [Below.heap_alloc _ _ _ (by simp)]
              exact heap_alloc_last WB _
            · have := heap_alloc_last (WB.alloc (Obj.cells #[Value.int IntKind.i64 n, Value.int IntKind.i64 k] 3)) (Obj.cells #[Value.slice (some { block := WB.heap.size, off := 0 }) 2 2] 25)
              simpa using this⟩
        case round =>
          obtain ⟨j, rfl, hj1, hj, hJ⟩ := hrel
          by_cases hlj : j < h
          · have hlj2 : (j : Int) < (h : Int) := by omega
            have hnA : nthA n k j < n := Nat.mod_lt _ (by omega)
            have hnB : nthB n k j < n := Nat.mod_lt _ (by omega)
            have q0 : ((k : Int) + (j : Int)).tmod (n : Int) = ((nthA n k j : Nat) : Int) := by rw [Int.tmod_eq_emod_of_nonneg (by omega)]; unfold nthA; push_cast; rfl
            have q1 : ((k : Int) - (j : Int) + (n : Int)).tmod (n : Int) = ((nthB n k j : Nat) : Int) := by
              rw [Int.tmod_eq_emod_of_nonneg (by omega)]; unfold nthB
              rw [show (k : Int) - (j : Int) + (n : Int) = ((k + n - j : Nat) : Int) by omega]; rfl
            have w1 : IntKind.i64.wrap ((k : Int) + (j : Int)) = (k : Int) + (j : Int) := by rw [IntKind.wrap_i64]; omega
            have w2 : IntKind.i64.wrap ((k : Int) - (j : Int)) = (k : Int) - (j : Int) := by rw [IntKind.wrap_i64]; omega
            have w3 : IntKind.i64.wrap ((k : Int) - (j : Int) + (n : Int)) = (k : Int) - (j : Int) + (n : Int) := by rw [IntKind.wrap_i64]; omega
            have w4 : IntKind.i64.wrap ((nthA n k j : Nat) : Int) = ((nthA n k j : Nat) : Int) := by rw [IntKind.wrap_i64]; omega
            have w5 : IntKind.i64.wrap ((nthB n k j : Nat) : Int) = ((nthB n k j : Nat) : Int) := by rw [IntKind.wrap_i64]; omega
            have e8 : ¬ (n : Int) = 0 := by omega
            have e9 : ¬ n = 0 := by omega
            have hst := roundT_succ n k j hj1
            have hlen := roundT_len n k j hj1
            have HST := Lib.hid hst; have HLN := Lib.hid hlen; clear hst hlen
            have KD := Lib.hid (show PS WB (roundT n k j) _ wr.drew from ⟨hJ.out.1.keep (Below.drew (Below.refl _ _)), hJ.out.2.drew⟩)
            generalize nthA n k j = A at *
            generalize nthB n k j = B at *
            clear hJ
            go_wp2_with fail
            refine wp_region_held_drew (S := fun _ => True) (by kernel_rfl) trivial (fun hHeld => ?_)
            (refine wpAnyH_take (i := 0) (v := ?_) rfl (by kernel_rfl) (by kernel_rfl) (by kernel_rfl) (fun _ _ _ h => h) (Or.inl ⟨by kernel_rfl, ?_⟩) (by assumption) ?_; rotate_left; focus (intro w hSw; (try dsimp only at hSw); go_simp; try with_reducible rfl); (try simp only [List.getElem_toArray, List.getElem_cons_succ, List.getElem_cons_zero, Act.put, List.setIfInBounds_toArray, List.set_cons_zero, List.set_cons_succ])); (refine wpAnyH_take (i := 1) (v := ?_) rfl (by kernel_rfl) (by kernel_rfl) (by kernel_rfl) (fun _ _ _ h => h) (Or.inl ⟨by kernel_rfl, ?_⟩) (by assumption) ?_; rotate_left; focus (intro w hSw; (try dsimp only at hSw); go_simp; try with_reducible rfl); (try simp only [List.getElem_toArray, List.getElem_cons_succ, List.getElem_cons_zero, Act.put, List.setIfInBounds_toArray, List.set_cons_zero, List.set_cons_succ])); (refine wpAnyH_take (i := 2) (v := ?_) rfl (by kernel_rfl) (by kernel_rfl) (by kernel_rfl) (fun _ _ _ h => h) (Or.inl ⟨by kernel_rfl, ?_⟩) (by assumption) ?_; rotate_left; focus (intro w hSw; (try dsimp only at hSw); go_simp; try with_reducible rfl); (try simp only [List.getElem_toArray, List.getElem_cons_succ, List.getElem_cons_zero, Act.put, List.setIfInBounds_toArray, List.set_cons_zero, List.set_cons_succ])); (refine wpAnyH_take (i := 3) (v := ?_) rfl (by kernel_rfl) (by kernel_rfl) (by kernel_rfl) (fun _ _ _ h => h) (Or.inl ⟨by kernel_rfl, ?_⟩) (by assumption) ?_; rotate_left; focus (intro w hSw; (try dsimp only at hSw); go_simp; try with_reducible rfl); (try simp only [List.getElem_toArray, List.getElem_cons_succ, List.getElem_cons_zero, Act.put, List.setIfInBounds_toArray, List.set_cons_zero, List.set_cons_succ])); (refine wpAnyH_take (i := 4) (v := ?_) rfl (by kernel_rfl) (by kernel_rfl) (by kernel_rfl) (fun _ _ _ h => h) (Or.inl ⟨by kernel_rfl, ?_⟩) (by assumption) ?_; rotate_left; focus (intro w hSw; (try dsimp only at hSw); go_simp; try with_reducible rfl); (try simp only [List.getElem_toArray, List.getElem_cons_succ, List.getElem_cons_zero, Act.put, List.setIfInBounds_toArray, List.set_cons_zero, List.set_cons_succ])); (refine wpAnyH_take (i := 5) (v := ?_) rfl (by kernel_rfl) (by kernel_rfl) (by kernel_rfl) (fun _ _ _ h => h) (Or.inl ⟨by kernel_rfl, ?_⟩) (by assumption) ?_; rotate_left; focus (intro w hSw; (try dsimp only at hSw); go_simp; try with_reducible rfl); (try simp only [List.getElem_toArray, List.getElem_cons_succ, List.getElem_cons_zero, Act.put, List.setIfInBounds_toArray, List.set_cons_zero, List.set_cons_succ])); (refine wpAnyH_take (i := 6) (v := ?_) rfl (by kernel_rfl) (by kernel_rfl) (by kernel_rfl) (fun _ _ _ h => h) (Or.inl ⟨by kernel_rfl, ?_⟩) (by assumption) ?_; rotate_left; focus (intro w hSw; (try dsimp only at hSw); go_simp; try with_reducible rfl); (try simp only [List.getElem_toArray, List.getElem_cons_succ, List.getElem_cons_zero, Act.put, List.setIfInBounds_toArray, List.set_cons_zero, List.set_cons_succ])); (refine wpAnyH_take (i := 7) (v := ?_) rfl (by kernel_rfl) (by kernel_rfl) (by kernel_rfl) (fun _ _ _ h => h) (Or.inl ⟨by kernel_rfl, ?_⟩) (by assumption) ?_; rotate_left; focus (intro w hSw; (try dsimp only at hSw); go_simp; try with_reducible rfl); (try simp only [List.getElem_toArray, List.getElem_cons_succ, List.getElem_cons_zero, Act.put, List.setIfInBounds_toArray, List.set_cons_zero, List.set_cons_succ])); (refine wpAnyH_take (i := 8) (v := ?_) rfl (by kernel_rfl) (by kernel_rfl) (by kernel_rfl) (fun _ _ _ h => h) (Or.inl ⟨by kernel_rfl, ?_⟩) (by assumption) ?_; rotate_left; focus (intro w hSw; (try dsimp only at hSw); go_simp; try with_reducible rfl); (try simp only [List.getElem_toArray, List.getElem_cons_succ, List.getElem_cons_zero, Act.put, List.setIfInBounds_toArray, List.set_cons_zero, List.set_cons_succ])); (refine wpAnyH_take (i := 9) (v := ?_) rfl (by kernel_rfl) (by kernel_rfl) (by kernel_rfl) (fun _ _ _ h => h) (Or.inl ⟨by kernel_rfl, ?_⟩) (by assumption) ?_; rotate_left; focus (intro w hSw; (try dsimp only at hSw); go_simp; try with_reducible rfl); (try simp only [List.getElem_toArray, List.getElem_cons_succ, List.getElem_cons_zero, Act.put, List.setIfInBounds_toArray, List.set_cons_zero, List.set_cons_succ])); (refine wpAnyH_take (i := 10) (v := ?_) rfl (by kernel_rfl) (by kernel_rfl) (by kernel_rfl) (fun _ _ _ h => h) (Or.inl ⟨by kernel_rfl, ?_⟩) (by assumption) ?_; rotate_left; focus (intro w hSw; (try dsimp only at hSw); go_simp; try with_reducible rfl); (try simp only [List.getElem_toArray, List.getElem_cons_succ, List.getElem_cons_zero, Act.put, List.setIfInBounds_toArray, List.set_cons_zero, List.set_cons_succ])); (refine wpAnyH_take (i := 11) (v := ?_) rfl (by kernel_rfl) (by kernel_rfl) (by kernel_rfl) (fun _ _ _ h => h) (Or.inl ⟨by kernel_rfl, ?_⟩) (by assumption) ?_; rotate_left; focus (intro w hSw; (try dsimp only at hSw); go_simp; try with_reducible rfl); (try simp only [List.getElem_toArray, List.getElem_cons_succ, List.getElem_cons_zero, Act.put, List.setIfInBounds_toArray, List.set_cons_zero, List.set_cons_succ])); (refine wpAnyH_take (i := 12) (v := ?_) rfl (by kernel_rfl) (by kernel_rfl) (by kernel_rfl) (fun _ _ _ h => h) (Or.inl ⟨by kernel_rfl, ?_⟩) (by assumption) ?_; rotate_left; focus (intro w hSw; (try dsimp only at hSw); go_simp; try with_reducible rfl); (try simp only [List.getElem_toArray, List.getElem_cons_succ, List.getElem_cons_zero, Act.put, List.setIfInBounds_toArray, List.set_cons_zero, List.set_cons_succ]))
            refine wpAnyH_ready (rs := [13]) (by kernel_rfl) (by simp) ?_; refine AllReadyH.cons rfl (fun K hK => ?_) AllReadyH.nil
            go_simp
            first
              | refine hK.out _ _ trivial (fun hHeld => ?_)
              | refine hK _ _ trivial (fun hHeld => ?_)
            clear hK K
            (try simp only [List.getElem_toArray, List.getElem_cons_succ, List.getElem_cons_zero, Act.put, List.setIfInBounds_toArray, List.set_cons_zero, List.set_cons_succ])
            refine wpAnyH_ready (rs := [14]) (by kernel_rfl) (by simp) ?_; refine AllReadyH.cons rfl (fun K hK => ?_) AllReadyH.nil
            go_simp
            first
              | refine hK.out _ _ trivial (fun hHeld => ?_)
              | refine hK _ _ trivial (fun hHeld => ?_)
            clear hK K
            (try simp only [List.getElem_toArray, List.getElem_cons_succ, List.getElem_cons_zero, Act.put, List.setIfInBounds_toArray, List.set_cons_zero, List.set_cons_succ])
            refine wpAnyH_ready (rs := [15]) (by kernel_rfl) (by simp) ?_; refine AllReadyH.cons rfl (fun K hK => ?_) AllReadyH.nil
            refine wp_append_ps (w0 := WB) (w2 := wr.drew) _ _ rfl u8 (roundT n k j) (A : Int) (B : Int) (by rfl) (by rfl) KD.out (by rw [HLN.out]; omega) ?_
            intro v5 w5 h5
            have H7 := Lib.hid h5; clear h5
            first
              | refine hK.out _ _ trivial (fun hHeld => ?_)
              | refine hK _ _ trivial (fun hHeld => ?_)
            clear hK K
            (try simp only [List.getElem_toArray, List.getElem_cons_succ, List.getElem_cons_zero, Act.put, List.setIfInBounds_toArray, List.set_cons_zero, List.set_cons_succ])
            (refine wpAnyH_take (i := 16) (v := ?_) rfl (by kernel_rfl) (by kernel_rfl) (by kernel_rfl) (fun _ _ _ h => h) (Or.inl ⟨by kernel_rfl, ?_⟩) (by assumption) ?_; rotate_left; focus (intro w hSw; (try dsimp only at hSw); go_simp; try with_reducible rfl); (try simp only [List.getElem_toArray, List.getElem_cons_succ, List.getElem_cons_zero, Act.put, List.setIfInBounds_toArray, List.set_cons_zero, List.set_cons_succ]))
            refine wpAnyH_done (by kernel_rfl) ?_ _
            (try simp only [List.getElem_toArray, List.getElem_cons_succ, List.getElem_cons_zero, Act.put, List.setIfInBounds_toArray, List.set_cons_zero, List.set_cons_succ])
            go_wp2_with fail
            go_roundw
            case rel => exact ⟨j + 1, by go_num, by omega, by omega, by rw [HST.out]; exact H7⟩
            case measure => simp [intOf]; omega
          · obtain rfl : j = h := by omega
            have HLR := Lib.hid (roundT_len n k j (by omega))
            have hsucc := roundsT_succ n j k
            have HLN := Lib.hid (roundsT_len n j k)
            have fc1 := hJ.out.1.c
            have b1 := hJ.out.2
            have HST := Lib.hid hsucc; clear hsucc
            generalize roundT n k j = R at *
            have HLD : Hid ((rows2 R).length = j) := Lib.hid (by rw [rows2_len]; exact HLR.out)
            generalize rows2 R = D at *
            obtain ⟨a1, c1, rfl⟩ := fc1.slice
            have HF2 := Lib.hid (And.intro fc1 b1); clear fc1 b1 hJ
            obtain ⟨vs, hvs⟩ := hH.out.1
            have HVS := Lib.hid hvs; clear hvs
            have hj0 : 0 < j := by omega
            generalize roundsT n j k = E at *
            go_wp2_with (at_builtin; refine wpList_append_own_at _ rfl _ _ 47 rfl w.heap.size 88 i0 (.slice none 0 0) 1 24 Try.underlying47 HI.out.1 HI.out.2.1 HI.out.2.2.1 HI.out.2.2.2 rfl (by decide) _ _ _ rfl ((HVS.out.keep HF2.out.2).1.alloc _) ⟨wr.heap.size, 0, none⟩ 1 1 [.slice a1 D.length c1] rfl rfl (cell_one_new wr _ _) ?_ ?_ ?_ ?_ ?_)
            · first | rfl | (intro u hu; simp at hu; subst hu; rfl)
            · have := HLN.out; unfold maxLen; omega
            · have := HLN.out; omega
            · have := hH.out.2.size; have := HF2.out.2.size; first | omega | (simp; omega)
            intro v' w7 hown7 hgrow _ _
            have H7 := Lib.hid (RS.more hH.out.2 HVS.out HF2.out.2 HF2.out.1 (by rw [HLD.out]; exact hj0) hown7 hgrow)
            clear hown7 hgrow HVS HF2 hH HLN
            go_wp2_with fail
            go_roundw
            case rel => exact ⟨k + 1, by go_num, by omega, by rw [HST.out]; exact H7⟩
            case measure => simp [intOf]; omega
    · obtain rfl : k = n := by omega
      go_wp2_with fail
      refine bodyPost_ret (v := .tuple #[u5, .bool true]) ?_ rfl ⟨_, rfl, hH.out.1, hH.out.2⟩
      simp [results, Try.results26, go_sem, *]
end Go.Proofs.Ythbkclgdoopbpaa
