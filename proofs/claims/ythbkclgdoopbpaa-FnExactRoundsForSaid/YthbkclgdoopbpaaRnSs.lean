/-
  Rounds: rows of rows of rows of ints: eqIntSSS, markIntSSS, heldIntSSS.
-/
import Derived.Test.YthbkclgdoopbpaaTsRow
namespace Go.Proofs.Ythbkclgdoopbpaa
open Go.RowKit
set_option linter.unusedVariables false
set_option linter.unusedSimpArgs false

/-- Rounds: the heads of the rounds, the heads of their rows, the rows. -/
structure R3 (w : World) (a : Option Addr) (vs : List Value) (UU : Nat → List Value) (E : List (List (List Int))) : Prop where
  len : vs.length = E.length
  head : ∀ i, i < E.length → ∃ c, vs[i]? = some (.slice (some ⟨blk vs i, 0, none⟩) (E.getD i []).length c)
  outer : Reads w a vs
  heads : ∀ i, i < E.length → Heads (UU i) (E.getD i [])
  rows : ∀ i, i < E.length → Reads w (some ⟨blk vs i, 0, none⟩) (UU i)
  nums : ∀ i, i < E.length → RowsAt w (UU i) (E.getD i [])
def SmallE (E : List (List (List Int))) : Prop := E.length ≤ 50 ∧ ∀ i, i < E.length → SmallD (E.getD i [])
theorem R3.old {w w' : World} {a : Option Addr} {vs : List Value} {UU : Nat → List Value} {E : List (List (List Int))} (h : R3 w a vs UU E) (hb : Below w.heap.size w w') : R3 w' a vs UU E :=
  ⟨h.len, h.head, h.outer.old hb, h.heads, fun i hi => (h.rows i hi).old hb, fun i hi => (h.nums i hi).old hb⟩
theorem R3.cell {w : World} {a : Option Addr} {vs : List Value} {UU : Nat → List Value} {E : List (List (List Int))} (h : R3 w a vs UU E) {k : Nat} (hk : k < E.length) :
    ∃ b off c, a = some ⟨b, off, none⟩ ∧ b < w.heap.size ∧ w.cell? ⟨b, off + k, none⟩ = some (.slice (some ⟨blk vs k, 0, none⟩) (E.getD k []).length c) := by
  obtain ⟨c, hc⟩ := h.head k hk
  have hl := h.len
  rcases h.outer with h | ⟨b, off, rfl, hlt, hcs⟩
  · subst h; simp at hl; omega
  · exact ⟨b, off, c, rfl, hlt, by rw [hcs k (by omega), hc]⟩

set_option maxHeartbeats 1600000 in
theorem eqIntSSS_same (E : List (List (List Int))) (hE : SmallE E) (vs us : List Value) (VV UU : Nat → List Value) (a a' : Option Addr) (c c' : Nat) (w : World) (h1 : R3 w a vs VV E) (h2 : R3 w a' us UU E) :
    Calls Try.prog 28 #[.slice a E.length c, .slice a' E.length c'] w fun e w' => e = .returned (.bool true) ∧ Below w.heap.size w w' := by
  have hbn : (((E.length : Nat) : Int) != ((E.length : Nat) : Int)) = false := by simp
  have H := Lib.hid (And.intro h1 (And.intro h2 hE.2)); clear h1 h2
  have hD1 := hE.1; clear hE
  go_enter Try.func28, Try.ntmps28
  go_wp2_with fail
  go_loopw [5] (fun i wr => ∃ k : Nat, i = .int .i64 k ∧ k ≤ E.length ∧ Below w.heap.size w wr) (fun i _ => E.length - (intOf i).toNat)
  case atStart => exact ⟨0, rfl, Nat.zero_le _, Below.refl _ _⟩
  case round =>
    obtain ⟨k, rfl, hk, hb⟩ := hrel
    by_cases hlt : k < E.length
    · have hkl : (k : Int) < (E.length : Int) := by omega
      obtain ⟨x, ox, cx, rfl, lx, c1⟩ := (H.out.1.old hb).cell hlt
      obtain ⟨y, oy, cy, rfl, ly, c2⟩ := (H.out.2.1.old hb).cell hlt
      have hcall := fun (w' : World) (hb' : Below w.heap.size w w') => eqIntSS_same (E.getD k []) (H.out.2.2 k hlt) (VV k) (UU k) (some ⟨blk vs k, 0, none⟩) (some ⟨blk us k, 0, none⟩) cx cy w' (H.out.1.heads k hlt) (H.out.2.1.heads k hlt) ((H.out.1.rows k hlt).old hb') ((H.out.2.1.rows k hlt).old hb') ((H.out.1.nums k hlt).old hb') ((H.out.2.1.nums k hlt).old hb')
      have HC := Lib.hid hcall; clear hcall
      generalize (E.getD k []).length = n at *
      generalize blk vs k = gx at *
      generalize blk us k = gy at *
      go_wp2_with fail
      have hpre : Below w.heap.size w wr ∧ wr.cell? ⟨x, ox + k, none⟩ = some (.slice (some ⟨gx, 0, none⟩) n cx) ∧ wr.cell? ⟨y, oy + k, none⟩ = some (.slice (some ⟨gy, 0, none⟩) n cy) := ⟨hb, c1, c2⟩
      clear hb c1 c2
      refine wp_region_held_drew (S := fun w' => Below w.heap.size w w' ∧ w'.cell? ⟨x, ox + k, none⟩ = some (.slice (some ⟨gx, 0, none⟩) n cx) ∧ w'.cell? ⟨y, oy + k, none⟩ = some (.slice (some ⟨gy, 0, none⟩) n cy) ∧ x < w'.heap.size ∧ y < w'.heap.size) (by kernel_rfl) ⟨hpre.1.drew, hpre.2.1, hpre.2.2, lx, ly⟩ (fun hHeld => ?_)
      clear hpre
      (refine wpAnyH_take (i := 0) (v := ?_) rfl (by kernel_rfl) (by kernel_rfl) (by kernel_rfl) (fun _ _ _ h => h) (Or.inl ⟨by kernel_rfl, ?_⟩) (by assumption) ?_; rotate_left; focus (intro w hSw; (try dsimp only at hSw); go_simp; try with_reducible rfl); (try simp only [List.getElem_toArray, List.getElem_cons_succ, List.getElem_cons_zero, Act.put, List.setIfInBounds_toArray, List.set_cons_zero, List.set_cons_succ])); (refine wpAnyH_take (i := 1) (v := ?_) rfl (by kernel_rfl) (by kernel_rfl) (by kernel_rfl) (fun _ _ _ h => h) (Or.inl ⟨by kernel_rfl, ?_⟩) (by assumption) ?_; rotate_left; focus (intro w hSw; (try dsimp only at hSw); go_simp; try with_reducible rfl); (try simp only [List.getElem_toArray, List.getElem_cons_succ, List.getElem_cons_zero, Act.put, List.setIfInBounds_toArray, List.set_cons_zero, List.set_cons_succ])); (refine wpAnyH_take (i := 2) (v := ?_) rfl (by kernel_rfl) (by kernel_rfl) (by kernel_rfl) (fun _ _ _ h => h) (Or.inl ⟨by kernel_rfl, ?_⟩) (by assumption) ?_; rotate_left; focus (intro w hSw; (try dsimp only at hSw); go_simp; try with_reducible rfl); (try simp only [List.getElem_toArray, List.getElem_cons_succ, List.getElem_cons_zero, Act.put, List.setIfInBounds_toArray, List.set_cons_zero, List.set_cons_succ])); (refine wpAnyH_take (i := 3) (v := ?_) rfl (by kernel_rfl) (by kernel_rfl) (by kernel_rfl) (fun _ _ _ h => h) (Or.inl ⟨by kernel_rfl, ?_⟩) (by assumption) ?_; rotate_left; focus (intro w hSw; (try dsimp only at hSw); go_simp; try with_reducible rfl); (try simp only [List.getElem_toArray, List.getElem_cons_succ, List.getElem_cons_zero, Act.put, List.setIfInBounds_toArray, List.set_cons_zero, List.set_cons_succ])); (refine wpAnyH_take (i := 4) (v := ?_) rfl (by kernel_rfl) (by kernel_rfl) (by kernel_rfl) (fun _ _ _ h => h) (Or.inl ⟨by kernel_rfl, ?_⟩) (by assumption) ?_; rotate_left; focus (intro w hSw; (try dsimp only at hSw); go_simp; try with_reducible rfl); (try simp only [List.getElem_toArray, List.getElem_cons_succ, List.getElem_cons_zero, Act.put, List.setIfInBounds_toArray, List.set_cons_zero, List.set_cons_succ])); (refine wpAnyH_take (i := 5) (v := ?_) rfl (by kernel_rfl) (by kernel_rfl) (by kernel_rfl) (fun _ _ _ h => h) (Or.inl ⟨by kernel_rfl, ?_⟩) (by assumption) ?_; rotate_left; focus (intro w hSw; (try dsimp only at hSw); go_simp; try with_reducible rfl); (try simp only [List.getElem_toArray, List.getElem_cons_succ, List.getElem_cons_zero, Act.put, List.setIfInBounds_toArray, List.set_cons_zero, List.set_cons_succ])); (refine wpAnyH_take (i := 6) (v := ?_) rfl (by kernel_rfl) (by kernel_rfl) (by kernel_rfl) (fun _ _ _ h => h) (Or.inl ⟨by kernel_rfl, ?_⟩) (by assumption) ?_; rotate_left; focus (intro w hSw; (try dsimp only at hSw); go_simp; try with_reducible rfl); (try simp only [List.getElem_toArray, List.getElem_cons_succ, List.getElem_cons_zero, Act.put, List.setIfInBounds_toArray, List.set_cons_zero, List.set_cons_succ])); (refine wpAnyH_take (i := 7) (v := ?_) rfl (by kernel_rfl) (by kernel_rfl) (by kernel_rfl) (fun _ _ _ h => h) (Or.inl ⟨by kernel_rfl, ?_⟩) (by assumption) ?_; rotate_left; focus (intro w hSw; (try dsimp only at hSw); go_simp; try with_reducible rfl); (try simp only [List.getElem_toArray, List.getElem_cons_succ, List.getElem_cons_zero, Act.put, List.setIfInBounds_toArray, List.set_cons_zero, List.set_cons_succ]))
      refine wpAnyH_ready (rs := [8]) (by kernel_rfl) (by simp) ?_; refine AllReadyH.cons rfl (fun K hK => ?_) AllReadyH.nil
      go_simp
      go_at_call 60
      refine (HC.out _ hHeld.1).mono ?_; rintro e w5 ⟨rfl, b5⟩
      have KS := Lib.hid (ss_keep hHeld b5)
      clear b5 hHeld
      go_wp2_with fail
      refine hK.out _ _ KS.out (fun hHeld => ?_)
      clear hK K KS
      (try simp only [List.getElem_toArray, List.getElem_cons_succ, List.getElem_cons_zero, Act.put, List.setIfInBounds_toArray, List.set_cons_zero, List.set_cons_succ])
      (refine wpAnyH_take (i := 9) (v := ?_) rfl (by kernel_rfl) (by kernel_rfl) (by kernel_rfl) (fun _ _ _ h => h) (Or.inl ⟨by kernel_rfl, ?_⟩) (by assumption) ?_; rotate_left; focus (intro w hSw; (try dsimp only at hSw); go_simp; try with_reducible rfl); (try simp only [List.getElem_toArray, List.getElem_cons_succ, List.getElem_cons_zero, Act.put, List.setIfInBounds_toArray, List.set_cons_zero, List.set_cons_succ]))
      refine wpAnyH_done (by kernel_rfl) ?_ _
      have HB := Lib.hid hHeld.1; clear hHeld
      go_wp2_with fail
      go_roundw
      case rel => exact ⟨k + 1, by go_num, by omega, HB.out⟩
      case measure => simp [intOf]; omega
    · obtain rfl : k = E.length := by omega
      go_wp2_with fail
      go_ret
      exact ⟨rfl, hb⟩

def offE (E : List (List (List Int))) (k : Nat) : Nat := ((E.take k).map fun D => offs D D.length).sum
theorem offE_succ (E : List (List (List Int))) (k : Nat) (hk : k < E.length) : offE E (k + 1) = offE E k + offs (E.getD k []) (E.getD k []).length := by
  unfold offE
  rw [List.take_succ_eq_append_getElem hk, List.map_append, List.sum_append]
  simp [hk]
theorem offE_le (E : List (List (List Int))) (hE : SmallE E) : ∀ k, k ≤ E.length → offE E k ≤ 10000 * k
  | 0, _ => by simp [offE]
  | k + 1, hk => by
    have := offE_le E hE k (by omega)
    have h2 := offs_le _ (hE.2 k (by omega)) _ (Nat.le_refl _)
    have h3 := (hE.2 k (by omega)).1
    have h4 : 100 * (E.getD k []).length ≤ 10000 := by omega
    rw [offE_succ E k (by omega)]; omega
/-- The rounds, marked. -/
def Marked3 (w : World) (UU : Nat → List Value) (E : List (List (List Int))) (k0 : Int) (k : Nat) : Prop :=
  ∀ i, i < k → Marked w (UU i) (E.getD i []) (k0 + (offE E i : Nat)) (E.getD i []).length
/-- No row stands twice. -/
def Apart3 (UU : Nat → List Value) (E : List (List (List Int))) : Prop :=
  ∀ i k j l, i < k → k < E.length → j < (E.getD i []).length → l < (E.getD k []).length → blk (UU i) j ≠ blk (UU k) l
def MkA3 (w : World) (B : Nat) (UU : Nat → List Value) (E : List (List (List Int))) (k0 : Int) (k : Nat) (wr : World) : Prop :=
  Marked3 wr UU E k0 k ∧ (∀ b, (∀ i j, i < k → j < (E.getD i []).length → b ≠ blk (UU i) j) → wr.heap[b]? = w.heap[b]?) ∧ Below B w wr
theorem Reads.same {w w' : World} {a : Option Addr} {xs : List Value} (h : Reads w a xs) (hs : ∀ b, blockOf a = some b → w'.heap[b]? = w.heap[b]?) : Reads w' a xs := by
  rcases h with h | ⟨b, off, rfl, hlt, hc⟩
  · exact .inl h
  · have he := hs b rfl
    refine .inr ⟨b, off, rfl, ?_, fun j hj => by rw [← hc j hj]; exact World.cell?_of_block (w := w) he⟩
    rw [Array.getElem?_eq_getElem hlt] at he
    exact (Array.getElem?_eq_some_iff.1 he).1
theorem Writable.same {w w' : World} {a : Option Addr} {n : Nat} (h : Writable w a n) (hs : ∀ b, blockOf a = some b → w'.heap[b]? = w.heap[b]?) : Writable w' a n := by
  rcases h with h | ⟨b, off, rfl, hlt, hc⟩
  · exact .inl h
  · have he := hs b rfl
    refine .inr ⟨b, off, rfl, ?_, fun j hj => ?_⟩
    · rw [Array.getElem?_eq_getElem hlt] at he
      exact (Array.getElem?_eq_some_iff.1 he).1
    · rw [World.cell?_of_block (w := w) (a := ⟨b, off + j, none⟩) he, World.frozen?_of_block (w := w) (a := ⟨b, off + j, none⟩) he]
      exact hc j hj

set_option maxHeartbeats 1600000 in
theorem markIntSSS_any (E : List (List (List Int))) (hE : SmallE E) (vs : List Value) (UU : Nat → List Value) (a : Option Addr) (c B : Nat) (k0 : Int) (hk0 : 0 ≤ k0) (hk1 : k0 ≤ 100000) (w : World) (h1 : R3 w a vs UU E)
    (ha : ∀ b, blockOf a = some b → ∀ i j, i < E.length → j < (E.getD i []).length → b ≠ blk (UU i) j)
    (hh : ∀ i, i < E.length → ∀ k l, k < E.length → l < (E.getD k []).length → blk vs i ≠ blk (UU k) l)
    (hap : ∀ i, i < E.length → Apart (UU i) (E.getD i [])) (hap3 : Apart3 UU E)
    (hw : ∀ i j, i < E.length → j < (E.getD i []).length → Writable w (some ⟨blk (UU i) j, 0, none⟩) ((E.getD i []).getD j []).length ∧ B ≤ blk (UU i) j ∧ blk (UU i) j < w.heap.size) :
    Calls Try.prog 29 #[.slice a E.length c, .int .i64 k0] w fun e w' => e = .returned (.int .i64 (k0 + (offE E E.length : Nat))) ∧ MkA3 w B UU E k0 E.length w' := by
  have H := Lib.hid (And.intro h1 (And.intro ha (And.intro hh (And.intro hap (And.intro hap3 (And.intro hw hE)))))); clear h1 ha hh hap hap3 hw
  have hD1 := hE.1; clear hE
  go_enter Try.func29, Try.ntmps29
  go_wp2_with fail
  go_loopw [1, 5] (fun q i wr => ∃ k : Nat, i = .int .i64 k ∧ k ≤ E.length ∧ q = .int .i64 (k0 + (offE E k : Nat)) ∧ Hid (MkA3 w B UU E k0 k wr)) (fun _ i _ => E.length - (intOf i).toNat)
  case atStart => exact ⟨0, rfl, Nat.zero_le _, by simp [offE], Lib.hid ⟨fun j hj => absurd hj (Nat.not_lt_zero _), fun b _ => rfl, Below.refl _ _⟩⟩
  case round =>
    obtain ⟨k, rfl, hk, rfl, hh⟩ := hrel
    by_cases hlt : k < E.length
    · have hkl : (k : Int) < (E.length : Int) := by omega
      obtain ⟨x, ox, cx, rfl, lx, c1⟩ := H.out.1.cell hlt
      have c1 : wr.cell? ⟨x, ox + k, none⟩ = some (.slice (some ⟨blk vs k, 0, none⟩) (E.getD k []).length cx) := by
        rw [← c1]
        exact World.cell?_of_block (w := w) (a := ⟨x, ox + k, none⟩) (hh.out.2.1 x (fun i j hi hj => H.out.2.1 x rfl i j (by omega) hj))
      have hsz := hh.out.2.2.size
      have hrow : ∀ j, j < (E.getD k []).length → wr.heap[blk (UU k) j]? = w.heap[blk (UU k) j]? := fun j hj => hh.out.2.1 _ (fun i l hi hl e => H.out.2.2.2.2.1 i k l j hi hlt hl hj e.symm)
      have hhd : wr.heap[blk vs k]? = w.heap[blk vs k]? := hh.out.2.1 _ (fun i l hi hl => H.out.2.2.1 k hlt i l (by omega) hl)
      have r2 : Reads wr (some ⟨blk vs k, 0, none⟩) (UU k) := (H.out.1.rows k hlt).same (fun b e => by simp [blockOf] at e; rw [← e]; exact hhd)
      have hn := H.out.2.2.2.2.2.2.2 k hlt
      have ho := offE_le E H.out.2.2.2.2.2.2 k hk
      have hos := offE_succ E k hlt
      have hcall := markIntSS_any (E.getD k []) hn (UU k) (some ⟨blk vs k, 0, none⟩) cx B (k0 + (offE E k : Nat)) (by omega) (by omega) wr (H.out.1.heads k hlt) r2
        (fun b e j hj => by simp [blockOf] at e; rw [← e]; exact H.out.2.2.1 k hlt k j hlt hj) (H.out.2.2.2.1 k hlt)
        (fun j hj => by
          obtain ⟨q1, q2, q3⟩ := H.out.2.2.2.2.2.1 k j hlt hj
          exact ⟨q1.same (fun b e => by simp [blockOf] at e; rw [← e]; exact hrow j hj), q2, by omega⟩)
      have HC := Lib.hid (hcall.mono (R' := fun e w' => e = .returned (.int .i64 (k0 + (offE E (k + 1) : Nat))) ∧ MkA3 w B UU E k0 (k + 1) w') (by
        rintro e w' ⟨rfl, hm1, hm2, hm3⟩
        refine ⟨by rw [hos]; push_cast; rw [Int.add_assoc], fun i hi => ?_, fun b hb => ?_, hh.out.2.2.trans hm3⟩
        · by_cases e : i = k
          · subst e
            exact hm1
          · intro j hj
            refine (hh.out.1 i (by omega) j hj).same (fun b eb => ?_)
            simp [blockOf] at eb
            rw [← eb]
            exact hm2 _ (fun l hl => H.out.2.2.2.2.1 i k j l (by omega) hlt hj hl)
        · rw [hm2 b (fun j hj => hb k j (by omega) hj)]
          exact hh.out.2.1 b (fun i j hi hj => hb i j (by omega) hj))); clear hcall
      clear r2 hrow hhd hos ho hn
      generalize (E.getD k []).length = n at *
      generalize blk vs k = gx at *
      go_wp2_with fail
      refine HC.out.mono ?_; rintro e w5 ⟨rfl, h5⟩
      have H5 := Lib.hid h5; clear h5 HC hh c1
      go_wp2_with fail
      go_roundw
      case rel => exact ⟨k + 1, by go_num, by omega, by first | rfl | trivial, H5⟩
      case measure => simp [intOf]; omega
    · obtain rfl : k = E.length := by omega
      go_wp2_with fail
      go_ret
      exact ⟨rfl, hh.out⟩

set_option maxHeartbeats 1600000 in
theorem heldIntSSS_any (E : List (List (List Int))) (hE : SmallE E) (vs : List Value) (UU : Nat → List Value) (a : Option Addr) (c : Nat) (k0 : Int) (hk0 : 0 ≤ k0) (hk1 : k0 ≤ 100000) (w : World)
    (hl : vs.length = E.length) (hd : ∀ i, i < E.length → ∃ c, vs[i]? = some (.slice (some ⟨blk vs i, 0, none⟩) (E.getD i []).length c)) (ho : Reads w a vs) (hs : ∀ i, i < E.length → Heads (UU i) (E.getD i [])) (hr : ∀ i, i < E.length → Reads w (some ⟨blk vs i, 0, none⟩) (UU i)) (hm : Marked3 w UU E k0 E.length) :
    Calls Try.prog 30 #[.slice a E.length c, .int .i64 k0] w fun e w' => e = .returned (.int .i64 (k0 + (offE E E.length : Nat))) ∧ w' = w := by
  have hcell : ∀ k, k < E.length → ∃ b off c, a = some ⟨b, off, none⟩ ∧ b < w.heap.size ∧ w.cell? ⟨b, off + k, none⟩ = some (.slice (some ⟨blk vs k, 0, none⟩) (E.getD k []).length c) := by
    intro k hk
    obtain ⟨c, hc⟩ := hd k hk
    rcases ho with h | ⟨b, off, rfl, hlt, hcs⟩
    · subst h; simp at hl; omega
    · exact ⟨b, off, c, rfl, hlt, by rw [hcs k (by omega), hc]⟩
  have H := Lib.hid (And.intro hcell (And.intro hs (And.intro hr (And.intro hm hE)))); clear hcell hs hr hm hl hd ho
  have hD1 := hE.1; clear hE
  go_enter Try.func30, Try.ntmps30
  go_wp2_with fail
  go_loopw [1, 5] (fun q i wr => ∃ k : Nat, i = .int .i64 k ∧ k ≤ E.length ∧ q = .int .i64 (k0 + (offE E k : Nat)) ∧ wr = w) (fun _ i _ => E.length - (intOf i).toNat)
  case atStart => exact ⟨0, rfl, Nat.zero_le _, by simp [offE], rfl⟩
  case round =>
    obtain ⟨k, rfl, hk, rfl, rfl⟩ := hrel
    by_cases hlt : k < E.length
    · have hkl : (k : Int) < (E.length : Int) := by omega
      obtain ⟨x, ox, cx, rfl, lx, c1⟩ := H.out.1 k hlt
      have hn := H.out.2.2.2.2.2 k hlt
      have ho := offE_le E H.out.2.2.2.2 k hk
      have hos := offE_succ E k hlt
      have hcall := heldIntSS_any (E.getD k []) hn (UU k) (some ⟨blk vs k, 0, none⟩) cx (k0 + (offE E k : Nat)) (by omega) (by omega) wr (H.out.2.1 k hlt) (H.out.2.2.1 k hlt) (H.out.2.2.2.1 k hlt)
      have hng : ¬ (k0 + ((offE E (k + 1) : Nat) : Int) < 0) := by omega
      have HC := Lib.hid (hcall.mono (R' := fun e w' => e = .returned (.int .i64 (k0 + (offE E (k + 1) : Nat))) ∧ w' = wr) (by
        rintro e w' ⟨rfl, rfl⟩
        exact ⟨by rw [hos]; push_cast; rw [Int.add_assoc], rfl⟩)); clear hcall hos ho hn
      generalize (E.getD k []).length = n at *
      generalize blk vs k = gx at *
      go_wp2_with fail
      refine HC.out.mono ?_; rintro e w5 ⟨rfl, rfl⟩
      go_wp2_with fail
      go_roundw
      case rel => exact ⟨k + 1, by go_num, by omega, by first | rfl | trivial, by first | rfl | trivial⟩
      case measure => simp [intOf]; omega
    · obtain rfl : k = E.length := by omega
      go_wp2_with fail
      go_ret
      exact ⟨rfl, rfl⟩
end Go.Proofs.Ythbkclgdoopbpaa
