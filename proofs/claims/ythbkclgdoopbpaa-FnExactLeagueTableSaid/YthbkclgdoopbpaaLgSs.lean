/-
  Leagues: slices of slices of ints: eqIntSS, markIntSS, heldIntSS.
-/
import Derived.Test.YthbkclgdoopbpaaLgLp
import Derived.Deep.RegionHeld3
namespace Go.Proofs.Ythbkclgdoopbpaa
open Go.RowKit
set_option linter.unusedVariables false
set_option linter.unusedSimpArgs false

/-- The block of the j-th row. -/
def blk (vs : List Value) (j : Nat) : Nat := ((vs.getD j undef).ownBlock).getD 0
/-- The rows' heads. -/
def Heads (vs : List Value) (D : List (List Int)) : Prop :=
  vs.length = D.length ∧ ∀ j, j < D.length → ∃ c, vs[j]? = some (.slice (some ⟨blk vs j, 0, none⟩) (D.getD j []).length c)
def RowsAt (w : World) (vs : List Value) (D : List (List Int)) : Prop := ∀ j, j < D.length → Reads w (some ⟨blk vs j, 0, none⟩) (ints (D.getD j []))
def SmallD (D : List (List Int)) : Prop := D.length ≤ 100 ∧ ∀ j, j < D.length → (D.getD j []).length ≤ 100
theorem RowsAt.old {w w' : World} {vs : List Value} {D : List (List Int)} (h : RowsAt w vs D) (hb : Below w.heap.size w w') : RowsAt w' vs D := fun j hj => (h j hj).old hb
theorem head_cell {w : World} {a : Option Addr} {vs : List Value} {D : List (List Int)} (h : Reads w a vs) (hh : Heads vs D) {k : Nat} (hk : k < D.length) :
    ∃ b off c, a = some ⟨b, off, none⟩ ∧ b < w.heap.size ∧ w.cell? ⟨b, off + k, none⟩ = some (.slice (some ⟨blk vs k, 0, none⟩) (D.getD k []).length c) := by
  obtain ⟨h1, h2⟩ := hh
  obtain ⟨c, hc⟩ := h2 k hk
  rcases h with h | ⟨b, off, rfl, hlt, hcs⟩
  · subst h; simp at h1; omega
  · exact ⟨b, off, c, rfl, hlt, by rw [hcs k (by omega), hc]⟩

theorem eq_rows (L : List Int) (a a' : Option Addr) (c c' : Nat) (w : World) (hl : (L.length : Int) ≤ 1048576) (h : Reads w a (ints L)) (h' : Reads w a' (ints L)) :
    Calls Try.prog 13 #[.slice a L.length c, .slice a' L.length c'] w fun e w' => e = .returned (.bool true) ∧ Below w.heap.size w w' := by
  have := eqIntS_any L L a a' c c' w (by omega) (by omega) h h'
  rw [show SameB L L = true from by simp [SameB]] at this
  exact this

def SsS (w : World) (x px y py : Nat) (u v : Value) (w' : World) : Prop :=
  Below w.heap.size w w' ∧ w'.cell? ⟨x, px, none⟩ = some u ∧ w'.cell? ⟨y, py, none⟩ = some v ∧ x < w'.heap.size ∧ y < w'.heap.size
theorem ss_keep {w w1 w2 : World} {x px y py : Nat} {u v : Value} (h : SsS w x px y py u v w1) (hb : Below w1.heap.size w1 w2) : SsS w x px y py u v w2 := by
  obtain ⟨h1, h2, h3, h4, h5⟩ := h
  have := hb.size
  exact ⟨h1.trans (hb.mono h1.size), by rw [hb.cell (p := ⟨x, px, none⟩) h4]; exact h2, by rw [hb.cell (p := ⟨y, py, none⟩) h5]; exact h3, by omega, by omega⟩

set_option maxHeartbeats 1600000 in
theorem eqIntSS_same (D : List (List Int)) (hD : SmallD D) (vs us : List Value) (a a' : Option Addr) (c c' : Nat) (w : World) (h1 : Heads vs D) (h2 : Heads us D) (r1 : Reads w a vs) (r2 : Reads w a' us) (q1 : RowsAt w vs D) (q2 : RowsAt w us D) :
    Calls Try.prog 60 #[.slice a D.length c, .slice a' D.length c'] w fun e w' => e = .returned (.bool true) ∧ Below w.heap.size w w' := by
  have hbn : (((D.length : Nat) : Int) != ((D.length : Nat) : Int)) = false := by simp
  have H := Lib.hid (And.intro h1 (And.intro h2 (And.intro r1 (And.intro r2 (And.intro q1 (And.intro q2 hD.2)))))); clear h1 h2 r1 r2 q1 q2
  have hD1 := hD.1; clear hD
  go_enter Try.func60, Try.ntmps60
  go_wp2_with fail
  go_loopw [5] (fun i wr => ∃ k : Nat, i = .int .i64 k ∧ k ≤ D.length ∧ Below w.heap.size w wr) (fun i _ => D.length - (intOf i).toNat)
  case atStart => exact ⟨0, rfl, Nat.zero_le _, Below.refl _ _⟩
  case round =>
    obtain ⟨k, rfl, hk, hb⟩ := hrel
    by_cases hlt : k < D.length
    · have hkl : (k : Int) < (D.length : Int) := by omega
      obtain ⟨x, ox, cx, rfl, lx, c1⟩ := head_cell (H.out.2.2.1.old hb) H.out.1 hlt
      obtain ⟨y, oy, cy, rfl, ly, c2⟩ := head_cell (H.out.2.2.2.1.old hb) H.out.2.1 hlt
      have hcall := fun (w' : World) (hb' : Below w.heap.size w w') => eq_rows (D.getD k []) (some ⟨blk vs k, 0, none⟩) (some ⟨blk us k, 0, none⟩) cx cy w' (by have := H.out.2.2.2.2.2.2 k hlt; omega) ((H.out.2.2.2.2.1 k hlt).old hb') ((H.out.2.2.2.2.2.1 k hlt).old hb')
      have HC := Lib.hid hcall; clear hcall
      generalize (D.getD k []).length = n at *
      generalize blk vs k = gx at *
      generalize blk us k = gy at *
      go_wp2_with fail
      have hpre : Below w.heap.size w wr ∧ wr.cell? ⟨x, ox + k, none⟩ = some (.slice (some ⟨gx, 0, none⟩) n cx) ∧ wr.cell? ⟨y, oy + k, none⟩ = some (.slice (some ⟨gy, 0, none⟩) n cy) := ⟨hb, c1, c2⟩
      clear hb c1 c2
      refine wp_region_held_drew (S := fun w' => Below w.heap.size w w' ∧ w'.cell? ⟨x, ox + k, none⟩ = some (.slice (some ⟨gx, 0, none⟩) n cx) ∧ w'.cell? ⟨y, oy + k, none⟩ = some (.slice (some ⟨gy, 0, none⟩) n cy) ∧ x < w'.heap.size ∧ y < w'.heap.size) (by kernel_rfl) ⟨hpre.1.drew, hpre.2.1, hpre.2.2, lx, ly⟩ (fun hHeld => ?_)
      clear hpre
      (refine wpAnyH_take (i := 0) (v := ?_) rfl (by kernel_rfl) (by kernel_rfl) (by kernel_rfl) (fun _ _ _ h => h) (Or.inl ⟨by kernel_rfl, ?_⟩) (by assumption) ?_; rotate_left; focus (intro w hSw; (try dsimp only at hSw); go_simp; try with_reducible rfl); (try simp only [List.getElem_toArray, List.getElem_cons_succ, List.getElem_cons_zero, Act.put, List.setIfInBounds_toArray, List.set_cons_zero, List.set_cons_succ])); (refine wpAnyH_take (i := 1) (v := ?_) rfl (by kernel_rfl) (by kernel_rfl) (by kernel_rfl) (fun _ _ _ h => h) (Or.inl ⟨by kernel_rfl, ?_⟩) (by assumption) ?_; rotate_left; focus (intro w hSw; (try dsimp only at hSw); go_simp; try with_reducible rfl); (try simp only [List.getElem_toArray, List.getElem_cons_succ, List.getElem_cons_zero, Act.put, List.setIfInBounds_toArray, List.set_cons_zero, List.set_cons_succ])); (refine wpAnyH_take (i := 2) (v := ?_) rfl (by kernel_rfl) (by kernel_rfl) (by kernel_rfl) (fun _ _ _ h => h) (Or.inl ⟨by kernel_rfl, ?_⟩) (by assumption) ?_; rotate_left; focus (intro w hSw; (try dsimp only at hSw); go_simp; try with_reducible rfl); (try simp only [List.getElem_toArray, List.getElem_cons_succ, List.getElem_cons_zero, Act.put, List.setIfInBounds_toArray, List.set_cons_zero, List.set_cons_succ])); (refine wpAnyH_take (i := 3) (v := ?_) rfl (by kernel_rfl) (by kernel_rfl) (by kernel_rfl) (fun _ _ _ h => h) (Or.inl ⟨by kernel_rfl, ?_⟩) (by assumption) ?_; rotate_left; focus (intro w hSw; (try dsimp only at hSw); go_simp; try with_reducible rfl); (try simp only [List.getElem_toArray, List.getElem_cons_succ, List.getElem_cons_zero, Act.put, List.setIfInBounds_toArray, List.set_cons_zero, List.set_cons_succ])); (refine wpAnyH_take (i := 4) (v := ?_) rfl (by kernel_rfl) (by kernel_rfl) (by kernel_rfl) (fun _ _ _ h => h) (Or.inl ⟨by kernel_rfl, ?_⟩) (by assumption) ?_; rotate_left; focus (intro w hSw; (try dsimp only at hSw); go_simp; try with_reducible rfl); (try simp only [List.getElem_toArray, List.getElem_cons_succ, List.getElem_cons_zero, Act.put, List.setIfInBounds_toArray, List.set_cons_zero, List.set_cons_succ])); (refine wpAnyH_take (i := 5) (v := ?_) rfl (by kernel_rfl) (by kernel_rfl) (by kernel_rfl) (fun _ _ _ h => h) (Or.inl ⟨by kernel_rfl, ?_⟩) (by assumption) ?_; rotate_left; focus (intro w hSw; (try dsimp only at hSw); go_simp; try with_reducible rfl); (try simp only [List.getElem_toArray, List.getElem_cons_succ, List.getElem_cons_zero, Act.put, List.setIfInBounds_toArray, List.set_cons_zero, List.set_cons_succ])); (refine wpAnyH_take (i := 6) (v := ?_) rfl (by kernel_rfl) (by kernel_rfl) (by kernel_rfl) (fun _ _ _ h => h) (Or.inl ⟨by kernel_rfl, ?_⟩) (by assumption) ?_; rotate_left; focus (intro w hSw; (try dsimp only at hSw); go_simp; try with_reducible rfl); (try simp only [List.getElem_toArray, List.getElem_cons_succ, List.getElem_cons_zero, Act.put, List.setIfInBounds_toArray, List.set_cons_zero, List.set_cons_succ])); (refine wpAnyH_take (i := 7) (v := ?_) rfl (by kernel_rfl) (by kernel_rfl) (by kernel_rfl) (fun _ _ _ h => h) (Or.inl ⟨by kernel_rfl, ?_⟩) (by assumption) ?_; rotate_left; focus (intro w hSw; (try dsimp only at hSw); go_simp; try with_reducible rfl); (try simp only [List.getElem_toArray, List.getElem_cons_succ, List.getElem_cons_zero, Act.put, List.setIfInBounds_toArray, List.set_cons_zero, List.set_cons_succ]))
      refine wpAnyH_ready (rs := [8]) (by kernel_rfl) (by simp) ?_; refine AllReadyH.cons rfl (fun K hK => ?_) AllReadyH.nil
      go_simp
      go_at_call 13
      refine (HC.out _ hHeld.1).mono ?_; rintro e w5 ⟨rfl, b5⟩
      have KS := Lib.hid (ss_keep hHeld b5)
      clear b5 hHeld
      go_wp2_with fail
      refine hK.out _ _ KS.out (fun hHeld => ?_)
      clear hK K KS
      (try simp only [List.getElem_toArray, List.getElem_cons_succ, List.getElem_cons_zero, Act.put, List.setIfInBounds_toArray, List.set_cons_zero, List.set_cons_succ])
      (refine wpAnyH_take (i := 9) (v := ?_) rfl (by kernel_rfl) (by kernel_rfl) (by kernel_rfl) (fun _ _ _ h => h) (Or.inl ⟨by kernel_rfl, ?_⟩) (by assumption) ?_; rotate_left; focus (intro w hSw; (try dsimp only at hSw); go_simp; try with_reducible rfl); (try simp only [List.getElem_toArray, List.getElem_cons_succ, List.getElem_cons_zero, Act.put, List.setIfInBounds_toArray, List.set_cons_zero, List.set_cons_succ]))
      refine wpAnyH_done (by kernel_rfl) ?_ _
      have HB := Lib.hid hHeld.1; clear hHeld
      go_wp2_with fail
      go_roundw
      case rel => exact ⟨k + 1, by go_num, by omega, HB.out⟩
      case measure => simp [intOf]; omega
    · obtain rfl : k = D.length := by omega
      go_wp2_with fail
      go_ret
      exact ⟨rfl, hb⟩

def offs (D : List (List Int)) (k : Nat) : Nat := ((D.take k).map List.length).sum
theorem offs_succ (D : List (List Int)) (k : Nat) (hk : k < D.length) : offs D (k + 1) = offs D k + (D.getD k []).length := by
  unfold offs
  rw [List.take_succ_eq_append_getElem hk, List.map_append, List.sum_append]
  simp [hk]
theorem offs_le (D : List (List Int)) (hD : SmallD D) : ∀ k, k ≤ D.length → offs D k ≤ 100 * k
  | 0, _ => by simp [offs]
  | k + 1, hk => by
    have := offs_le D hD k (by omega)
    have h2 := hD.2 k (by omega)
    rw [offs_succ D k (by omega)]; omega
/-- The rows, marked. -/
def Marked (w : World) (vs : List Value) (D : List (List Int)) (k0 : Int) (k : Nat) : Prop :=
  ∀ j, j < k → Reads w (some ⟨blk vs j, 0, none⟩) (ints (marks (k0 + (offs D j : Nat)) (D.getD j []).length))
def Apart (vs : List Value) (D : List (List Int)) : Prop := ∀ i j, i < j → j < D.length → blk vs i ≠ blk vs j
def MkA (w : World) (B : Nat) (vs : List Value) (D : List (List Int)) (k0 : Int) (k : Nat) (wr : World) : Prop :=
  Marked wr vs D k0 k ∧ (∀ b, (∀ j, j < k → b ≠ blk vs j) → wr.heap[b]? = w.heap[b]?) ∧ Below B w wr

set_option maxHeartbeats 1600000 in
theorem markIntSS_any (D : List (List Int)) (hD : SmallD D) (vs : List Value) (a : Option Addr) (c B : Nat) (k0 : Int) (hk0 : 0 ≤ k0) (hk1 : k0 ≤ 1000000) (w : World) (h1 : Heads vs D) (r1 : Reads w a vs) (ha : ∀ b, blockOf a = some b → ∀ j, j < D.length → b ≠ blk vs j) (hap : Apart vs D) (hw : ∀ j, j < D.length → Writable w (some ⟨blk vs j, 0, none⟩) (D.getD j []).length ∧ B ≤ blk vs j ∧ blk vs j < w.heap.size) :
    Calls Try.prog 61 #[.slice a D.length c, .int .i64 k0] w fun e w' => e = .returned (.int .i64 (k0 + (offs D D.length : Nat))) ∧ MkA w B vs D k0 D.length w' := by
  have H := Lib.hid (And.intro h1 (And.intro r1 (And.intro ha (And.intro hap (And.intro hw hD))))); clear h1 r1 ha hap hw
  have hD1 := hD.1; clear hD
  go_enter Try.func61, Try.ntmps61
  go_wp2_with fail
  go_loopw [1, 5] (fun q i wr => ∃ k : Nat, i = .int .i64 k ∧ k ≤ D.length ∧ q = .int .i64 (k0 + (offs D k : Nat)) ∧ Hid (MkA w B vs D k0 k wr)) (fun _ i _ => D.length - (intOf i).toNat)
  case atStart => exact ⟨0, rfl, Nat.zero_le _, by simp [offs], Lib.hid ⟨fun j hj => absurd hj (Nat.not_lt_zero _), fun b _ => rfl, Below.refl _ _⟩⟩
  case round =>
    obtain ⟨k, rfl, hk, rfl, hh⟩ := hrel
    by_cases hlt : k < D.length
    · have hkl : (k : Int) < (D.length : Int) := by omega
      obtain ⟨x, ox, cx, rfl, lx, c1⟩ := head_cell H.out.2.1 H.out.1 hlt
      have c1 : wr.cell? ⟨x, ox + k, none⟩ = some (.slice (some ⟨blk vs k, 0, none⟩) (D.getD k []).length cx) := by
        rw [← c1]
        exact World.cell?_of_block (w := w) (a := ⟨x, ox + k, none⟩) (hh.out.2.1 x (fun j hj => H.out.2.2.1 x rfl j (by omega)))
      obtain ⟨wk, bk, lk⟩ := H.out.2.2.2.2.1 k hlt
      have hhp : wr.heap[blk vs k]? = w.heap[blk vs k]? := hh.out.2.1 _ (fun j hj e => H.out.2.2.2.1 j k hj hlt e.symm)
      have hsz := hh.out.2.2.size
      have wk2 : Writable wr (some ⟨blk vs k, 0, none⟩) (D.getD k []).length := by
        rcases wk with wk | ⟨b, off, eb, hlb, hcb⟩
        · exact .inl wk
        · have e3 : (⟨blk vs k, 0, none⟩ : Addr) = ⟨b, off, none⟩ := Option.some.inj eb
          refine .inr ⟨b, off, eb, ?_, fun j hj => ?_⟩
          · have hb2 := Array.getElem?_eq_some_iff.1 (Array.getElem?_eq_getElem hlb)
            have e4 : blk vs k = b := congrArg Addr.block e3
            rw [e4] at hhp
            rw [Array.getElem?_eq_getElem hlb] at hhp
            exact (Array.getElem?_eq_some_iff.1 hhp).1
          · have e4 : blk vs k = b := congrArg Addr.block e3
            rw [e4] at hhp
            rw [World.cell?_of_block (w := w) (a := ⟨b, off + j, none⟩) hhp, World.frozen?_of_block (w := w) (a := ⟨b, off + j, none⟩) hhp]
            exact hcb j hj
      have hn := H.out.2.2.2.2.2.2 k hlt
      have ho := offs_le D H.out.2.2.2.2.2 k hk
      have hos := offs_succ D k hlt
      have hcall := markIntS_any (D.getD k []).length (some ⟨blk vs k, 0, none⟩) cx (k0 + (offs D k : Nat)) wr (by omega) (by omega) (by omega) wk2
      have HC := Lib.hid (hcall.mono (R' := fun e w' => e = .returned (.int .i64 (k0 + (offs D (k + 1) : Nat))) ∧ MkA w B vs D k0 (k + 1) w') (by
        rintro e w' ⟨rfl, rfl⟩
        refine ⟨by rw [hos]; push_cast; rw [Int.add_assoc], fun j hj => ?_, fun b hb => ?_, Below.writeAt hh.out.2.2 (fun b e => by simp [blockOf] at e; omega) _⟩
        · by_cases e : j = k
          · subst e
            exact Reads.written (by rw [ints_len, marks_len]; exact wk2)
          · refine (hh.out.1 j (by omega)).write_other (fun b eb e2 => ?_) _
            simp [blockOf] at eb e2
            exact H.out.2.2.2.1 j k (by omega) hlt (by rw [eb, e2])
        · rw [write_heap _ _ _ _ (by simp [blockOf]; exact fun e => hb k (by omega) e.symm)]
          exact hh.out.2.1 b (fun j hj => hb j (by omega)))); clear hcall
      clear wk wk2 hhp hos ho
      generalize (D.getD k []).length = n at *
      generalize blk vs k = gx at *
      go_wp2_with fail
      refine HC.out.mono ?_; rintro e w5 ⟨rfl, h5⟩
      have H5 := Lib.hid h5; clear h5 HC hh c1
      go_wp2_with fail
      go_roundw
      case rel => exact ⟨k + 1, by go_num, by omega, by first | rfl | trivial, H5⟩
      case measure => simp [intOf]; omega
    · obtain rfl : k = D.length := by omega
      go_wp2_with fail
      go_ret
      exact ⟨rfl, hh.out⟩

set_option maxHeartbeats 1600000 in
theorem heldIntSS_any (D : List (List Int)) (hD : SmallD D) (vs : List Value) (a : Option Addr) (c : Nat) (k0 : Int) (hk0 : 0 ≤ k0) (hk1 : k0 ≤ 1000000) (w : World) (h1 : Heads vs D) (r1 : Reads w a vs) (hm : Marked w vs D k0 D.length) :
    Calls Try.prog 62 #[.slice a D.length c, .int .i64 k0] w fun e w' => e = .returned (.int .i64 (k0 + (offs D D.length : Nat))) ∧ w' = w := by
  have H := Lib.hid (And.intro h1 (And.intro r1 (And.intro hm hD))); clear h1 r1 hm
  have hD1 := hD.1; clear hD
  go_enter Try.func62, Try.ntmps62
  go_wp2_with fail
  go_loopw [1, 5] (fun q i wr => ∃ k : Nat, i = .int .i64 k ∧ k ≤ D.length ∧ q = .int .i64 (k0 + (offs D k : Nat)) ∧ wr = w) (fun _ i _ => D.length - (intOf i).toNat)
  case atStart => exact ⟨0, rfl, Nat.zero_le _, by simp [offs], rfl⟩
  case round =>
    obtain ⟨k, rfl, hk, rfl, rfl⟩ := hrel
    by_cases hlt : k < D.length
    · have hkl : (k : Int) < (D.length : Int) := by omega
      obtain ⟨x, ox, cx, rfl, lx, c1⟩ := head_cell H.out.2.1 H.out.1 hlt
      have hn := H.out.2.2.2.2 k hlt
      have ho := offs_le D H.out.2.2.2 k hk
      have hos := offs_succ D k hlt
      have hcall := heldIntS_any (D.getD k []).length (some ⟨blk vs k, 0, none⟩) cx (k0 + (offs D k : Nat)) wr (by omega) (by omega) (by omega) (H.out.2.2.1 k hlt)
      have hng : ¬ (k0 + ((offs D (k + 1) : Nat) : Int) < 0) := by omega
      have HC := Lib.hid (hcall.mono (R' := fun e w' => e = .returned (.int .i64 (k0 + (offs D (k + 1) : Nat))) ∧ w' = wr) (by
        rintro e w' ⟨rfl, rfl⟩
        exact ⟨by rw [hos]; push_cast; rw [Int.add_assoc], rfl⟩)); clear hcall hos ho
      generalize (D.getD k []).length = n at *
      generalize blk vs k = gx at *
      go_wp2_with fail
      refine HC.out.mono ?_; rintro e w5 ⟨rfl, rfl⟩
      go_wp2_with fail
      go_roundw
      case rel => exact ⟨k + 1, by go_num, by omega, by first | rfl | trivial, by first | rfl | trivial⟩
      case measure => simp [intOf]; omega
    · obtain rfl : k = D.length := by omega
      go_wp2_with fail
      go_ret
      exact ⟨rfl, rfl⟩
end Go.Proofs.Ythbkclgdoopbpaa
