/-
  Leagues as texts: plain facts, and the model.
-/
import Derived.Test.YtbgdngfjeikheaaDoorLgGood
import Derived.Test.YtbgdngfjeikheaaDoorLgIs
import Derived.Test.YtbgdngfjeikheaaDoorText
import Derived.Test.YtbgdngfjeikheaaDoorShelf
import Derived.Lib.Join
import Derived.Deep.RegionHeld3
import Derived.Deep.QuietTactic
namespace Go.Proofs.YtbgdngfjeikheaaDoor
open Go.RowKit
set_option linter.unusedVariables false
set_option linter.unusedSimpArgs false

def txN (a b c d : Nat) : List UInt8 := (((((numF 1 a ++ [45]) ++ numF 1 b) ++ [61]) ++ numF 1 c) ++ [58]) ++ numF 1 d
def txR (r : Rs) : List UInt8 := txN r.1.toNat r.2.1.toNat r.2.2.1.toNat r.2.2.2.toNat
def headT (t wn : Int) : List UInt8 := ((numF 1 t.toNat ++ [119]) ++ numF 1 wn.toNat) ++ [124]
def rowsT (l : List Rs) : List UInt8 := Lib.join (l.map txR) [44]
def lgTV (t wn : Int) (l : List Rs) : ByteArray := if goodL t wn l then ⟨(headT t wn ++ rowsT l).toArray⟩ else ⟨#[]⟩
theorem txN_len (a b c d : Nat) : (txN a b c d).length ≤ 11 := by
  have h1 := (numF_len 1 a).2
  have h2 := (numF_len 1 b).2
  have h3 := (numF_len 1 c).2
  have h4 := (numF_len 1 d).2
  simp only [txN, List.length_append, List.length_cons, List.length_nil]; omega
theorem headT_len (t wn : Int) : (headT t wn).length ≤ 6 := by
  have h1 := (numF_len 1 t.toNat).2
  have h2 := (numF_len 1 wn.toNat).2
  simp only [headT, List.length_append, List.length_cons, List.length_nil]; omega
theorem join_last (xs : List (List UInt8)) (y sep : List UInt8) : Lib.join (xs ++ [y]) sep = if xs = [] then y else Lib.join xs sep ++ sep ++ y := by
  cases xs with
  | nil => simp [Lib.join_one]
  | cons x r => rw [List.cons_append, Lib.join_cons, Lib.join_cons, if_neg (by simp)]; simp [Lib.joinTail]
theorem rowsT_step {l : List Rs} {k : Nat} (hk : k < l.length) : rowsT (l.take (k + 1)) = if k = 0 then txR (l.getD k zR) else rowsT (l.take k) ++ [44] ++ txR (l.getD k zR) := by
  rw [take_snoc zR l k hk]
  unfold rowsT
  rw [List.map_append, List.map_cons, List.map_nil, join_last]
  by_cases h0 : k = 0
  · subst h0; simp
  · rw [if_neg h0, if_neg (by intro e; rw [List.map_eq_nil_iff, List.take_eq_nil_iff] at e; rcases e with e | e; exact h0 e; rw [e] at hk; cases hk)]
theorem rowsT_0 (l : List Rs) : rowsT (l.take 0) = [] := by simp [rowsT, Lib.join_nil]
theorem rowsT_len {l : List Rs} : ∀ k, k ≤ l.length → (rowsT (l.take k)).length ≤ 12 * k
  | 0, _ => by simp [rowsT, Lib.join_nil]
  | k + 1, hk => by
    have ih := rowsT_len (l := l) k (by omega)
    have h3 := txN_len (l.getD k zR).1.toNat (l.getD k zR).2.1.toNat (l.getD k zR).2.2.1.toNat (l.getD k zR).2.2.2.toNat
    rw [rowsT_step (by omega)]
    split
    · unfold txR; omega
    · simp only [List.length_append, List.length_cons, List.length_nil, txR]; omega
theorem num_lg (m : Nat) (h : m < 100) : (∀ w : World, Calls Tryd.prog 113 #[.int .i64 m] w fun e w' => e = .returned (.string ⟨(numF 1 m).toArray⟩) ∧ Below w.heap.size w w') := fun w => l1Num_any 1 m w (by omega) (by omega)
theorem num_decLg : ∀ m : Nat, m < 100 → Lib.decDigits m = numF 1 m := by decide +kernel
theorem itoa_lg (m : Nat) (h : m < 100) (w : World) : Calls Tryd.prog 66 #[.int .i64 m] w fun e w' => e = .returned (.string ⟨(numF 1 m).toArray⟩) ∧ w' = w := by
  rw [← num_decLg m h]; exact Tryd.strconv_Itoa_small m h w
theorem addL (X Y : List UInt8) (hx : X.length ≤ 10000) (hy : Y.length ≤ 10000) (W : World) : (Op.stringOp .add ⟨X.toArray⟩ ⟨Y.toArray⟩).run Tryd.prog W = .ok (.string ⟨(X ++ Y).toArray⟩) W := run_string_add_lists W X Y (by omega) (by omega)

/-- The box of a result, and what lay before. -/
theorem bx_keep {w X Y : World} {B : Nat} {r0 r1 r2 r3 : Value} (bd : Below X.heap.size X Y) (h : X.cell? ⟨B, 0, none⟩ = some r0 ∧ X.cell? ⟨B, 1, none⟩ = some r1 ∧ X.cell? ⟨B, 2, none⟩ = some r2 ∧ X.cell? ⟨B, 3, none⟩ = some r3 ∧ B < X.heap.size ∧ Below w.heap.size w X) :
    Y.cell? ⟨B, 0, none⟩ = some r0 ∧ Y.cell? ⟨B, 1, none⟩ = some r1 ∧ Y.cell? ⟨B, 2, none⟩ = some r2 ∧ Y.cell? ⟨B, 3, none⟩ = some r3 ∧ B < Y.heap.size ∧ Below w.heap.size w Y := by
  obtain ⟨h0, h1, h2, h3, h4, h5⟩ := h
  refine ⟨?_, ?_, ?_, ?_, Nat.lt_of_lt_of_le h4 bd.size, h5.trans (bd.mono h5.size)⟩
  · rw [bd.cell (p := ⟨B, 0, none⟩) h4]; exact h0
  · rw [bd.cell (p := ⟨B, 1, none⟩) h4]; exact h1
  · rw [bd.cell (p := ⟨B, 2, none⟩) h4]; exact h2
  · rw [bd.cell (p := ⟨B, 3, none⟩) h4]; exact h3
theorem hd_keep {w X Y : World} {B : Nat} {r0 r1 r2 : Value} (bd : Below X.heap.size X Y) (h : X.cell? ⟨B, 0, none⟩ = some r0 ∧ X.cell? ⟨B, 1, none⟩ = some r1 ∧ X.cell? ⟨B, 2, none⟩ = some r2 ∧ B < X.heap.size ∧ Below w.heap.size w X) :
    Y.cell? ⟨B, 0, none⟩ = some r0 ∧ Y.cell? ⟨B, 1, none⟩ = some r1 ∧ Y.cell? ⟨B, 2, none⟩ = some r2 ∧ B < Y.heap.size ∧ Below w.heap.size w Y := by
  obtain ⟨h0, h1, h2, h4, h5⟩ := h
  refine ⟨?_, ?_, ?_, Nat.lt_of_lt_of_le h4 bd.size, h5.trans (bd.mono h5.size)⟩
  · rw [bd.cell (p := ⟨B, 0, none⟩) h4]; exact h0
  · rw [bd.cell (p := ⟨B, 1, none⟩) h4]; exact h1
  · rw [bd.cell (p := ⟨B, 2, none⟩) h4]; exact h2

set_option maxHeartbeats 6400000 in
set_option maxRecDepth 100000 in
theorem lgText_any (t wn : Nat) (l : List Rs) (hgd : goodL t wn l = true) (ad : Option Addr) (c : Nat) (w : World) (hr : Reads w ad (ress l)) :
    Calls Tryd.prog 83 #[.agg #[.int .i64 t, .int .i64 wn, .slice ad l.length c]] w fun e w' => e = .returned (.string ⟨(headT t wn ++ rowsT l).toArray⟩) ∧ Below w.heap.size w w' := by
  obtain ⟨-, t2, -, w2, h56⟩ := goodL_bd hgd
  have HGD := Lib.hid (goodL_get hgd); clear hgd
  have IH := Lib.hid (And.intro (num_lg t (by omega)) (num_lg wn (by omega)))
  have la := (numF_len 1 t).2
  have lb := (numF_len 1 wn).2
  have lh := headT_len t wn
  have e0 : headT t wn = ((numF 1 t ++ [119]) ++ numF 1 wn) ++ [124] := rfl
  have h1 := fun W => addL (numF 1 t) [119] (by omega) (by simp) W
  have h2 := fun W => addL (numF 1 t ++ [119]) (numF 1 wn) (by simp; omega) (by omega) W
  have h3 := fun W => addL ((numF 1 t ++ [119]) ++ numF 1 wn) [124] (by simp; omega) (by simp) W
  rw [← e0] at h3
  clear e0 la lb
  generalize headT (t : Int) (wn : Int) = HT at *
  generalize numF 1 t ++ [119] ++ numF 1 wn = A2 at *
  generalize numF 1 t ++ [119] = A1 at *
  generalize numF 1 t = A0 at *
  generalize numF 1 wn = B0 at *
  have HR := Lib.hid hr; clear hr
  have P0 := ObAt.new w 42 #[.int .i64 t, .int .i64 wn, .slice ad l.length c]
  have HB0 := Below.ofNew (w := w) (.cells #[.int .i64 t, .int .i64 wn, .slice ad l.length c] 42)
  have hS : (w.alloc (.cells #[.int .i64 t, .int .i64 wn, .slice ad l.length c] 42)).cell? ⟨w.heap.size, 0, none⟩ = some (.int .i64 t) ∧ (w.alloc (.cells #[.int .i64 t, .int .i64 wn, .slice ad l.length c] 42)).cell? ⟨w.heap.size, 1, none⟩ = some (.int .i64 wn) ∧ (w.alloc (.cells #[.int .i64 t, .int .i64 wn, .slice ad l.length c] 42)).cell? ⟨w.heap.size, 2, none⟩ = some (.slice ad l.length c) ∧ w.heap.size < (w.alloc (.cells #[.int .i64 t, .int .i64 wn, .slice ad l.length c] 42)).heap.size ∧ Below w.heap.size w (w.alloc (.cells #[.int .i64 t, .int .i64 wn, .slice ad l.length c] 42)) := ⟨P0.cell 0, P0.cell 1, P0.cell 2, P0.lt, HB0⟩
  have HS := Lib.hid hS; clear hS P0 HB0
  have ln : (l.length : Int) ≤ 56 := by omega
  go_enter Tryd.func83, Tryd.ntmps83
  go_wp2_with fail
  generalize w.alloc (.cells #[.int .i64 t, .int .i64 wn, .slice ad l.length c] 42) = X at *
  refine wp_region_held_drew (S := fun w' => w'.cell? ⟨w.heap.size, 0, none⟩ = some (.int .i64 t) ∧ w'.cell? ⟨w.heap.size, 1, none⟩ = some (.int .i64 wn) ∧ w'.cell? ⟨w.heap.size, 2, none⟩ = some (.slice ad l.length c) ∧ w.heap.size < w'.heap.size ∧ Below w.heap.size w w') (by kernel_rfl) ⟨HS.out.1, HS.out.2.1, HS.out.2.2.1, HS.out.2.2.2.1, Below.drew HS.out.2.2.2.2⟩ (fun hHeld => ?_)
  (refine wpAnyH_take (i := 0) (v := ?_) rfl (by kernel_rfl) (by kernel_rfl) (by kernel_rfl) (fun _ _ _ h => h) (Or.inl ⟨by kernel_rfl, ?_⟩) (by assumption) ?_; rotate_left; focus (intro w hSw; (try dsimp only at hSw); go_simp; try with_reducible rfl); (try simp only [List.getElem_toArray, List.getElem_cons_succ, List.getElem_cons_zero, Act.put, List.setIfInBounds_toArray, List.set_cons_zero, List.set_cons_succ])); (refine wpAnyH_take (i := 1) (v := ?_) rfl (by kernel_rfl) (by kernel_rfl) (by kernel_rfl) (fun _ _ _ h => h) (Or.inl ⟨by kernel_rfl, ?_⟩) (by assumption) ?_; rotate_left; focus (intro w hSw; (try dsimp only at hSw); go_simp; try with_reducible rfl); (try simp only [List.getElem_toArray, List.getElem_cons_succ, List.getElem_cons_zero, Act.put, List.setIfInBounds_toArray, List.set_cons_zero, List.set_cons_succ])); (refine wpAnyH_take (i := 4) (v := ?_) rfl (by kernel_rfl) (by kernel_rfl) (by kernel_rfl) (fun _ _ _ h => h) (Or.inl ⟨by kernel_rfl, ?_⟩) (by assumption) ?_; rotate_left; focus (intro w hSw; (try dsimp only at hSw); go_simp; try with_reducible rfl); (try simp only [List.getElem_toArray, List.getElem_cons_succ, List.getElem_cons_zero, Act.put, List.setIfInBounds_toArray, List.set_cons_zero, List.set_cons_succ])); (refine wpAnyH_take (i := 5) (v := ?_) rfl (by kernel_rfl) (by kernel_rfl) (by kernel_rfl) (fun _ _ _ h => h) (Or.inl ⟨by kernel_rfl, ?_⟩) (by assumption) ?_; rotate_left; focus (intro w hSw; (try dsimp only at hSw); go_simp; try with_reducible rfl); (try simp only [List.getElem_toArray, List.getElem_cons_succ, List.getElem_cons_zero, Act.put, List.setIfInBounds_toArray, List.set_cons_zero, List.set_cons_succ]))
  refine wpAnyH_ready (rs := [2]) (by kernel_rfl) (by simp) ?_; refine AllReadyH.cons rfl (fun K hK => ?_) AllReadyH.nil
  go_simp
  go_at_call 113
  refine (IH.out.1 _).mono ?_; rintro e w' ⟨rfl, bd⟩
  have KS := Lib.hid (hd_keep bd hHeld); clear hHeld bd
  go_wp2_with fail
  refine hK.out _ _ KS.out (fun hHeld => ?_)
  clear hK K KS
  (try simp only [List.getElem_toArray, List.getElem_cons_succ, List.getElem_cons_zero, Act.put, List.setIfInBounds_toArray, List.set_cons_zero, List.set_cons_succ])
  (refine wpAnyH_take (i := 3) (v := ?_) rfl (by kernel_rfl) (by kernel_rfl) (by kernel_rfl) (fun _ _ _ h => h) (Or.inl ⟨by kernel_rfl, ?_⟩) (by assumption) ?_; rotate_left; focus (intro w hSw; (try dsimp only at hSw); go_simp; try with_reducible rfl); (try simp only [List.getElem_toArray, List.getElem_cons_succ, List.getElem_cons_zero, Act.put, List.setIfInBounds_toArray, List.set_cons_zero, List.set_cons_succ]))
  refine wpAnyH_ready (rs := [6]) (by kernel_rfl) (by simp) ?_; refine AllReadyH.cons rfl (fun K hK => ?_) AllReadyH.nil
  go_simp
  go_at_call 113
  refine (IH.out.2 _).mono ?_; rintro e w' ⟨rfl, bd⟩
  have KS := Lib.hid (hd_keep bd hHeld); clear hHeld bd
  go_wp2_with fail
  refine hK.out _ _ KS.out (fun hHeld => ?_)
  clear hK K KS
  (try simp only [List.getElem_toArray, List.getElem_cons_succ, List.getElem_cons_zero, Act.put, List.setIfInBounds_toArray, List.set_cons_zero, List.set_cons_succ])
  (refine wpAnyH_take (i := 7) (v := ?_) rfl (by kernel_rfl) (by kernel_rfl) (by kernel_rfl) (fun _ _ _ h => h) (Or.inl ⟨by kernel_rfl, ?_⟩) (by assumption) ?_; rotate_left; focus (intro w hSw; (try dsimp only at hSw); go_simp; try with_reducible rfl); (try simp only [List.getElem_toArray, List.getElem_cons_succ, List.getElem_cons_zero, Act.put, List.setIfInBounds_toArray, List.set_cons_zero, List.set_cons_succ])); (refine wpAnyH_take (i := 8) (v := ?_) rfl (by kernel_rfl) (by kernel_rfl) (by kernel_rfl) (fun _ _ _ h => h) (Or.inl ⟨by kernel_rfl, ?_⟩) (by assumption) ?_; rotate_left; focus (intro w hSw; (try dsimp only at hSw); go_simp; try with_reducible rfl); (try simp only [List.getElem_toArray, List.getElem_cons_succ, List.getElem_cons_zero, Act.put, List.setIfInBounds_toArray, List.set_cons_zero, List.set_cons_succ])); (refine wpAnyH_take (i := 9) (v := ?_) rfl (by kernel_rfl) (by kernel_rfl) (by kernel_rfl) (fun _ _ _ h => h) (Or.inl ⟨by kernel_rfl, ?_⟩) (by assumption) ?_; rotate_left; focus (intro w hSw; (try dsimp only at hSw); go_simp; try with_reducible rfl); (try simp only [List.getElem_toArray, List.getElem_cons_succ, List.getElem_cons_zero, Act.put, List.setIfInBounds_toArray, List.set_cons_zero, List.set_cons_succ]))
  refine wpAnyH_done (by kernel_rfl) ?_ _
  obtain ⟨-, -, k2, -, kb⟩ := hHeld
  have HB1 := Lib.hid kb
  clear kb h1 h2 h3 HS IH
  go_wp2_with fail
  clear k2
  go_loopw [3, 18] (fun q i wr => ∃ k : Nat, i = .int .i64 k ∧ k ≤ l.length ∧ q = .string ⟨(HT ++ rowsT (l.take k)).toArray⟩ ∧ Hid (Below w.heap.size w wr)) (fun _ i _ => l.length - (intOf i).toNat)
  case atStart => exact ⟨0, rfl, Nat.zero_le _, by rw [rowsT_0, List.append_nil], HB1⟩
  case round =>
    clear HB1
    obtain ⟨k, rfl, hk, rfl, hH⟩ := hrel
    have hlen := rowsT_len (l := l) k hk
    by_cases hlt : k < l.length
    · have b1 : (k : Int) < (l.length : Int) := by omega
      obtain ⟨b, off, ha, _, hc⟩ := rcells_of_reads (HR.out.old hH.out) (by omega)
      subst ha
      obtain ⟨c0, c1, c2, c3⟩ := hc k hlt
      clear hc
      have hst := rowsT_step hlt
      obtain ⟨⟨x1, x2⟩, ⟨x3, x4⟩, -, ⟨x5, x6⟩, ⟨x7, x8⟩⟩ := goodR_bd (HGD.out k hlt)
      generalize l.getD k zR = r at *
      obtain ⟨r0, r1, r2, r3⟩ := r
      simp only at c0 c1 c2 c3 x1 x2 x3 x4 x5 x6 x7 x8
      obtain ⟨n0, rfl⟩ : ∃ n : Nat, r0 = n := ⟨r0.toNat, by omega⟩
      obtain ⟨n1, rfl⟩ : ∃ n : Nat, r1 = n := ⟨r1.toNat, by omega⟩
      obtain ⟨n2, rfl⟩ : ∃ n : Nat, r2 = n := ⟨r2.toNat, by omega⟩
      obtain ⟨n3, rfl⟩ : ∃ n : Nat, r3 = n := ⟨r3.toNat, by omega⟩
      have htx : txR ((n0 : Int), (n1 : Int), (n2 : Int), (n3 : Int)) = (((((numF 1 n0 ++ [45]) ++ numF 1 n1) ++ [61]) ++ numF 1 n2) ++ [58]) ++ numF 1 n3 := rfl
      rw [htx] at hst
      clear htx
      have IH := Lib.hid (And.intro (num_lg n0 (by omega)) (And.intro (num_lg n1 (by omega)) (And.intro (num_lg n2 (by omega)) (num_lg n3 (by omega)))))
      have l0 := (numF_len 1 n0).2
      have l1 := (numF_len 1 n1).2
      have l2 := (numF_len 1 n2).2
      have l3 := (numF_len 1 n3).2
      clear x1 x2 x3 x4 x5 x6 x7 x8
      generalize numF 1 n0 = N0 at *
      generalize numF 1 n1 = N1 at *
      generalize numF 1 n2 = N2 at *
      generalize numF 1 n3 = N3 at *
      have a1 := fun W => addL N0 [45] (by omega) (by simp) W
      have a2 := fun W => addL (N0 ++ [45]) N1 (by simp; omega) (by omega) W
      have a3 := fun W => addL ((N0 ++ [45]) ++ N1) [61] (by simp; omega) (by simp) W
      have a4 := fun W => addL (((N0 ++ [45]) ++ N1) ++ [61]) N2 (by simp; omega) (by omega) W
      have a5 := fun W => addL ((((N0 ++ [45]) ++ N1) ++ [61]) ++ N2) [58] (by simp; omega) (by simp) W
      have a6 := fun W => addL (((((N0 ++ [45]) ++ N1) ++ [61]) ++ N2) ++ [58]) N3 (by simp; omega) (by omega) W
      have l6 : ((((((N0 ++ [45]) ++ N1) ++ [61]) ++ N2) ++ [58]) ++ N3).length ≤ 11 := by simp; omega
      generalize (((((N0 ++ [45]) ++ N1) ++ [61]) ++ N2) ++ [58]) ++ N3 = T6 at *
      generalize ((((N0 ++ [45]) ++ N1) ++ [61]) ++ N2) ++ [58] = T5 at *
      generalize (((N0 ++ [45]) ++ N1) ++ [61]) ++ N2 = T4 at *
      generalize ((N0 ++ [45]) ++ N1) ++ [61] = T3 at *
      generalize (N0 ++ [45]) ++ N1 = T2 at *
      generalize N0 ++ [45] = T1 at *
      have hB := hH.out.alloc hH.out.size (.cells #[.int .i64 n0, .int .i64 n1, .int .i64 n2, .int .i64 n3] 97)
      have PR := ObAt.new wr 97 #[.int .i64 n0, .int .i64 n1, .int .i64 n2, .int .i64 n3]
      have HS : Hid ((wr.alloc (.cells #[.int .i64 n0, .int .i64 n1, .int .i64 n2, .int .i64 n3] 97)).cell? ⟨wr.heap.size, 0, none⟩ = some (.int .i64 n0) ∧ (wr.alloc (.cells #[.int .i64 n0, .int .i64 n1, .int .i64 n2, .int .i64 n3] 97)).cell? ⟨wr.heap.size, 1, none⟩ = some (.int .i64 n1) ∧ (wr.alloc (.cells #[.int .i64 n0, .int .i64 n1, .int .i64 n2, .int .i64 n3] 97)).cell? ⟨wr.heap.size, 2, none⟩ = some (.int .i64 n2) ∧ (wr.alloc (.cells #[.int .i64 n0, .int .i64 n1, .int .i64 n2, .int .i64 n3] 97)).cell? ⟨wr.heap.size, 3, none⟩ = some (.int .i64 n3) ∧ wr.heap.size < (wr.alloc (.cells #[.int .i64 n0, .int .i64 n1, .int .i64 n2, .int .i64 n3] 97)).heap.size ∧ Below w.heap.size w (wr.alloc (.cells #[.int .i64 n0, .int .i64 n1, .int .i64 n2, .int .i64 n3] 97))) := ⟨PR.cell 0, PR.cell 1, PR.cell 2, PR.cell 3, PR.lt, hB⟩
      clear hB PR hH
      have HST := Lib.hid hst; clear hst
      clear l0 l1 l2 l3
      by_cases h0 : k = 0
      · have hk0 : decide ((0 : Int) < (k : Int)) = false := by simp; omega
        have hk1 : ¬ (0 : Int) < (k : Int) := by omega
        subst h0
        rw [rowsT_0, List.append_nil]
        simp only [Nat.zero_mul, Nat.add_zero] at c0 c1 c2 c3
        have a7 := fun W => addL HT T6 (by omega) (by omega) W
        go_wp2_with fail
        clear c0 c1 c2 c3
        generalize wr.alloc (.cells #[.int .i64 n0, .int .i64 n1, .int .i64 n2, .int .i64 n3] 97) = X at *
        generalize wr.heap.size = B at *
        refine wp_region_held_drew (S := fun w' => w'.cell? ⟨B, 0, none⟩ = some (.int .i64 n0) ∧ w'.cell? ⟨B, 1, none⟩ = some (.int .i64 n1) ∧ w'.cell? ⟨B, 2, none⟩ = some (.int .i64 n2) ∧ w'.cell? ⟨B, 3, none⟩ = some (.int .i64 n3) ∧ B < w'.heap.size ∧ Below w.heap.size w w') (by kernel_rfl) ⟨HS.out.1, HS.out.2.1, HS.out.2.2.1, HS.out.2.2.2.1, HS.out.2.2.2.2.1, Below.drew HS.out.2.2.2.2.2⟩ (fun hHeld => ?_)
        (refine wpAnyH_take (i := 0) (v := ?_) rfl (by kernel_rfl) (by kernel_rfl) (by kernel_rfl) (fun _ _ _ h => h) (Or.inl ⟨by kernel_rfl, ?_⟩) (by assumption) ?_; rotate_left; focus (intro w hSw; (try dsimp only at hSw); go_simp; try with_reducible rfl); (try simp only [List.getElem_toArray, List.getElem_cons_succ, List.getElem_cons_zero, Act.put, List.setIfInBounds_toArray, List.set_cons_zero, List.set_cons_succ])); (refine wpAnyH_take (i := 1) (v := ?_) rfl (by kernel_rfl) (by kernel_rfl) (by kernel_rfl) (fun _ _ _ h => h) (Or.inl ⟨by kernel_rfl, ?_⟩) (by assumption) ?_; rotate_left; focus (intro w hSw; (try dsimp only at hSw); go_simp; try with_reducible rfl); (try simp only [List.getElem_toArray, List.getElem_cons_succ, List.getElem_cons_zero, Act.put, List.setIfInBounds_toArray, List.set_cons_zero, List.set_cons_succ])); (refine wpAnyH_take (i := 2) (v := ?_) rfl (by kernel_rfl) (by kernel_rfl) (by kernel_rfl) (fun _ _ _ h => h) (Or.inl ⟨by kernel_rfl, ?_⟩) (by assumption) ?_; rotate_left; focus (intro w hSw; (try dsimp only at hSw); go_simp; try with_reducible rfl); (try simp only [List.getElem_toArray, List.getElem_cons_succ, List.getElem_cons_zero, Act.put, List.setIfInBounds_toArray, List.set_cons_zero, List.set_cons_succ])); (refine wpAnyH_take (i := 5) (v := ?_) rfl (by kernel_rfl) (by kernel_rfl) (by kernel_rfl) (fun _ _ _ h => h) (Or.inl ⟨by kernel_rfl, ?_⟩) (by assumption) ?_; rotate_left; focus (intro w hSw; (try dsimp only at hSw); go_simp; try with_reducible rfl); (try simp only [List.getElem_toArray, List.getElem_cons_succ, List.getElem_cons_zero, Act.put, List.setIfInBounds_toArray, List.set_cons_zero, List.set_cons_succ])); (refine wpAnyH_take (i := 6) (v := ?_) rfl (by kernel_rfl) (by kernel_rfl) (by kernel_rfl) (fun _ _ _ h => h) (Or.inl ⟨by kernel_rfl, ?_⟩) (by assumption) ?_; rotate_left; focus (intro w hSw; (try dsimp only at hSw); go_simp; try with_reducible rfl); (try simp only [List.getElem_toArray, List.getElem_cons_succ, List.getElem_cons_zero, Act.put, List.setIfInBounds_toArray, List.set_cons_zero, List.set_cons_succ])); (refine wpAnyH_take (i := 10) (v := ?_) rfl (by kernel_rfl) (by kernel_rfl) (by kernel_rfl) (fun _ _ _ h => h) (Or.inl ⟨by kernel_rfl, ?_⟩) (by assumption) ?_; rotate_left; focus (intro w hSw; (try dsimp only at hSw); go_simp; try with_reducible rfl); (try simp only [List.getElem_toArray, List.getElem_cons_succ, List.getElem_cons_zero, Act.put, List.setIfInBounds_toArray, List.set_cons_zero, List.set_cons_succ])); (refine wpAnyH_take (i := 11) (v := ?_) rfl (by kernel_rfl) (by kernel_rfl) (by kernel_rfl) (fun _ _ _ h => h) (Or.inl ⟨by kernel_rfl, ?_⟩) (by assumption) ?_; rotate_left; focus (intro w hSw; (try dsimp only at hSw); go_simp; try with_reducible rfl); (try simp only [List.getElem_toArray, List.getElem_cons_succ, List.getElem_cons_zero, Act.put, List.setIfInBounds_toArray, List.set_cons_zero, List.set_cons_succ])); (refine wpAnyH_take (i := 15) (v := ?_) rfl (by kernel_rfl) (by kernel_rfl) (by kernel_rfl) (fun _ _ _ h => h) (Or.inl ⟨by kernel_rfl, ?_⟩) (by assumption) ?_; rotate_left; focus (intro w hSw; (try dsimp only at hSw); go_simp; try with_reducible rfl); (try simp only [List.getElem_toArray, List.getElem_cons_succ, List.getElem_cons_zero, Act.put, List.setIfInBounds_toArray, List.set_cons_zero, List.set_cons_succ])); (refine wpAnyH_take (i := 16) (v := ?_) rfl (by kernel_rfl) (by kernel_rfl) (by kernel_rfl) (fun _ _ _ h => h) (Or.inl ⟨by kernel_rfl, ?_⟩) (by assumption) ?_; rotate_left; focus (intro w hSw; (try dsimp only at hSw); go_simp; try with_reducible rfl); (try simp only [List.getElem_toArray, List.getElem_cons_succ, List.getElem_cons_zero, Act.put, List.setIfInBounds_toArray, List.set_cons_zero, List.set_cons_succ]))
        refine wpAnyH_ready (rs := [3]) (by kernel_rfl) (by simp) ?_; refine AllReadyH.cons rfl (fun K hK => ?_) AllReadyH.nil
        go_simp
        go_at_call 113
        refine (IH.out.1 _).mono ?_; rintro e w' ⟨rfl, bd⟩
        have KS := Lib.hid (bx_keep bd hHeld); clear hHeld bd
        go_wp2_with fail
        refine hK.out _ _ KS.out (fun hHeld => ?_)
        clear hK K KS
        (try simp only [List.getElem_toArray, List.getElem_cons_succ, List.getElem_cons_zero, Act.put, List.setIfInBounds_toArray, List.set_cons_zero, List.set_cons_succ])
        (refine wpAnyH_take (i := 4) (v := ?_) rfl (by kernel_rfl) (by kernel_rfl) (by kernel_rfl) (fun _ _ _ h => h) (Or.inl ⟨by kernel_rfl, ?_⟩) (by assumption) ?_; rotate_left; focus (intro w hSw; (try dsimp only at hSw); go_simp; try with_reducible rfl); (try simp only [List.getElem_toArray, List.getElem_cons_succ, List.getElem_cons_zero, Act.put, List.setIfInBounds_toArray, List.set_cons_zero, List.set_cons_succ]))
        refine wpAnyH_ready (rs := [7]) (by kernel_rfl) (by simp) ?_; refine AllReadyH.cons rfl (fun K hK => ?_) AllReadyH.nil
        go_simp
        go_at_call 113
        refine (IH.out.2.1 _).mono ?_; rintro e w' ⟨rfl, bd⟩
        have KS := Lib.hid (bx_keep bd hHeld); clear hHeld bd
        go_wp2_with fail
        refine hK.out _ _ KS.out (fun hHeld => ?_)
        clear hK K KS
        (try simp only [List.getElem_toArray, List.getElem_cons_succ, List.getElem_cons_zero, Act.put, List.setIfInBounds_toArray, List.set_cons_zero, List.set_cons_succ])
        (refine wpAnyH_take (i := 8) (v := ?_) rfl (by kernel_rfl) (by kernel_rfl) (by kernel_rfl) (fun _ _ _ h => h) (Or.inl ⟨by kernel_rfl, ?_⟩) (by assumption) ?_; rotate_left; focus (intro w hSw; (try dsimp only at hSw); go_simp; try with_reducible rfl); (try simp only [List.getElem_toArray, List.getElem_cons_succ, List.getElem_cons_zero, Act.put, List.setIfInBounds_toArray, List.set_cons_zero, List.set_cons_succ])); (refine wpAnyH_take (i := 9) (v := ?_) rfl (by kernel_rfl) (by kernel_rfl) (by kernel_rfl) (fun _ _ _ h => h) (Or.inl ⟨by kernel_rfl, ?_⟩) (by assumption) ?_; rotate_left; focus (intro w hSw; (try dsimp only at hSw); go_simp; try with_reducible rfl); (try simp only [List.getElem_toArray, List.getElem_cons_succ, List.getElem_cons_zero, Act.put, List.setIfInBounds_toArray, List.set_cons_zero, List.set_cons_succ]))
        refine wpAnyH_ready (rs := [12]) (by kernel_rfl) (by simp) ?_; refine AllReadyH.cons rfl (fun K hK => ?_) AllReadyH.nil
        go_simp
        go_at_call 113
        refine (IH.out.2.2.1 _).mono ?_; rintro e w' ⟨rfl, bd⟩
        have KS := Lib.hid (bx_keep bd hHeld); clear hHeld bd
        go_wp2_with fail
        refine hK.out _ _ KS.out (fun hHeld => ?_)
        clear hK K KS
        (try simp only [List.getElem_toArray, List.getElem_cons_succ, List.getElem_cons_zero, Act.put, List.setIfInBounds_toArray, List.set_cons_zero, List.set_cons_succ])
        (refine wpAnyH_take (i := 13) (v := ?_) rfl (by kernel_rfl) (by kernel_rfl) (by kernel_rfl) (fun _ _ _ h => h) (Or.inl ⟨by kernel_rfl, ?_⟩) (by assumption) ?_; rotate_left; focus (intro w hSw; (try dsimp only at hSw); go_simp; try with_reducible rfl); (try simp only [List.getElem_toArray, List.getElem_cons_succ, List.getElem_cons_zero, Act.put, List.setIfInBounds_toArray, List.set_cons_zero, List.set_cons_succ])); (refine wpAnyH_take (i := 14) (v := ?_) rfl (by kernel_rfl) (by kernel_rfl) (by kernel_rfl) (fun _ _ _ h => h) (Or.inl ⟨by kernel_rfl, ?_⟩) (by assumption) ?_; rotate_left; focus (intro w hSw; (try dsimp only at hSw); go_simp; try with_reducible rfl); (try simp only [List.getElem_toArray, List.getElem_cons_succ, List.getElem_cons_zero, Act.put, List.setIfInBounds_toArray, List.set_cons_zero, List.set_cons_succ]))
        refine wpAnyH_ready (rs := [17]) (by kernel_rfl) (by simp) ?_; refine AllReadyH.cons rfl (fun K hK => ?_) AllReadyH.nil
        go_simp
        go_at_call 113
        refine (IH.out.2.2.2 _).mono ?_; rintro e w' ⟨rfl, bd⟩
        have KS := Lib.hid (bx_keep bd hHeld); clear hHeld bd
        go_wp2_with fail
        refine hK.out _ _ KS.out (fun hHeld => ?_)
        clear hK K KS
        (try simp only [List.getElem_toArray, List.getElem_cons_succ, List.getElem_cons_zero, Act.put, List.setIfInBounds_toArray, List.set_cons_zero, List.set_cons_succ])
        (refine wpAnyH_take (i := 18) (v := ?_) rfl (by kernel_rfl) (by kernel_rfl) (by kernel_rfl) (fun _ _ _ h => h) (Or.inl ⟨by kernel_rfl, ?_⟩) (by assumption) ?_; rotate_left; focus (intro w hSw; (try dsimp only at hSw); go_simp; try with_reducible rfl); (try simp only [List.getElem_toArray, List.getElem_cons_succ, List.getElem_cons_zero, Act.put, List.setIfInBounds_toArray, List.set_cons_zero, List.set_cons_succ])); (refine wpAnyH_take (i := 19) (v := ?_) rfl (by kernel_rfl) (by kernel_rfl) (by kernel_rfl) (fun _ _ _ h => h) (Or.inl ⟨by kernel_rfl, ?_⟩) (by assumption) ?_; rotate_left; focus (intro w hSw; (try dsimp only at hSw); go_simp; try with_reducible rfl); (try simp only [List.getElem_toArray, List.getElem_cons_succ, List.getElem_cons_zero, Act.put, List.setIfInBounds_toArray, List.set_cons_zero, List.set_cons_succ])); (refine wpAnyH_take (i := 20) (v := ?_) rfl (by kernel_rfl) (by kernel_rfl) (by kernel_rfl) (fun _ _ _ h => h) (Or.inl ⟨by kernel_rfl, ?_⟩) (by assumption) ?_; rotate_left; focus (intro w hSw; (try dsimp only at hSw); go_simp; try with_reducible rfl); (try simp only [List.getElem_toArray, List.getElem_cons_succ, List.getElem_cons_zero, Act.put, List.setIfInBounds_toArray, List.set_cons_zero, List.set_cons_succ]))
        refine wpAnyH_done (by kernel_rfl) ?_ _
        have HK := Lib.hid hHeld.2.2.2.2.2; clear hHeld
        go_wp2_with fail
        go_roundw
        case rel => exact ⟨0 + 1, by go_num, by omega, by rw [HST.out]; simp, HK⟩
        case measure => simp [intOf]; omega
      · have hk1 : (0 : Int) < (k : Int) := by omega
        have a7 := fun W => addL (HT ++ rowsT (l.take k)) [44] (by simp only [List.length_append]; omega) (by simp) W
        have a8 := fun W => addL ((HT ++ rowsT (l.take k)) ++ [44]) T6 (by simp only [List.length_append, List.length_cons, List.length_nil]; omega) (by omega) W
        have hfin : ((HT ++ rowsT (l.take k)) ++ [44]) ++ T6 = HT ++ (rowsT (l.take k) ++ [44] ++ T6) := by simp
        have HF := Lib.hid hfin; clear hfin
        generalize hP2 : (HT ++ rowsT (l.take k)) ++ [44] = P2 at *
        generalize hP1 : HT ++ rowsT (l.take k) = P1 at *
        clear hP1 hP2
        go_wp2_with fail
        clear c0 c1 c2 c3
        generalize wr.alloc (.cells #[.int .i64 n0, .int .i64 n1, .int .i64 n2, .int .i64 n3] 97) = X at *
        generalize wr.heap.size = B at *
        refine wp_region_held_drew (S := fun w' => w'.cell? ⟨B, 0, none⟩ = some (.int .i64 n0) ∧ w'.cell? ⟨B, 1, none⟩ = some (.int .i64 n1) ∧ w'.cell? ⟨B, 2, none⟩ = some (.int .i64 n2) ∧ w'.cell? ⟨B, 3, none⟩ = some (.int .i64 n3) ∧ B < w'.heap.size ∧ Below w.heap.size w w') (by kernel_rfl) ⟨HS.out.1, HS.out.2.1, HS.out.2.2.1, HS.out.2.2.2.1, HS.out.2.2.2.2.1, Below.drew HS.out.2.2.2.2.2⟩ (fun hHeld => ?_)
        (refine wpAnyH_take (i := 0) (v := ?_) rfl (by kernel_rfl) (by kernel_rfl) (by kernel_rfl) (fun _ _ _ h => h) (Or.inl ⟨by kernel_rfl, ?_⟩) (by assumption) ?_; rotate_left; focus (intro w hSw; (try dsimp only at hSw); go_simp; try with_reducible rfl); (try simp only [List.getElem_toArray, List.getElem_cons_succ, List.getElem_cons_zero, Act.put, List.setIfInBounds_toArray, List.set_cons_zero, List.set_cons_succ])); (refine wpAnyH_take (i := 1) (v := ?_) rfl (by kernel_rfl) (by kernel_rfl) (by kernel_rfl) (fun _ _ _ h => h) (Or.inl ⟨by kernel_rfl, ?_⟩) (by assumption) ?_; rotate_left; focus (intro w hSw; (try dsimp only at hSw); go_simp; try with_reducible rfl); (try simp only [List.getElem_toArray, List.getElem_cons_succ, List.getElem_cons_zero, Act.put, List.setIfInBounds_toArray, List.set_cons_zero, List.set_cons_succ])); (refine wpAnyH_take (i := 2) (v := ?_) rfl (by kernel_rfl) (by kernel_rfl) (by kernel_rfl) (fun _ _ _ h => h) (Or.inl ⟨by kernel_rfl, ?_⟩) (by assumption) ?_; rotate_left; focus (intro w hSw; (try dsimp only at hSw); go_simp; try with_reducible rfl); (try simp only [List.getElem_toArray, List.getElem_cons_succ, List.getElem_cons_zero, Act.put, List.setIfInBounds_toArray, List.set_cons_zero, List.set_cons_succ])); (refine wpAnyH_take (i := 5) (v := ?_) rfl (by kernel_rfl) (by kernel_rfl) (by kernel_rfl) (fun _ _ _ h => h) (Or.inl ⟨by kernel_rfl, ?_⟩) (by assumption) ?_; rotate_left; focus (intro w hSw; (try dsimp only at hSw); go_simp; try with_reducible rfl); (try simp only [List.getElem_toArray, List.getElem_cons_succ, List.getElem_cons_zero, Act.put, List.setIfInBounds_toArray, List.set_cons_zero, List.set_cons_succ])); (refine wpAnyH_take (i := 6) (v := ?_) rfl (by kernel_rfl) (by kernel_rfl) (by kernel_rfl) (fun _ _ _ h => h) (Or.inl ⟨by kernel_rfl, ?_⟩) (by assumption) ?_; rotate_left; focus (intro w hSw; (try dsimp only at hSw); go_simp; try with_reducible rfl); (try simp only [List.getElem_toArray, List.getElem_cons_succ, List.getElem_cons_zero, Act.put, List.setIfInBounds_toArray, List.set_cons_zero, List.set_cons_succ])); (refine wpAnyH_take (i := 10) (v := ?_) rfl (by kernel_rfl) (by kernel_rfl) (by kernel_rfl) (fun _ _ _ h => h) (Or.inl ⟨by kernel_rfl, ?_⟩) (by assumption) ?_; rotate_left; focus (intro w hSw; (try dsimp only at hSw); go_simp; try with_reducible rfl); (try simp only [List.getElem_toArray, List.getElem_cons_succ, List.getElem_cons_zero, Act.put, List.setIfInBounds_toArray, List.set_cons_zero, List.set_cons_succ])); (refine wpAnyH_take (i := 11) (v := ?_) rfl (by kernel_rfl) (by kernel_rfl) (by kernel_rfl) (fun _ _ _ h => h) (Or.inl ⟨by kernel_rfl, ?_⟩) (by assumption) ?_; rotate_left; focus (intro w hSw; (try dsimp only at hSw); go_simp; try with_reducible rfl); (try simp only [List.getElem_toArray, List.getElem_cons_succ, List.getElem_cons_zero, Act.put, List.setIfInBounds_toArray, List.set_cons_zero, List.set_cons_succ])); (refine wpAnyH_take (i := 15) (v := ?_) rfl (by kernel_rfl) (by kernel_rfl) (by kernel_rfl) (fun _ _ _ h => h) (Or.inl ⟨by kernel_rfl, ?_⟩) (by assumption) ?_; rotate_left; focus (intro w hSw; (try dsimp only at hSw); go_simp; try with_reducible rfl); (try simp only [List.getElem_toArray, List.getElem_cons_succ, List.getElem_cons_zero, Act.put, List.setIfInBounds_toArray, List.set_cons_zero, List.set_cons_succ])); (refine wpAnyH_take (i := 16) (v := ?_) rfl (by kernel_rfl) (by kernel_rfl) (by kernel_rfl) (fun _ _ _ h => h) (Or.inl ⟨by kernel_rfl, ?_⟩) (by assumption) ?_; rotate_left; focus (intro w hSw; (try dsimp only at hSw); go_simp; try with_reducible rfl); (try simp only [List.getElem_toArray, List.getElem_cons_succ, List.getElem_cons_zero, Act.put, List.setIfInBounds_toArray, List.set_cons_zero, List.set_cons_succ]))
        refine wpAnyH_ready (rs := [3]) (by kernel_rfl) (by simp) ?_; refine AllReadyH.cons rfl (fun K hK => ?_) AllReadyH.nil
        go_simp
        go_at_call 113
        refine (IH.out.1 _).mono ?_; rintro e w' ⟨rfl, bd⟩
        have KS := Lib.hid (bx_keep bd hHeld); clear hHeld bd
        go_wp2_with fail
        refine hK.out _ _ KS.out (fun hHeld => ?_)
        clear hK K KS
        (try simp only [List.getElem_toArray, List.getElem_cons_succ, List.getElem_cons_zero, Act.put, List.setIfInBounds_toArray, List.set_cons_zero, List.set_cons_succ])
        (refine wpAnyH_take (i := 4) (v := ?_) rfl (by kernel_rfl) (by kernel_rfl) (by kernel_rfl) (fun _ _ _ h => h) (Or.inl ⟨by kernel_rfl, ?_⟩) (by assumption) ?_; rotate_left; focus (intro w hSw; (try dsimp only at hSw); go_simp; try with_reducible rfl); (try simp only [List.getElem_toArray, List.getElem_cons_succ, List.getElem_cons_zero, Act.put, List.setIfInBounds_toArray, List.set_cons_zero, List.set_cons_succ]))
        refine wpAnyH_ready (rs := [7]) (by kernel_rfl) (by simp) ?_; refine AllReadyH.cons rfl (fun K hK => ?_) AllReadyH.nil
        go_simp
        go_at_call 113
        refine (IH.out.2.1 _).mono ?_; rintro e w' ⟨rfl, bd⟩
        have KS := Lib.hid (bx_keep bd hHeld); clear hHeld bd
        go_wp2_with fail
        refine hK.out _ _ KS.out (fun hHeld => ?_)
        clear hK K KS
        (try simp only [List.getElem_toArray, List.getElem_cons_succ, List.getElem_cons_zero, Act.put, List.setIfInBounds_toArray, List.set_cons_zero, List.set_cons_succ])
        (refine wpAnyH_take (i := 8) (v := ?_) rfl (by kernel_rfl) (by kernel_rfl) (by kernel_rfl) (fun _ _ _ h => h) (Or.inl ⟨by kernel_rfl, ?_⟩) (by assumption) ?_; rotate_left; focus (intro w hSw; (try dsimp only at hSw); go_simp; try with_reducible rfl); (try simp only [List.getElem_toArray, List.getElem_cons_succ, List.getElem_cons_zero, Act.put, List.setIfInBounds_toArray, List.set_cons_zero, List.set_cons_succ])); (refine wpAnyH_take (i := 9) (v := ?_) rfl (by kernel_rfl) (by kernel_rfl) (by kernel_rfl) (fun _ _ _ h => h) (Or.inl ⟨by kernel_rfl, ?_⟩) (by assumption) ?_; rotate_left; focus (intro w hSw; (try dsimp only at hSw); go_simp; try with_reducible rfl); (try simp only [List.getElem_toArray, List.getElem_cons_succ, List.getElem_cons_zero, Act.put, List.setIfInBounds_toArray, List.set_cons_zero, List.set_cons_succ]))
        refine wpAnyH_ready (rs := [12]) (by kernel_rfl) (by simp) ?_; refine AllReadyH.cons rfl (fun K hK => ?_) AllReadyH.nil
        go_simp
        go_at_call 113
        refine (IH.out.2.2.1 _).mono ?_; rintro e w' ⟨rfl, bd⟩
        have KS := Lib.hid (bx_keep bd hHeld); clear hHeld bd
        go_wp2_with fail
        refine hK.out _ _ KS.out (fun hHeld => ?_)
        clear hK K KS
        (try simp only [List.getElem_toArray, List.getElem_cons_succ, List.getElem_cons_zero, Act.put, List.setIfInBounds_toArray, List.set_cons_zero, List.set_cons_succ])
        (refine wpAnyH_take (i := 13) (v := ?_) rfl (by kernel_rfl) (by kernel_rfl) (by kernel_rfl) (fun _ _ _ h => h) (Or.inl ⟨by kernel_rfl, ?_⟩) (by assumption) ?_; rotate_left; focus (intro w hSw; (try dsimp only at hSw); go_simp; try with_reducible rfl); (try simp only [List.getElem_toArray, List.getElem_cons_succ, List.getElem_cons_zero, Act.put, List.setIfInBounds_toArray, List.set_cons_zero, List.set_cons_succ])); (refine wpAnyH_take (i := 14) (v := ?_) rfl (by kernel_rfl) (by kernel_rfl) (by kernel_rfl) (fun _ _ _ h => h) (Or.inl ⟨by kernel_rfl, ?_⟩) (by assumption) ?_; rotate_left; focus (intro w hSw; (try dsimp only at hSw); go_simp; try with_reducible rfl); (try simp only [List.getElem_toArray, List.getElem_cons_succ, List.getElem_cons_zero, Act.put, List.setIfInBounds_toArray, List.set_cons_zero, List.set_cons_succ]))
        refine wpAnyH_ready (rs := [17]) (by kernel_rfl) (by simp) ?_; refine AllReadyH.cons rfl (fun K hK => ?_) AllReadyH.nil
        go_simp
        go_at_call 113
        refine (IH.out.2.2.2 _).mono ?_; rintro e w' ⟨rfl, bd⟩
        have KS := Lib.hid (bx_keep bd hHeld); clear hHeld bd
        go_wp2_with fail
        refine hK.out _ _ KS.out (fun hHeld => ?_)
        clear hK K KS
        (try simp only [List.getElem_toArray, List.getElem_cons_succ, List.getElem_cons_zero, Act.put, List.setIfInBounds_toArray, List.set_cons_zero, List.set_cons_succ])
        (refine wpAnyH_take (i := 18) (v := ?_) rfl (by kernel_rfl) (by kernel_rfl) (by kernel_rfl) (fun _ _ _ h => h) (Or.inl ⟨by kernel_rfl, ?_⟩) (by assumption) ?_; rotate_left; focus (intro w hSw; (try dsimp only at hSw); go_simp; try with_reducible rfl); (try simp only [List.getElem_toArray, List.getElem_cons_succ, List.getElem_cons_zero, Act.put, List.setIfInBounds_toArray, List.set_cons_zero, List.set_cons_succ])); (refine wpAnyH_take (i := 19) (v := ?_) rfl (by kernel_rfl) (by kernel_rfl) (by kernel_rfl) (fun _ _ _ h => h) (Or.inl ⟨by kernel_rfl, ?_⟩) (by assumption) ?_; rotate_left; focus (intro w hSw; (try dsimp only at hSw); go_simp; try with_reducible rfl); (try simp only [List.getElem_toArray, List.getElem_cons_succ, List.getElem_cons_zero, Act.put, List.setIfInBounds_toArray, List.set_cons_zero, List.set_cons_succ])); (refine wpAnyH_take (i := 20) (v := ?_) rfl (by kernel_rfl) (by kernel_rfl) (by kernel_rfl) (fun _ _ _ h => h) (Or.inl ⟨by kernel_rfl, ?_⟩) (by assumption) ?_; rotate_left; focus (intro w hSw; (try dsimp only at hSw); go_simp; try with_reducible rfl); (try simp only [List.getElem_toArray, List.getElem_cons_succ, List.getElem_cons_zero, Act.put, List.setIfInBounds_toArray, List.set_cons_zero, List.set_cons_succ]))
        refine wpAnyH_done (by kernel_rfl) ?_ _
        have HK := Lib.hid hHeld.2.2.2.2.2; clear hHeld
        go_wp2_with fail
        go_roundw
        case rel => exact ⟨k + 1, by go_num, by omega, by rw [HST.out, if_neg h0, ← HF.out], HK⟩
        case measure => simp [intOf]; omega
    · obtain rfl : k = l.length := by omega
      rw [List.take_length] at *
      go_wp2_with fail
      go_ret
      exact ⟨rfl, hH.out⟩
end Go.Proofs.YtbgdngfjeikheaaDoor
