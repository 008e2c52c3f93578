/-
  Puzzles as texts: plain facts, and the model.
-/
import Derived.Test.YtbgdngfjeikheaaDoorPzGood
import Derived.Test.YtbgdngfjeikheaaDoorPzIs
import Derived.Test.YtbgdngfjeikheaaDoorText
import Derived.Test.YtbgdngfjeikheaaDoorShelf
import Derived.Lib.Join
import Derived.Deep.RegionHeld3
import Derived.Deep.QuietTactic
namespace Go.Proofs.YtbgdngfjeikheaaDoor
open Go.RowKit
set_option linter.unusedVariables false
set_option linter.unusedSimpArgs false

def txC3 (a b c : Nat) : List UInt8 := (((numF 1 a ++ [46]) ++ numF 1 b) ++ [46]) ++ numF 1 c
def txC (r : Cl) : List UInt8 := txC3 r.1.toNat r.2.1.toNat r.2.2.toNat
def headP (t : Int) : List UInt8 := numF 1 t.toNat ++ [112]
def clsT (l : List Cl) : List UInt8 := Lib.join (l.map txC) [44]
def pzTL (t : Int) (l : List Cl) : List UInt8 := headP t ++ clsT l
def pzTV (t : Int) (l : List Cl) : ByteArray := if goodP t l then ⟨(pzTL t l).toArray⟩ else ⟨#[]⟩
theorem txC3_len (a b c : Nat) : (txC3 a b c).length ≤ 8 := by
  have h1 := (numF_len 1 a).2
  have h2 := (numF_len 1 b).2
  have h3 := (numF_len 1 c).2
  simp only [txC3, List.length_append, List.length_cons, List.length_nil]; omega
theorem headP_len (t : Int) : (headP t).length ≤ 3 := by
  have h1 := (numF_len 1 t.toNat).2
  simp only [headP, List.length_append, List.length_cons, List.length_nil]; omega
theorem join_lastP (xs : List (List UInt8)) (y sep : List UInt8) : Lib.join (xs ++ [y]) sep = if xs = [] then y else Lib.join xs sep ++ sep ++ y := by
  cases xs with
  | nil => simp [Lib.join_one]
  | cons x r => rw [List.cons_append, Lib.join_cons, Lib.join_cons, if_neg (by simp)]; simp [Lib.joinTail]
theorem clsT_step {l : List Cl} {k : Nat} (hk : k < l.length) : clsT (l.take (k + 1)) = if k = 0 then txC (l.getD k zC) else clsT (l.take k) ++ [44] ++ txC (l.getD k zC) := by
  rw [ptake_snoc zC l k hk]
  unfold clsT
  rw [List.map_append, List.map_cons, List.map_nil, join_lastP]
  by_cases h0 : k = 0
  · subst h0; simp
  · rw [if_neg h0, if_neg (by intro e; rw [List.map_eq_nil_iff, List.take_eq_nil_iff] at e; rcases e with e | e; exact h0 e; rw [e] at hk; cases hk)]
theorem clsT_0 (l : List Cl) : clsT (l.take 0) = [] := by simp [clsT, Lib.join_nil]
theorem clsT_len {l : List Cl} : ∀ k, k ≤ l.length → (clsT (l.take k)).length ≤ 9 * k
  | 0, _ => by simp [clsT, Lib.join_nil]
  | k + 1, hk => by
    have ih := clsT_len (l := l) k (by omega)
    have h3 := txC3_len (l.getD k zC).1.toNat (l.getD k zC).2.1.toNat (l.getD k zC).2.2.toNat
    rw [clsT_step (by omega)]
    split
    · unfold txC; omega
    · simp only [List.length_append, List.length_cons, List.length_nil, txC]; omega
theorem num_pz (m : Nat) (h : m < 100) : (∀ w : World, Calls Tryd.prog 113 #[.int .i64 m] w fun e w' => e = .returned (.string ⟨(numF 1 m).toArray⟩) ∧ Below w.heap.size w w') := fun w => l1Num_any 1 m w (by omega) (by omega)
theorem num_decPz : ∀ m : Nat, m < 100 → Lib.decDigits m = numF 1 m := by decide +kernel
theorem itoa_pz (m : Nat) (h : m < 100) (w : World) : Calls Tryd.prog 66 #[.int .i64 m] w fun e w' => e = .returned (.string ⟨(numF 1 m).toArray⟩) ∧ w' = w := by
  rw [← num_decPz m h]; exact Tryd.strconv_Itoa_small m h w
theorem addLP (X Y : List UInt8) (hx : X.length ≤ 10000) (hy : Y.length ≤ 10000) (W : World) : (Op.stringOp .add ⟨X.toArray⟩ ⟨Y.toArray⟩).run Tryd.prog W = .ok (.string ⟨(X ++ Y).toArray⟩) W := run_string_add_lists W X Y (by omega) (by omega)

/-- The box of a clue, and what lay before. -/
theorem bx_keepP {w X Y : World} {B : Nat} {r0 r1 r2 : Value} (bd : Below X.heap.size X Y) (h : X.cell? ⟨B, 0, none⟩ = some r0 ∧ X.cell? ⟨B, 1, none⟩ = some r1 ∧ X.cell? ⟨B, 2, none⟩ = some r2 ∧ B < X.heap.size ∧ Below w.heap.size w X) :
    Y.cell? ⟨B, 0, none⟩ = some r0 ∧ Y.cell? ⟨B, 1, none⟩ = some r1 ∧ Y.cell? ⟨B, 2, none⟩ = some r2 ∧ B < Y.heap.size ∧ Below w.heap.size w Y := by
  obtain ⟨h0, h1, h2, h4, h5⟩ := h
  refine ⟨?_, ?_, ?_, Nat.lt_of_lt_of_le h4 bd.size, h5.trans (bd.mono h5.size)⟩
  · rw [bd.cell (p := ⟨B, 0, none⟩) h4]; exact h0
  · rw [bd.cell (p := ⟨B, 1, none⟩) h4]; exact h1
  · rw [bd.cell (p := ⟨B, 2, none⟩) h4]; exact h2

set_option maxHeartbeats 1600000 in
set_option maxRecDepth 100000 in
theorem pzText_any (t : Nat) (l : List Cl) (hgd : goodP t l = true) (ad : Option Addr) (c : Nat) (w : World) (hr : Reads w ad (clus l)) :
    Calls Tryd.prog 63 #[.agg #[.int .i64 t, .slice ad l.length c]] w fun e w' => e = .returned (.string ⟨(pzTL t l).toArray⟩) ∧ Below w.heap.size w w' := by
  obtain ⟨⟨t1, t2⟩, h6, hgc⟩ := goodP_bd hgd
  have HGD := Lib.hid (fun k hk => goodC_bd (show (1 : Int) ≤ (t : Int) ∧ (t : Int) ≤ 8 by omega) (goodCs_get hgc k hk)); clear hgd hgc
  have IH := Lib.hid (num_pz t (by omega))
  have la := (numF_len 1 t).2
  have lh := headP_len t
  have e0 : headP t = numF 1 t ++ [112] := rfl
  have h1 := fun W => addLP (numF 1 t) [112] (by omega) (by simp) W
  rw [← e0] at h1
  unfold pzTL
  clear e0 la
  generalize headP (t : Int) = HT at *
  generalize numF 1 t = A0 at *
  have HR := Lib.hid hr; clear hr
  have P0 := Lib.hid (And.intro (ObAt.new w 24 #[.int .i64 t, .slice ad l.length c]) (Below.ofNew (w := w) (.cells #[.int .i64 t, .slice ad l.length c] 24)))
  have ln : (l.length : Int) ≤ 6 := by omega
  obtain ⟨p0, p1, -, -⟩ := P0.out.1.two
  go_enter Tryd.func63, Tryd.ntmps63
  go_wp2_with fail
  refine (IH.out _).mono ?_; rintro e w1 ⟨rfl, b1⟩
  have P1 := Lib.hid (And.intro (P0.out.1.keep b1) (P0.out.2.trans (b1.mono P0.out.2.size))); clear b1 P0 p0 p1
  obtain ⟨p0, p1, -, -⟩ := P1.out.1.two
  go_wp2_with fail
  clear p0 p1 h1
  have HB1 := Lib.hid P1.out.2; clear P1
  go_loopw [3, 13] (fun q i wr => ∃ k : Nat, i = .int .i64 k ∧ k ≤ l.length ∧ q = .string ⟨(HT ++ clsT (l.take k)).toArray⟩ ∧ Hid (Below w.heap.size w wr)) (fun _ i _ => l.length - (intOf i).toNat)
  case atStart => exact ⟨0, rfl, Nat.zero_le _, by rw [clsT_0, List.append_nil], HB1⟩
  case round =>
    clear HB1
    obtain ⟨k, rfl, hk, rfl, hH⟩ := hrel
    have hlen := clsT_len (l := l) k hk
    by_cases hlt : k < l.length
    · have b1 : (k : Int) < (l.length : Int) := by omega
      obtain ⟨b, off, ha, _, hc⟩ := ccells_of_reads (HR.out.old hH.out) (by omega)
      subst ha
      obtain ⟨c0, c1, c2⟩ := hc k hlt
      clear hc
      have hst := clsT_step hlt
      obtain ⟨⟨x1, x2⟩, ⟨x3, x4⟩, ⟨x5, x6⟩⟩ := HGD.out k hlt
      generalize l.getD k zC = r at *
      obtain ⟨r0, r1, r2⟩ := r
      simp only at c0 c1 c2 x1 x2 x3 x4 x5 x6
      obtain ⟨n0, rfl⟩ : ∃ n : Nat, r0 = n := ⟨r0.toNat, by omega⟩
      obtain ⟨n1, rfl⟩ : ∃ n : Nat, r1 = n := ⟨r1.toNat, by omega⟩
      obtain ⟨n2, rfl⟩ : ∃ n : Nat, r2 = n := ⟨r2.toNat, by omega⟩
      have htx : txC ((n0 : Int), (n1 : Int), (n2 : Int)) = (((numF 1 n0 ++ [46]) ++ numF 1 n1) ++ [46]) ++ numF 1 n2 := rfl
      rw [htx] at hst
      clear htx
      have IH := Lib.hid (And.intro (num_pz n0 (by omega)) (And.intro (num_pz n1 (by omega)) (num_pz n2 (by omega))))
      have l0 := (numF_len 1 n0).2
      have l1 := (numF_len 1 n1).2
      have l2 := (numF_len 1 n2).2
      clear x1 x2 x3 x4 x5 x6
      generalize numF 1 n0 = N0 at *
      generalize numF 1 n1 = N1 at *
      generalize numF 1 n2 = N2 at *
      have a1 := fun W => addLP N0 [46] (by omega) (by simp) W
      have a2 := fun W => addLP (N0 ++ [46]) N1 (by simp; omega) (by omega) W
      have a3 := fun W => addLP ((N0 ++ [46]) ++ N1) [46] (by simp; omega) (by simp) W
      have a4 := fun W => addLP (((N0 ++ [46]) ++ N1) ++ [46]) N2 (by simp; omega) (by omega) W
      have l6 : ((((N0 ++ [46]) ++ N1) ++ [46]) ++ N2).length ≤ 8 := by simp; omega
      generalize (((N0 ++ [46]) ++ N1) ++ [46]) ++ N2 = T6 at *
      generalize ((N0 ++ [46]) ++ N1) ++ [46] = T3 at *
      generalize (N0 ++ [46]) ++ N1 = T2 at *
      generalize N0 ++ [46] = T1 at *
      have hB := hH.out.alloc hH.out.size (.cells #[.int .i64 n0, .int .i64 n1, .int .i64 n2] 75)
      have PR := ObAt.new wr 75 #[.int .i64 n0, .int .i64 n1, .int .i64 n2]
      have HS : Hid ((wr.alloc (.cells #[.int .i64 n0, .int .i64 n1, .int .i64 n2] 75)).cell? ⟨wr.heap.size, 0, none⟩ = some (.int .i64 n0) ∧ (wr.alloc (.cells #[.int .i64 n0, .int .i64 n1, .int .i64 n2] 75)).cell? ⟨wr.heap.size, 1, none⟩ = some (.int .i64 n1) ∧ (wr.alloc (.cells #[.int .i64 n0, .int .i64 n1, .int .i64 n2] 75)).cell? ⟨wr.heap.size, 2, none⟩ = some (.int .i64 n2) ∧ wr.heap.size < (wr.alloc (.cells #[.int .i64 n0, .int .i64 n1, .int .i64 n2] 75)).heap.size ∧ Below w.heap.size w (wr.alloc (.cells #[.int .i64 n0, .int .i64 n1, .int .i64 n2] 75))) := ⟨PR.cell 0, PR.cell 1, PR.cell 2, PR.lt, hB⟩
      clear hB PR hH
      have HST := Lib.hid hst; clear hst
      clear l0 l1 l2
      by_cases h0 : k = 0
      · have hk0 : decide ((0 : Int) < (k : Int)) = false := by simp; omega
        have hk1 : ¬ (0 : Int) < (k : Int) := by omega
        subst h0
        rw [clsT_0, List.append_nil]
        simp only [Nat.zero_mul, Nat.add_zero] at c0 c1 c2
        have a7 := fun W => addLP HT T6 (by omega) (by omega) W
        go_wp2_with fail
        clear c0 c1 c2
        generalize wr.alloc (.cells #[.int .i64 n0, .int .i64 n1, .int .i64 n2] 75) = X at *
        generalize wr.heap.size = B at *
        refine wp_region_held_drew (S := fun w' => w'.cell? ⟨B, 0, none⟩ = some (.int .i64 n0) ∧ w'.cell? ⟨B, 1, none⟩ = some (.int .i64 n1) ∧ w'.cell? ⟨B, 2, none⟩ = some (.int .i64 n2) ∧ B < w'.heap.size ∧ Below w.heap.size w w') (by kernel_rfl) ⟨HS.out.1, HS.out.2.1, HS.out.2.2.1, HS.out.2.2.2.1, Below.drew HS.out.2.2.2.2⟩ (fun hHeld => ?_)
        (refine wpAnyH_take (i := 0) (v := ?_) rfl (by kernel_rfl) (by kernel_rfl) (by kernel_rfl) (fun _ _ _ h => h) (Or.inl ⟨by kernel_rfl, ?_⟩) (by assumption) ?_; rotate_left; focus (intro w hSw; (try dsimp only at hSw); go_simp; try with_reducible rfl); (try simp only [List.getElem_toArray, List.getElem_cons_succ, List.getElem_cons_zero, Act.put, List.setIfInBounds_toArray, List.set_cons_zero, List.set_cons_succ])); (refine wpAnyH_take (i := 1) (v := ?_) rfl (by kernel_rfl) (by kernel_rfl) (by kernel_rfl) (fun _ _ _ h => h) (Or.inl ⟨by kernel_rfl, ?_⟩) (by assumption) ?_; rotate_left; focus (intro w hSw; (try dsimp only at hSw); go_simp; try with_reducible rfl); (try simp only [List.getElem_toArray, List.getElem_cons_succ, List.getElem_cons_zero, Act.put, List.setIfInBounds_toArray, List.set_cons_zero, List.set_cons_succ])); (refine wpAnyH_take (i := 2) (v := ?_) rfl (by kernel_rfl) (by kernel_rfl) (by kernel_rfl) (fun _ _ _ h => h) (Or.inl ⟨by kernel_rfl, ?_⟩) (by assumption) ?_; rotate_left; focus (intro w hSw; (try dsimp only at hSw); go_simp; try with_reducible rfl); (try simp only [List.getElem_toArray, List.getElem_cons_succ, List.getElem_cons_zero, Act.put, List.setIfInBounds_toArray, List.set_cons_zero, List.set_cons_succ])); (refine wpAnyH_take (i := 5) (v := ?_) rfl (by kernel_rfl) (by kernel_rfl) (by kernel_rfl) (fun _ _ _ h => h) (Or.inl ⟨by kernel_rfl, ?_⟩) (by assumption) ?_; rotate_left; focus (intro w hSw; (try dsimp only at hSw); go_simp; try with_reducible rfl); (try simp only [List.getElem_toArray, List.getElem_cons_succ, List.getElem_cons_zero, Act.put, List.setIfInBounds_toArray, List.set_cons_zero, List.set_cons_succ])); (refine wpAnyH_take (i := 6) (v := ?_) rfl (by kernel_rfl) (by kernel_rfl) (by kernel_rfl) (fun _ _ _ h => h) (Or.inl ⟨by kernel_rfl, ?_⟩) (by assumption) ?_; rotate_left; focus (intro w hSw; (try dsimp only at hSw); go_simp; try with_reducible rfl); (try simp only [List.getElem_toArray, List.getElem_cons_succ, List.getElem_cons_zero, Act.put, List.setIfInBounds_toArray, List.set_cons_zero, List.set_cons_succ])); (refine wpAnyH_take (i := 10) (v := ?_) rfl (by kernel_rfl) (by kernel_rfl) (by kernel_rfl) (fun _ _ _ h => h) (Or.inl ⟨by kernel_rfl, ?_⟩) (by assumption) ?_; rotate_left; focus (intro w hSw; (try dsimp only at hSw); go_simp; try with_reducible rfl); (try simp only [List.getElem_toArray, List.getElem_cons_succ, List.getElem_cons_zero, Act.put, List.setIfInBounds_toArray, List.set_cons_zero, List.set_cons_succ])); (refine wpAnyH_take (i := 11) (v := ?_) rfl (by kernel_rfl) (by kernel_rfl) (by kernel_rfl) (fun _ _ _ h => h) (Or.inl ⟨by kernel_rfl, ?_⟩) (by assumption) ?_; rotate_left; focus (intro w hSw; (try dsimp only at hSw); go_simp; try with_reducible rfl); (try simp only [List.getElem_toArray, List.getElem_cons_succ, List.getElem_cons_zero, Act.put, List.setIfInBounds_toArray, List.set_cons_zero, List.set_cons_succ]))
        refine wpAnyH_ready (rs := [3]) (by kernel_rfl) (by simp) ?_; refine AllReadyH.cons rfl (fun K hK => ?_) AllReadyH.nil
        go_simp
        go_at_call 113
        refine (IH.out.1 _).mono ?_; rintro e w' ⟨rfl, bd⟩
        have KS := Lib.hid (bx_keepP bd hHeld); clear hHeld bd
        go_wp2_with fail
        refine hK.out _ _ KS.out (fun hHeld => ?_)
        clear hK K KS
        (try simp only [List.getElem_toArray, List.getElem_cons_succ, List.getElem_cons_zero, Act.put, List.setIfInBounds_toArray, List.set_cons_zero, List.set_cons_succ])
        (refine wpAnyH_take (i := 4) (v := ?_) rfl (by kernel_rfl) (by kernel_rfl) (by kernel_rfl) (fun _ _ _ h => h) (Or.inl ⟨by kernel_rfl, ?_⟩) (by assumption) ?_; rotate_left; focus (intro w hSw; (try dsimp only at hSw); go_simp; try with_reducible rfl); (try simp only [List.getElem_toArray, List.getElem_cons_succ, List.getElem_cons_zero, Act.put, List.setIfInBounds_toArray, List.set_cons_zero, List.set_cons_succ]))
        refine wpAnyH_ready (rs := [7]) (by kernel_rfl) (by simp) ?_; refine AllReadyH.cons rfl (fun K hK => ?_) AllReadyH.nil
        go_simp
        go_at_call 113
        refine (IH.out.2.1 _).mono ?_; rintro e w' ⟨rfl, bd⟩
        have KS := Lib.hid (bx_keepP bd hHeld); clear hHeld bd
        go_wp2_with fail
        refine hK.out _ _ KS.out (fun hHeld => ?_)
        clear hK K KS
        (try simp only [List.getElem_toArray, List.getElem_cons_succ, List.getElem_cons_zero, Act.put, List.setIfInBounds_toArray, List.set_cons_zero, List.set_cons_succ])
        (refine wpAnyH_take (i := 8) (v := ?_) rfl (by kernel_rfl) (by kernel_rfl) (by kernel_rfl) (fun _ _ _ h => h) (Or.inl ⟨by kernel_rfl, ?_⟩) (by assumption) ?_; rotate_left; focus (intro w hSw; (try dsimp only at hSw); go_simp; try with_reducible rfl); (try simp only [List.getElem_toArray, List.getElem_cons_succ, List.getElem_cons_zero, Act.put, List.setIfInBounds_toArray, List.set_cons_zero, List.set_cons_succ])); (refine wpAnyH_take (i := 9) (v := ?_) rfl (by kernel_rfl) (by kernel_rfl) (by kernel_rfl) (fun _ _ _ h => h) (Or.inl ⟨by kernel_rfl, ?_⟩) (by assumption) ?_; rotate_left; focus (intro w hSw; (try dsimp only at hSw); go_simp; try with_reducible rfl); (try simp only [List.getElem_toArray, List.getElem_cons_succ, List.getElem_cons_zero, Act.put, List.setIfInBounds_toArray, List.set_cons_zero, List.set_cons_succ]))
        refine wpAnyH_ready (rs := [12]) (by kernel_rfl) (by simp) ?_; refine AllReadyH.cons rfl (fun K hK => ?_) AllReadyH.nil
        go_simp
        go_at_call 113
        refine (IH.out.2.2 _).mono ?_; rintro e w' ⟨rfl, bd⟩
        have KS := Lib.hid (bx_keepP bd hHeld); clear hHeld bd
        go_wp2_with fail
        refine hK.out _ _ KS.out (fun hHeld => ?_)
        clear hK K KS
        (try simp only [List.getElem_toArray, List.getElem_cons_succ, List.getElem_cons_zero, Act.put, List.setIfInBounds_toArray, List.set_cons_zero, List.set_cons_succ])
        (refine wpAnyH_take (i := 13) (v := ?_) rfl (by kernel_rfl) (by kernel_rfl) (by kernel_rfl) (fun _ _ _ h => h) (Or.inl ⟨by kernel_rfl, ?_⟩) (by assumption) ?_; rotate_left; focus (intro w hSw; (try dsimp only at hSw); go_simp; try with_reducible rfl); (try simp only [List.getElem_toArray, List.getElem_cons_succ, List.getElem_cons_zero, Act.put, List.setIfInBounds_toArray, List.set_cons_zero, List.set_cons_succ])); (refine wpAnyH_take (i := 14) (v := ?_) rfl (by kernel_rfl) (by kernel_rfl) (by kernel_rfl) (fun _ _ _ h => h) (Or.inl ⟨by kernel_rfl, ?_⟩) (by assumption) ?_; rotate_left; focus (intro w hSw; (try dsimp only at hSw); go_simp; try with_reducible rfl); (try simp only [List.getElem_toArray, List.getElem_cons_succ, List.getElem_cons_zero, Act.put, List.setIfInBounds_toArray, List.set_cons_zero, List.set_cons_succ])); (refine wpAnyH_take (i := 15) (v := ?_) rfl (by kernel_rfl) (by kernel_rfl) (by kernel_rfl) (fun _ _ _ h => h) (Or.inl ⟨by kernel_rfl, ?_⟩) (by assumption) ?_; rotate_left; focus (intro w hSw; (try dsimp only at hSw); go_simp; try with_reducible rfl); (try simp only [List.getElem_toArray, List.getElem_cons_succ, List.getElem_cons_zero, Act.put, List.setIfInBounds_toArray, List.set_cons_zero, List.set_cons_succ]))
        refine wpAnyH_done (by kernel_rfl) ?_ _
        have HK := Lib.hid hHeld.2.2.2.2; clear hHeld
        go_wp2_with fail
        go_roundw
        case rel => exact ⟨0 + 1, by go_num, by omega, by rw [HST.out]; simp, HK⟩
        case measure => simp [intOf]; omega
      · have hk1 : (0 : Int) < (k : Int) := by omega
        have a7 := fun W => addLP (HT ++ clsT (l.take k)) [44] (by simp only [List.length_append]; omega) (by simp) W
        have a8 := fun W => addLP ((HT ++ clsT (l.take k)) ++ [44]) T6 (by simp only [List.length_append, List.length_cons, List.length_nil]; omega) (by omega) W
        have hfin : ((HT ++ clsT (l.take k)) ++ [44]) ++ T6 = HT ++ (clsT (l.take k) ++ [44] ++ T6) := by simp
        have HF := Lib.hid hfin; clear hfin
        generalize hP2 : (HT ++ clsT (l.take k)) ++ [44] = P2 at *
        generalize hP1 : HT ++ clsT (l.take k) = P1 at *
        clear hP1 hP2
        go_wp2_with fail
        clear c0 c1 c2
        generalize wr.alloc (.cells #[.int .i64 n0, .int .i64 n1, .int .i64 n2] 75) = X at *
        generalize wr.heap.size = B at *
        refine wp_region_held_drew (S := fun w' => w'.cell? ⟨B, 0, none⟩ = some (.int .i64 n0) ∧ w'.cell? ⟨B, 1, none⟩ = some (.int .i64 n1) ∧ w'.cell? ⟨B, 2, none⟩ = some (.int .i64 n2) ∧ B < w'.heap.size ∧ Below w.heap.size w w') (by kernel_rfl) ⟨HS.out.1, HS.out.2.1, HS.out.2.2.1, HS.out.2.2.2.1, Below.drew HS.out.2.2.2.2⟩ (fun hHeld => ?_)
        (refine wpAnyH_take (i := 0) (v := ?_) rfl (by kernel_rfl) (by kernel_rfl) (by kernel_rfl) (fun _ _ _ h => h) (Or.inl ⟨by kernel_rfl, ?_⟩) (by assumption) ?_; rotate_left; focus (intro w hSw; (try dsimp only at hSw); go_simp; try with_reducible rfl); (try simp only [List.getElem_toArray, List.getElem_cons_succ, List.getElem_cons_zero, Act.put, List.setIfInBounds_toArray, List.set_cons_zero, List.set_cons_succ])); (refine wpAnyH_take (i := 1) (v := ?_) rfl (by kernel_rfl) (by kernel_rfl) (by kernel_rfl) (fun _ _ _ h => h) (Or.inl ⟨by kernel_rfl, ?_⟩) (by assumption) ?_; rotate_left; focus (intro w hSw; (try dsimp only at hSw); go_simp; try with_reducible rfl); (try simp only [List.getElem_toArray, List.getElem_cons_succ, List.getElem_cons_zero, Act.put, List.setIfInBounds_toArray, List.set_cons_zero, List.set_cons_succ])); (refine wpAnyH_take (i := 2) (v := ?_) rfl (by kernel_rfl) (by kernel_rfl) (by kernel_rfl) (fun _ _ _ h => h) (Or.inl ⟨by kernel_rfl, ?_⟩) (by assumption) ?_; rotate_left; focus (intro w hSw; (try dsimp only at hSw); go_simp; try with_reducible rfl); (try simp only [List.getElem_toArray, List.getElem_cons_succ, List.getElem_cons_zero, Act.put, List.setIfInBounds_toArray, List.set_cons_zero, List.set_cons_succ])); (refine wpAnyH_take (i := 5) (v := ?_) rfl (by kernel_rfl) (by kernel_rfl) (by kernel_rfl) (fun _ _ _ h => h) (Or.inl ⟨by kernel_rfl, ?_⟩) (by assumption) ?_; rotate_left; focus (intro w hSw; (try dsimp only at hSw); go_simp; try with_reducible rfl); (try simp only [List.getElem_toArray, List.getElem_cons_succ, List.getElem_cons_zero, Act.put, List.setIfInBounds_toArray, List.set_cons_zero, List.set_cons_succ])); (refine wpAnyH_take (i := 6) (v := ?_) rfl (by kernel_rfl) (by kernel_rfl) (by kernel_rfl) (fun _ _ _ h => h) (Or.inl ⟨by kernel_rfl, ?_⟩) (by assumption) ?_; rotate_left; focus (intro w hSw; (try dsimp only at hSw); go_simp; try with_reducible rfl); (try simp only [List.getElem_toArray, List.getElem_cons_succ, List.getElem_cons_zero, Act.put, List.setIfInBounds_toArray, List.set_cons_zero, List.set_cons_succ])); (refine wpAnyH_take (i := 10) (v := ?_) rfl (by kernel_rfl) (by kernel_rfl) (by kernel_rfl) (fun _ _ _ h => h) (Or.inl ⟨by kernel_rfl, ?_⟩) (by assumption) ?_; rotate_left; focus (intro w hSw; (try dsimp only at hSw); go_simp; try with_reducible rfl); (try simp only [List.getElem_toArray, List.getElem_cons_succ, List.getElem_cons_zero, Act.put, List.setIfInBounds_toArray, List.set_cons_zero, List.set_cons_succ])); (refine wpAnyH_take (i := 11) (v := ?_) rfl (by kernel_rfl) (by kernel_rfl) (by kernel_rfl) (fun _ _ _ h => h) (Or.inl ⟨by kernel_rfl, ?_⟩) (by assumption) ?_; rotate_left; focus (intro w hSw; (try dsimp only at hSw); go_simp; try with_reducible rfl); (try simp only [List.getElem_toArray, List.getElem_cons_succ, List.getElem_cons_zero, Act.put, List.setIfInBounds_toArray, List.set_cons_zero, List.set_cons_succ]))
        refine wpAnyH_ready (rs := [3]) (by kernel_rfl) (by simp) ?_; refine AllReadyH.cons rfl (fun K hK => ?_) AllReadyH.nil
        go_simp
        go_at_call 113
        refine (IH.out.1 _).mono ?_; rintro e w' ⟨rfl, bd⟩
        have KS := Lib.hid (bx_keepP bd hHeld); clear hHeld bd
        go_wp2_with fail
        refine hK.out _ _ KS.out (fun hHeld => ?_)
        clear hK K KS
        (try simp only [List.getElem_toArray, List.getElem_cons_succ, List.getElem_cons_zero, Act.put, List.setIfInBounds_toArray, List.set_cons_zero, List.set_cons_succ])
        (refine wpAnyH_take (i := 4) (v := ?_) rfl (by kernel_rfl) (by kernel_rfl) (by kernel_rfl) (fun _ _ _ h => h) (Or.inl ⟨by kernel_rfl, ?_⟩) (by assumption) ?_; rotate_left; focus (intro w hSw; (try dsimp only at hSw); go_simp; try with_reducible rfl); (try simp only [List.getElem_toArray, List.getElem_cons_succ, List.getElem_cons_zero, Act.put, List.setIfInBounds_toArray, List.set_cons_zero, List.set_cons_succ]))
        refine wpAnyH_ready (rs := [7]) (by kernel_rfl) (by simp) ?_; refine AllReadyH.cons rfl (fun K hK => ?_) AllReadyH.nil
        go_simp
        go_at_call 113
        refine (IH.out.2.1 _).mono ?_; rintro e w' ⟨rfl, bd⟩
        have KS := Lib.hid (bx_keepP bd hHeld); clear hHeld bd
        go_wp2_with fail
        refine hK.out _ _ KS.out (fun hHeld => ?_)
        clear hK K KS
        (try simp only [List.getElem_toArray, List.getElem_cons_succ, List.getElem_cons_zero, Act.put, List.setIfInBounds_toArray, List.set_cons_zero, List.set_cons_succ])
        (refine wpAnyH_take (i := 8) (v := ?_) rfl (by kernel_rfl) (by kernel_rfl) (by kernel_rfl) (fun _ _ _ h => h) (Or.inl ⟨by kernel_rfl, ?_⟩) (by assumption) ?_; rotate_left; focus (intro w hSw; (try dsimp only at hSw); go_simp; try with_reducible rfl); (try simp only [List.getElem_toArray, List.getElem_cons_succ, List.getElem_cons_zero, Act.put, List.setIfInBounds_toArray, List.set_cons_zero, List.set_cons_succ])); (refine wpAnyH_take (i := 9) (v := ?_) rfl (by kernel_rfl) (by kernel_rfl) (by kernel_rfl) (fun _ _ _ h => h) (Or.inl ⟨by kernel_rfl, ?_⟩) (by assumption) ?_; rotate_left; focus (intro w hSw; (try dsimp only at hSw); go_simp; try with_reducible rfl); (try simp only [List.getElem_toArray, List.getElem_cons_succ, List.getElem_cons_zero, Act.put, List.setIfInBounds_toArray, List.set_cons_zero, List.set_cons_succ]))
        refine wpAnyH_ready (rs := [12]) (by kernel_rfl) (by simp) ?_; refine AllReadyH.cons rfl (fun K hK => ?_) AllReadyH.nil
        go_simp
        go_at_call 113
        refine (IH.out.2.2 _).mono ?_; rintro e w' ⟨rfl, bd⟩
        have KS := Lib.hid (bx_keepP bd hHeld); clear hHeld bd
        go_wp2_with fail
        refine hK.out _ _ KS.out (fun hHeld => ?_)
        clear hK K KS
        (try simp only [List.getElem_toArray, List.getElem_cons_succ, List.getElem_cons_zero, Act.put, List.setIfInBounds_toArray, List.set_cons_zero, List.set_cons_succ])
        (refine wpAnyH_take (i := 13) (v := ?_) rfl (by kernel_rfl) (by kernel_rfl) (by kernel_rfl) (fun _ _ _ h => h) (Or.inl ⟨by kernel_rfl, ?_⟩) (by assumption) ?_; rotate_left; focus (intro w hSw; (try dsimp only at hSw); go_simp; try with_reducible rfl); (try simp only [List.getElem_toArray, List.getElem_cons_succ, List.getElem_cons_zero, Act.put, List.setIfInBounds_toArray, List.set_cons_zero, List.set_cons_succ])); (refine wpAnyH_take (i := 14) (v := ?_) rfl (by kernel_rfl) (by kernel_rfl) (by kernel_rfl) (fun _ _ _ h => h) (Or.inl ⟨by kernel_rfl, ?_⟩) (by assumption) ?_; rotate_left; focus (intro w hSw; (try dsimp only at hSw); go_simp; try with_reducible rfl); (try simp only [List.getElem_toArray, List.getElem_cons_succ, List.getElem_cons_zero, Act.put, List.setIfInBounds_toArray, List.set_cons_zero, List.set_cons_succ])); (refine wpAnyH_take (i := 15) (v := ?_) rfl (by kernel_rfl) (by kernel_rfl) (by kernel_rfl) (fun _ _ _ h => h) (Or.inl ⟨by kernel_rfl, ?_⟩) (by assumption) ?_; rotate_left; focus (intro w hSw; (try dsimp only at hSw); go_simp; try with_reducible rfl); (try simp only [List.getElem_toArray, List.getElem_cons_succ, List.getElem_cons_zero, Act.put, List.setIfInBounds_toArray, List.set_cons_zero, List.set_cons_succ]))
        refine wpAnyH_done (by kernel_rfl) ?_ _
        have HK := Lib.hid hHeld.2.2.2.2; clear hHeld
        go_wp2_with fail
        go_roundw
        case rel => exact ⟨k + 1, by go_num, by omega, by rw [HST.out, if_neg h0, ← HF.out], HK⟩
        case measure => simp [intOf]; omega
    · obtain rfl : k = l.length := by omega
      rw [List.take_length] at *
      go_wp2_with fail
      go_ret
      exact ⟨rfl, hH.out⟩
end Go.Proofs.YtbgdngfjeikheaaDoor
