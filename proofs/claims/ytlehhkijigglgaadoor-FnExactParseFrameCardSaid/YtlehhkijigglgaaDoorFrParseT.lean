/-
  Frames are read back: the model's walk.
-/
import Derived.Test.YtlehhkijigglgaaDoorFrParse
import Derived.Deep.RegionWith
import Derived.IntWalk
namespace Go.Proofs.YtlehhkijigglgaaDoor
open Go.RowKit
set_option linter.unusedVariables false

theorem beq99 (c : UInt8) : ((c.toNat : Int) == 99) = decide (c = 99) := by
  rw [Bool.eq_iff_iff]; simp only [beq_iff_eq, decide_eq_true_eq]
  constructor
  · intro h
    have h2 : c.toNat = (99 : UInt8).toNat := by simp; omega
    exact UInt8.toNat_inj.1 h2
  · intro h; rw [h]; rfl

/-- What the regions ask, of a text of 3 or 4 bytes. -/
theorem parse_facts (s : ByteArray) (k : Nat) (hk : s.size = k + 2) (h1 : 1 ≤ k) (h2 : k ≤ 2) :
    ∃ (A B : ByteArray) (c : UInt8), (∀ W : World, (Instr.slice 9 (.string s) none (some (.int .i64 (k : Int))) none).run Tryd.prog W = .ok (.string A) W) ∧
      (∀ W : World, (Instr.slice 9 (.string s) (some (.int .i64 ((k : Int) + 1))) none none).run Tryd.prog W = .ok (.string B) W) ∧
      (∀ W : World, (Instr.index 9 (.string s) (.int .i64 (k : Int))).run Tryd.prog W = .ok (.int .u8 (c.toNat : Int)) W) ∧
      ((c.toNat : Int) == 99) = pC s.data.toList ∧ readL A.data.toList = pR s.data.toList ∧ readL B.data.toList = pL s.data.toList ∧ (A.size : Int) ≤ 10 ∧ (B.size : Int) ≤ 10 := by
  have hl : s.data.toList.length = k + 2 := by rw [rlen, hk]
  refine ⟨s.extract 0 k, s.extract (k + 1) s.size, s[k]'(by omega), fun W => ?_, fun W => ?_, rindex s k (by omega), ?_, ?_, ?_, ?_, ?_⟩
  · have := run_slice_string_h (P := Tryd.prog) W 9 s Tryd.underlying9 .i64 (k : Int) (by omega) (by omega)
    rw [this, show ((k : Int)).toNat = k from by omega]
  · rw [run_slice_string_from_if W _ _ _ _ Tryd.underlying9, if_pos (by omega), show ((k : Int) + 1).toNat = k + 1 from by omega]
  · rw [beq99]; unfold pC
    rw [hl, show k + 2 - 2 = k from by omega]
    have : s.data.toList[k]? = some (s[k]'(by omega)) := by
      have h := rdrop_cons s k (by omega)
      rw [← List.head?_drop, h]; rfl
    rw [this]; simp
  · unfold pR; rw [hl, show k + 2 - 2 = k from by omega, Lib.extract_data]; simp
  · unfold pL; rw [hl, show k + 2 - 1 = k + 1 from by omega, Lib.extract_data, hk]; congr 1; apply List.take_of_length_le; simp; omega
  · rw [ByteArray.size_extract]; omega
  · rw [ByteArray.size_extract]; omega

theorem anyH_mono {P : Program} {md : Region.Mode} {ops : Array Oper} {Q : Exit → Act → World → Prop} {S S2 : World → Prop} (hS : ∀ w, S2 w → S w) :
    ∀ (fuel : Nat) (listed : Array Bool) (a : Act) (w : World), wpAnyH P md ops Q S2 fuel listed a w → wpAnyH P md ops Q S fuel listed a w
  | 0, _, _, _, h => h
  | fuel + 1, _, _, _, h => ⟨h.1, fun i hi => wpOp_mono (fun a w hk => ⟨hS w hk.1, anyH_mono hS fuel _ a w hk.2⟩) (h.2 i hi)⟩

def ParR0 (w : World) (b : Nat) (r : Int) (c : Bool) (l : Int) (Y : World) : Prop := FrAt Y b r c l ∧ (∃ r' c' l', FrAt Y w.heap.size r' c' l') ∧ Below w.heap.size w Y
def ParR2 (w : World) (b : Nat) (r : Int) (c : Bool) (l : Int) (Y : World) : Prop := FrAt Y b r c l ∧ FrAt Y w.heap.size r c l ∧ Below w.heap.size w Y
theorem r0_of {w Y : World} {b : Nat} {r : Int} {c : Bool} {l : Int} (h : ParR0 w b r c l Y) : Y.cell? ⟨b, 0, none⟩ = some (.int .i64 r) ∧ Y.cell? ⟨b, 1, none⟩ = some (.bool c) ∧ Y.cell? ⟨b, 2, none⟩ = some (.int .i64 l) ∧ ParR0 w b r c l Y :=
  ⟨h.1.cells.1, h.1.cells.2.1, h.1.cells.2.2.1, h⟩
theorem r2_of {w Y : World} {b : Nat} {r : Int} {c : Bool} {l : Int} (h : ParR2 w b r c l Y) : Y.cell? ⟨b, 0, none⟩ = some (.int .i64 r) ∧ Y.cell? ⟨b, 1, none⟩ = some (.bool c) ∧ Y.cell? ⟨b, 2, none⟩ = some (.int .i64 l) ∧ ParR2 w b r c l Y :=
  ⟨h.1.cells.1, h.1.cells.2.1, h.1.cells.2.2.1, h⟩
theorem r0_keep {w Y Z : World} {b : Nat} {r : Int} {c : Bool} {l : Int} (bd : Below Y.heap.size Y Z) (h : ParR0 w b r c l Y) : ParR0 w b r c l Z := by
  obtain ⟨h1, ⟨r', c', l', h2⟩, h3⟩ := h
  exact ⟨h1.keep bd, ⟨r', c', l', h2.keep bd⟩, h3.trans (bd.mono (Nat.le_of_lt h2.lt))⟩
theorem r2_keep {w Y Z : World} {b : Nat} {r : Int} {c : Bool} {l : Int} (bd : Below Y.heap.size Y Z) (h : ParR2 w b r c l Y) : ParR2 w b r c l Z :=
  ⟨h.1.keep bd, h.2.1.keep bd, h.2.2.trans (bd.mono (Nat.le_of_lt h.2.1.lt))⟩
theorem r2_weak {w Y : World} {b : Nat} {r : Int} {c : Bool} {l : Int} (h : ParR2 w b r c l Y) : ParR0 w b r c l Y := ⟨h.1, ⟨_, _, _, h.2.1⟩, h.2.2⟩
theorem r0_put {w Y : World} {b : Nat} {r : Int} {c : Bool} {l : Int} (hne : b ≠ w.heap.size) (h : ParR0 w b r c l Y) :
    ParR2 w b r c l (((Y.setCell ⟨w.heap.size, 0, none⟩ (.int .i64 r)).setCell ⟨w.heap.size, 1, none⟩ (.bool c)).setCell ⟨w.heap.size, 2, none⟩ (.int .i64 l)) := by
  obtain ⟨h1, ⟨r', c', l', h2⟩, h3⟩ := h
  exact ⟨((h1.other hne _).other hne _).other hne _, h2.stored r c l,
    ((h3.setCell (p := ⟨w.heap.size, 0, none⟩) (Nat.le_refl _) _).setCell (p := ⟨w.heap.size, 1, none⟩) (Nat.le_refl _) _).setCell (p := ⟨w.heap.size, 2, none⟩) (Nat.le_refl _) _⟩

set_option maxHeartbeats 3200000 in
set_option maxRecDepth 100000 in
theorem frParse_bad (s : ByteArray) (k : Nat) (hk : s.size = k + 2) (h1 : 1 ≤ k) (h2 : k ≤ 2) (hbad : frG (pR s.data.toList) (pC s.data.toList) (pL s.data.toList) = false) (w : World) :
    Calls Tryd.prog 86 #[.string s] w fun e w' => e = .returned (.tuple #[frW (pR s.data.toList) (pC s.data.toList) (pL s.data.toList), .bool false]) ∧ Below w.heap.size w w' := by
  obtain ⟨A, B, c, hs1, hs2, hix, hc, hrA, hrB, hzA, hzB⟩ := parse_facts s k hk h1 h2
  have hcA := l1Read_any A (by omega)
  have hcB := l1Read_any B (by omega)
  rw [hrA] at hcA
  rw [hrB] at hcB
  have HC := Lib.hid (And.intro hcA hcB); clear hcA hcB hrA hrB hzA hzB
  have HI := Lib.hid (show inR (s.size : Int) 3 4 = true by unfold inR; simp; omega)
  have hsz : (s.size : Int) = (k : Int) + 2 := by omega
  have hk2 : (k : Int) ≤ 2 := by omega
  have hw : IntKind.i64.wrap ((k : Int) + 1) = (k : Int) + 1 := IntWalk.i64_in _ (by omega)
  have HG := Lib.hid hbad; clear hbad
  have HK := Lib.hid hk; clear hk h1 h2
  generalize hPR : pR s.data.toList = r at *
  generalize hPC : pC s.data.toList = cc at *
  generalize hPL : pL s.data.toList = l at *
  go_enter Tryd.func86, Tryd.ntmps86
  go_wp2_with fail
  refine (l1In_any _ _ _ _).mono ?_; rintro e w' ⟨rfl, rfl⟩
  rw [hsz] at HI
  rw [HI.out]
  have tA := FrAt.new w 0 false 0
  have zA := tA.lt
  have B0 := (Below.refl w.heap.size w).alloc (Nat.le_refl _) (.cells #[.int .i64 0, .bool false, .int .i64 0] 26)
  obtain ⟨y0, y1, y2, x0, x1, x2⟩ := tA.cells
  generalize w.alloc (.cells #[.int .i64 0, .bool false, .int .i64 0] 26) = X at *
  go_wp2_with fail
  rename_i Q0 K0 a0
  have hrest : Exit.then K0 Q0 Exit.normal { tmps := #[.string s, undef, .pointer (some ⟨w.heap.size, 0, none⟩), .bool false, .int .i64 k, .pointer (some ⟨X.heap.size, 0, none⟩), .string s, .int .i64 ((k : Int) + 2), .bool true, .bool false, undef, .string s, .int .i64 ((k : Int) + 2), .int .i64 k, .string s, .int .i64 k, .string A, .int .i64 r, .string s, .int .i64 k, .int .u8 (c.toNat : Int), .bool cc, .string s, .int .i64 k, .int .i64 ((k : Int) + 1), .string B, .int .i64 l, .agg #[.int .i64 r, .bool cc, .int .i64 l], undef, undef, undef, undef, undef, undef, undef, undef, undef], defers := [] } (X.alloc (.cells #[.int .i64 r, .bool cc, .int .i64 l] 26)).drew := by
    have tN : FrAt (X.alloc (.cells #[.int .i64 r, .bool cc, .int .i64 l] 26)).drew X.heap.size r cc l := (FrAt.new X r cc l).drew
    have tG : FrAt (X.alloc (.cells #[.int .i64 r, .bool cc, .int .i64 l] 26)).drew w.heap.size 0 false 0 := (tA.old _).drew
    have B1 := (B0.alloc (Nat.le_of_lt zA) (.cells #[.int .i64 r, .bool cc, .int .i64 l] 26)).drew
    clear tA B0 y0 y1 y2 x0 x1 x2
    generalize (X.alloc (.cells #[.int .i64 r, .bool cc, .int .i64 l] 26)).drew = Y at *
    generalize X.heap.size = b at *
    have hne : b ≠ w.heap.size := by omega
    have hr0 := r0_of (⟨tN.drew, ⟨_, _, _, tG.drew⟩, B1.drew⟩ : ParR0 w b r cc l Y.drew)
    clear tN tG B1
    have HR0 := Lib.hid hr0; clear hr0
    go_wp2_with fail
    refine wp_region_held_drew (S := (fun w' => w'.cell? ⟨b, 0, none⟩ = some (.int .i64 r) ∧ w'.cell? ⟨b, 1, none⟩ = some (.bool cc) ∧ w'.cell? ⟨b, 2, none⟩ = some (.int .i64 l) ∧ ParR0 w b r cc l w')) (by kernel_rfl) HR0.out (fun hHeld => ?_)
    clear HR0
    generalize Y.drew = Z at *
    (refine wpAnyH_take (i := 0) (v := ?_) rfl (by kernel_rfl) (by kernel_rfl) (by kernel_rfl) (fun _ _ _ h => h) (Or.inl ⟨by kernel_rfl, ?_⟩) (by assumption) ?_; rotate_left; focus (intro w hSw; (try dsimp only at hSw); go_simp; try with_reducible rfl); (try simp only [List.getElem_toArray, List.getElem_cons_succ, List.getElem_cons_zero, Act.put, List.setIfInBounds_toArray, List.set_cons_zero, List.set_cons_succ])); (refine wpAnyH_take (i := 1) (v := ?_) rfl (by kernel_rfl) (by kernel_rfl) (by kernel_rfl) (fun _ _ _ h => h) (Or.inl ⟨by kernel_rfl, ?_⟩) (by assumption) ?_; rotate_left; focus (intro w hSw; (try dsimp only at hSw); go_simp; try with_reducible rfl); (try simp only [List.getElem_toArray, List.getElem_cons_succ, List.getElem_cons_zero, Act.put, List.setIfInBounds_toArray, List.set_cons_zero, List.set_cons_succ]))
    refine wpAnyH_ready (rs := [2]) (by kernel_rfl) (by simp) (AllReadyH.cons rfl (fun K hK => ?_) AllReadyH.nil)
    have HS := Lib.hid hHeld.2.2.2; clear hHeld
    go_simp
    go_at_call 60
    refine (frGood_any _ _ _ _).mono ?_; rintro e w' ⟨rfl, bd⟩
    rw [HG.out]
    have KS := Lib.hid (r0_of (r0_keep bd HS.out)); clear HS bd
    go_wp2_with fail
    refine hK.out _ _ KS.out (fun hHeld => ?_)
    clear hK K KS
    (try simp only [List.getElem_toArray, List.getElem_cons_succ, List.getElem_cons_zero, Act.put, List.setIfInBounds_toArray, List.set_cons_zero, List.set_cons_succ])
    (refine wpAnyH_take (i := 3) (v := ?_) rfl (by kernel_rfl) (by kernel_rfl) (by kernel_rfl) (fun _ _ _ h => h) (Or.inl ⟨by kernel_rfl, ?_⟩) (by assumption) ?_; rotate_left; focus (intro w hSw; (try dsimp only at hSw); go_simp; try with_reducible rfl); (try simp only [List.getElem_toArray, List.getElem_cons_succ, List.getElem_cons_zero, Act.put, List.setIfInBounds_toArray, List.set_cons_zero, List.set_cons_succ]))
    (refine wpAnyH_take (i := 4) (v := undef) rfl (by kernel_rfl) (by kernel_rfl) (by kernel_rfl) (fun _ _ _ h => h) (Or.inr ⟨by kernel_rfl, rfl⟩) (by assumption) ?_; (try simp only [List.getElem_toArray, List.getElem_cons_succ, List.getElem_cons_zero, Act.put, List.setIfInBounds_toArray, List.set_cons_zero, List.set_cons_succ])); (refine wpAnyH_take (i := 5) (v := undef) rfl (by kernel_rfl) (by kernel_rfl) (by kernel_rfl) (fun _ _ _ h => h) (Or.inr ⟨by kernel_rfl, rfl⟩) (by assumption) ?_; (try simp only [List.getElem_toArray, List.getElem_cons_succ, List.getElem_cons_zero, Act.put, List.setIfInBounds_toArray, List.set_cons_zero, List.set_cons_succ])); (refine wpAnyH_take (i := 6) (v := undef) rfl (by kernel_rfl) (by kernel_rfl) (by kernel_rfl) (fun _ _ _ h => h) (Or.inr ⟨by kernel_rfl, rfl⟩) (by assumption) ?_; (try simp only [List.getElem_toArray, List.getElem_cons_succ, List.getElem_cons_zero, Act.put, List.setIfInBounds_toArray, List.set_cons_zero, List.set_cons_succ])); (refine wpAnyH_take (i := 7) (v := undef) rfl (by kernel_rfl) (by kernel_rfl) (by kernel_rfl) (fun _ _ _ h => h) (Or.inr ⟨by kernel_rfl, rfl⟩) (by assumption) ?_; (try simp only [List.getElem_toArray, List.getElem_cons_succ, List.getElem_cons_zero, Act.put, List.setIfInBounds_toArray, List.set_cons_zero, List.set_cons_succ]))
    (refine wpAnyH_take (i := 8) (v := ?_) rfl (by kernel_rfl) (by kernel_rfl) (by kernel_rfl) (fun _ _ _ h => h) (Or.inl ⟨by kernel_rfl, ?_⟩) (by assumption) ?_; rotate_left; focus (intro w hSw; (try dsimp only at hSw); go_simp; try with_reducible rfl); (try simp only [List.getElem_toArray, List.getElem_cons_succ, List.getElem_cons_zero, Act.put, List.setIfInBounds_toArray, List.set_cons_zero, List.set_cons_succ]))
    refine wpAnyH_ready (rs := [9]) (by kernel_rfl) (by simp) (AllReadyH.cons rfl (fun K hK => ?_) AllReadyH.nil)
    have HS := Lib.hid hHeld.2.2.2; clear hHeld
    obtain ⟨r1, c1, l1, h2⟩ := HS.out.2.1
    obtain ⟨z0, z1, z2, z3, z4, z5⟩ := h2.cells
    clear h2
    have KS := Lib.hid (r2_of (r0_put hne HS.out)); clear HS
    go_simp
    refine hK.out _ _ (r0_of (r2_weak KS.out.2.2.2)) (fun _ => ?_)
    clear hK K z0 z1 z2 z3 z4 z5
    refine anyH_mono (S2 := (fun w' => w'.cell? ⟨b, 0, none⟩ = some (.int .i64 r) ∧ w'.cell? ⟨b, 1, none⟩ = some (.bool cc) ∧ w'.cell? ⟨b, 2, none⟩ = some (.int .i64 l) ∧ ParR2 w b r cc l w')) (fun _ h => r0_of (r2_weak h.2.2.2)) _ _ _ _ ?_
    have hHeld := KS.out
    clear KS
    (try simp only [List.getElem_toArray, List.getElem_cons_succ, List.getElem_cons_zero, Act.put, List.setIfInBounds_toArray, List.set_cons_zero, List.set_cons_succ])
    (refine wpAnyH_take (i := 10) (v := ?_) rfl (by kernel_rfl) (by kernel_rfl) (by kernel_rfl) (fun _ _ _ h => h) (Or.inl ⟨by kernel_rfl, ?_⟩) (by assumption) ?_; rotate_left; focus (intro w hSw; (try dsimp only at hSw); go_simp; try with_reducible rfl); (try simp only [List.getElem_toArray, List.getElem_cons_succ, List.getElem_cons_zero, Act.put, List.setIfInBounds_toArray, List.set_cons_zero, List.set_cons_succ]))
    refine wpAnyH_done (by kernel_rfl) ?_ _
    have HS := Lib.hid hHeld.2.2.2; clear hHeld
    obtain ⟨z0, z1, z2, -, -, -⟩ := HS.out.2.1.cells
    go_wp2_with fail
    refine bodyPost_ret (v := .tuple #[frW r cc l, .bool false]) (by simp [results, Tryd.results86, go_sem, z0, z1, z2]) rfl ⟨rfl, HS.out.2.2⟩
  have HR := Lib.hid hrest; clear hrest
  refine wp_region_any (by kernel_rfl) ?_
  change wpAny _ _ _ _ _ _ _ X.drew
  (refine wpAny_take (i := 0) (v := ?_) rfl (by kernel_rfl) (by kernel_rfl) (by kernel_rfl) (fun _ _ _ h => h) (Or.inl ⟨by kernel_rfl, ?_⟩) ?_; rotate_left; focus (intro w; go_simp; try with_reducible rfl); (try simp only [List.getElem_toArray, List.getElem_cons_succ, List.getElem_cons_zero, Act.put, List.setIfInBounds_toArray, List.set_cons_zero, List.set_cons_succ])); (refine wpAny_take (i := 1) (v := ?_) rfl (by kernel_rfl) (by kernel_rfl) (by kernel_rfl) (fun _ _ _ h => h) (Or.inl ⟨by kernel_rfl, ?_⟩) ?_; rotate_left; focus (intro w; go_simp; try with_reducible rfl); (try simp only [List.getElem_toArray, List.getElem_cons_succ, List.getElem_cons_zero, Act.put, List.setIfInBounds_toArray, List.set_cons_zero, List.set_cons_succ])); (refine wpAny_take (i := 2) (v := ?_) rfl (by kernel_rfl) (by kernel_rfl) (by kernel_rfl) (fun _ _ _ h => h) (Or.inl ⟨by kernel_rfl, ?_⟩) ?_; rotate_left; focus (intro w; go_simp; try with_reducible rfl); (try simp only [List.getElem_toArray, List.getElem_cons_succ, List.getElem_cons_zero, Act.put, List.setIfInBounds_toArray, List.set_cons_zero, List.set_cons_succ])); (refine wpAny_take (i := 4) (v := ?_) rfl (by kernel_rfl) (by kernel_rfl) (by kernel_rfl) (fun _ _ _ h => h) (Or.inl ⟨by kernel_rfl, ?_⟩) ?_; rotate_left; focus (intro w; go_simp; try with_reducible rfl); (try simp only [List.getElem_toArray, List.getElem_cons_succ, List.getElem_cons_zero, Act.put, List.setIfInBounds_toArray, List.set_cons_zero, List.set_cons_succ])); (refine wpAny_take (i := 5) (v := ?_) rfl (by kernel_rfl) (by kernel_rfl) (by kernel_rfl) (fun _ _ _ h => h) (Or.inl ⟨by kernel_rfl, ?_⟩) ?_; rotate_left; focus (intro w; go_simp; try with_reducible rfl); (try simp only [List.getElem_toArray, List.getElem_cons_succ, List.getElem_cons_zero, Act.put, List.setIfInBounds_toArray, List.set_cons_zero, List.set_cons_succ])); (refine wpAny_take (i := 6) (v := ?_) rfl (by kernel_rfl) (by kernel_rfl) (by kernel_rfl) (fun _ _ _ h => h) (Or.inl ⟨by kernel_rfl, ?_⟩) ?_; rotate_left; focus (intro w; go_simp; try with_reducible rfl); (try simp only [List.getElem_toArray, List.getElem_cons_succ, List.getElem_cons_zero, Act.put, List.setIfInBounds_toArray, List.set_cons_zero, List.set_cons_succ])); (refine wpAny_take (i := 7) (v := ?_) rfl (by kernel_rfl) (by kernel_rfl) (by kernel_rfl) (fun _ _ _ h => h) (Or.inl ⟨by kernel_rfl, ?_⟩) ?_; rotate_left; focus (intro w; go_simp; try with_reducible rfl); (try simp only [List.getElem_toArray, List.getElem_cons_succ, List.getElem_cons_zero, Act.put, List.setIfInBounds_toArray, List.set_cons_zero, List.set_cons_succ])); (refine wpAny_take (i := 8) (v := ?_) rfl (by kernel_rfl) (by kernel_rfl) (by kernel_rfl) (fun _ _ _ h => h) (Or.inl ⟨by kernel_rfl, ?_⟩) ?_; rotate_left; focus (intro w; go_simp; try with_reducible rfl); (try simp only [List.getElem_toArray, List.getElem_cons_succ, List.getElem_cons_zero, Act.put, List.setIfInBounds_toArray, List.set_cons_zero, List.set_cons_succ])); (refine wpAny_take (i := 9) (v := ?_) rfl (by kernel_rfl) (by kernel_rfl) (by kernel_rfl) (fun _ _ _ h => h) (Or.inl ⟨by kernel_rfl, ?_⟩) ?_; rotate_left; focus (intro w; go_simp; try with_reducible rfl); (try simp only [List.getElem_toArray, List.getElem_cons_succ, List.getElem_cons_zero, Act.put, List.setIfInBounds_toArray, List.set_cons_zero, List.set_cons_succ])); (refine wpAny_take (i := 10) (v := ?_) rfl (by kernel_rfl) (by kernel_rfl) (by kernel_rfl) (fun _ _ _ h => h) (Or.inl ⟨by kernel_rfl, ?_⟩) ?_; rotate_left; focus (intro w; go_simp; try with_reducible rfl); (try simp only [List.getElem_toArray, List.getElem_cons_succ, List.getElem_cons_zero, Act.put, List.setIfInBounds_toArray, List.set_cons_zero, List.set_cons_succ])); (refine wpAny_take (i := 11) (v := ?_) rfl (by kernel_rfl) (by kernel_rfl) (by kernel_rfl) (fun _ _ _ h => h) (Or.inl ⟨by kernel_rfl, ?_⟩) ?_; rotate_left; focus (intro w; go_simp; try with_reducible rfl); (try simp only [List.getElem_toArray, List.getElem_cons_succ, List.getElem_cons_zero, Act.put, List.setIfInBounds_toArray, List.set_cons_zero, List.set_cons_succ]))
  refine wpAny_ready (rs := [3, 14]) (by kernel_rfl) (by simp) (AllReady.cons rfl (fun K hK => ?_) (AllReady.cons rfl (fun K hK => ?_) AllReady.nil))
  · have HK := Lib.hid hK; clear hK
    go_simp
    go_at_call 92
    refine (HC.out.1 _).mono ?_; rintro e w' ⟨rfl, rfl⟩
    go_wp2_with fail
    refine HK.out _ _ ?_
    clear HK K
    (try simp only [List.getElem_toArray, List.getElem_cons_succ, List.getElem_cons_zero, Act.put, List.setIfInBounds_toArray, List.set_cons_zero, List.set_cons_succ])
    refine wpAny_ready (rs := [12, 14]) (by kernel_rfl) (by simp) (AllReady.cons rfl (fun K hK => ?_) (AllReady.cons rfl (fun K hK => ?_) AllReady.nil))
    · have HK := Lib.hid hK; clear hK
      go_simp
      go_at_call 92
      refine (HC.out.2 _).mono ?_; rintro e w' ⟨rfl, rfl⟩
      go_wp2_with fail
      refine HK.out _ _ ?_
      clear HK K
      (try simp only [List.getElem_toArray, List.getElem_cons_succ, List.getElem_cons_zero, Act.put, List.setIfInBounds_toArray, List.set_cons_zero, List.set_cons_succ])
      (refine wpAny_take (i := 13) (v := ?_) rfl (by kernel_rfl) (by kernel_rfl) (by kernel_rfl) (fun _ _ _ h => h) (Or.inl ⟨by kernel_rfl, ?_⟩) ?_; rotate_left; focus (intro w; go_simp; try with_reducible rfl); (try simp only [List.getElem_toArray, List.getElem_cons_succ, List.getElem_cons_zero, Act.put, List.setIfInBounds_toArray, List.set_cons_zero, List.set_cons_succ]))
      refine wpAny_ready (rs := [14]) (by kernel_rfl) (by simp) (AllReady.cons rfl (fun K hK => ?_) AllReady.nil)
      have HK := Lib.hid hK; clear hK
      go_simp
      refine HK.out _ _ ?_
      clear HK K
      (try simp only [List.getElem_toArray, List.getElem_cons_succ, List.getElem_cons_zero, Act.put, List.setIfInBounds_toArray, List.set_cons_zero, List.set_cons_succ])
      refine wpAny_ready (rs := [15]) (by kernel_rfl) (by simp) (AllReady.cons rfl (fun K hK => ?_) AllReady.nil)
      have HK := Lib.hid hK; clear hK
      go_simp
      refine HK.out _ _ ?_
      clear HK K
      (try simp only [List.getElem_toArray, List.getElem_cons_succ, List.getElem_cons_zero, Act.put, List.setIfInBounds_toArray, List.set_cons_zero, List.set_cons_succ])
      refine wpAny_done (by kernel_rfl) ?_ _
      exact HR.out
    · have HK := Lib.hid hK; clear hK
      go_simp
      refine HK.out _ _ ?_
      clear HK K
      (try simp only [List.getElem_toArray, List.getElem_cons_succ, List.getElem_cons_zero, Act.put, List.setIfInBounds_toArray, List.set_cons_zero, List.set_cons_succ])
      refine wpAny_ready (rs := [12]) (by kernel_rfl) (by simp) (AllReady.cons rfl (fun K hK => ?_) AllReady.nil)
      have HK := Lib.hid hK; clear hK
      go_simp
      go_at_call 92
      refine (HC.out.2 _).mono ?_; rintro e w' ⟨rfl, rfl⟩
      go_wp2_with fail
      refine HK.out _ _ ?_
      clear HK K
      (try simp only [List.getElem_toArray, List.getElem_cons_succ, List.getElem_cons_zero, Act.put, List.setIfInBounds_toArray, List.set_cons_zero, List.set_cons_succ])
      (refine wpAny_take (i := 13) (v := ?_) rfl (by kernel_rfl) (by kernel_rfl) (by kernel_rfl) (fun _ _ _ h => h) (Or.inl ⟨by kernel_rfl, ?_⟩) ?_; rotate_left; focus (intro w; go_simp; try with_reducible rfl); (try simp only [List.getElem_toArray, List.getElem_cons_succ, List.getElem_cons_zero, Act.put, List.setIfInBounds_toArray, List.set_cons_zero, List.set_cons_succ]))
      refine wpAny_ready (rs := [15]) (by kernel_rfl) (by simp) (AllReady.cons rfl (fun K hK => ?_) AllReady.nil)
      have HK := Lib.hid hK; clear hK
      go_simp
      refine HK.out _ _ ?_
      clear HK K
      (try simp only [List.getElem_toArray, List.getElem_cons_succ, List.getElem_cons_zero, Act.put, List.setIfInBounds_toArray, List.set_cons_zero, List.set_cons_succ])
      refine wpAny_done (by kernel_rfl) ?_ _
      exact HR.out
  · have HK := Lib.hid hK; clear hK
    go_simp
    refine HK.out _ _ ?_
    clear HK K
    (try simp only [List.getElem_toArray, List.getElem_cons_succ, List.getElem_cons_zero, Act.put, List.setIfInBounds_toArray, List.set_cons_zero, List.set_cons_succ])
    refine wpAny_ready (rs := [3]) (by kernel_rfl) (by simp) (AllReady.cons rfl (fun K hK => ?_) AllReady.nil)
    have HK := Lib.hid hK; clear hK
    go_simp
    go_at_call 92
    refine (HC.out.1 _).mono ?_; rintro e w' ⟨rfl, rfl⟩
    go_wp2_with fail
    refine HK.out _ _ ?_
    clear HK K
    (try simp only [List.getElem_toArray, List.getElem_cons_succ, List.getElem_cons_zero, Act.put, List.setIfInBounds_toArray, List.set_cons_zero, List.set_cons_succ])
    refine wpAny_ready (rs := [12]) (by kernel_rfl) (by simp) (AllReady.cons rfl (fun K hK => ?_) AllReady.nil)
    have HK := Lib.hid hK; clear hK
    go_simp
    go_at_call 92
    refine (HC.out.2 _).mono ?_; rintro e w' ⟨rfl, rfl⟩
    go_wp2_with fail
    refine HK.out _ _ ?_
    clear HK K
    (try simp only [List.getElem_toArray, List.getElem_cons_succ, List.getElem_cons_zero, Act.put, List.setIfInBounds_toArray, List.set_cons_zero, List.set_cons_succ])
    (refine wpAny_take (i := 13) (v := ?_) rfl (by kernel_rfl) (by kernel_rfl) (by kernel_rfl) (fun _ _ _ h => h) (Or.inl ⟨by kernel_rfl, ?_⟩) ?_; rotate_left; focus (intro w; go_simp; try with_reducible rfl); (try simp only [List.getElem_toArray, List.getElem_cons_succ, List.getElem_cons_zero, Act.put, List.setIfInBounds_toArray, List.set_cons_zero, List.set_cons_succ]))
    refine wpAny_ready (rs := [15]) (by kernel_rfl) (by simp) (AllReady.cons rfl (fun K hK => ?_) AllReady.nil)
    have HK := Lib.hid hK; clear hK
    go_simp
    refine HK.out _ _ ?_
    clear HK K
    (try simp only [List.getElem_toArray, List.getElem_cons_succ, List.getElem_cons_zero, Act.put, List.setIfInBounds_toArray, List.set_cons_zero, List.set_cons_succ])
    refine wpAny_done (by kernel_rfl) ?_ _
    exact HR.out

set_option maxHeartbeats 3200000 in
set_option maxRecDepth 100000 in
theorem frParse_good (s : ByteArray) (k : Nat) (hk : s.size = k + 2) (h1 : 1 ≤ k) (h2 : k ≤ 2) (hgood : frG (pR s.data.toList) (pC s.data.toList) (pL s.data.toList) = true) (T : ByteArray) (hT : ∀ w : World, Calls Tryd.prog 84 #[frW (pR s.data.toList) (pC s.data.toList) (pL s.data.toList)] w fun e w' => e = .returned (.string T) ∧ Below w.heap.size w w') (w : World) :
    Calls Tryd.prog 86 #[.string s] w fun e w' => e = .returned (.tuple #[frW (pR s.data.toList) (pC s.data.toList) (pL s.data.toList), .bool (T.toList == s.toList)]) ∧ Below w.heap.size w w' := by
  obtain ⟨A, B, c, hs1, hs2, hix, hc, hrA, hrB, hzA, hzB⟩ := parse_facts s k hk h1 h2
  have hcA := l1Read_any A (by omega)
  have hcB := l1Read_any B (by omega)
  rw [hrA] at hcA
  rw [hrB] at hcB
  have HC := Lib.hid (And.intro hcA hcB); clear hcA hcB hrA hrB hzA hzB
  have HI := Lib.hid (show inR (s.size : Int) 3 4 = true by unfold inR; simp; omega)
  have hsz : (s.size : Int) = (k : Int) + 2 := by omega
  have hk2 : (k : Int) ≤ 2 := by omega
  have hw : IntKind.i64.wrap ((k : Int) + 1) = (k : Int) + 1 := IntWalk.i64_in _ (by omega)
  have HG := Lib.hid hgood; clear hgood
  have HT := Lib.hid hT; clear hT
  have HK := Lib.hid hk; clear hk h1 h2
  generalize hPR : pR s.data.toList = r at *
  generalize hPC : pC s.data.toList = cc at *
  generalize hPL : pL s.data.toList = l at *
  go_enter Tryd.func86, Tryd.ntmps86
  go_wp2_with fail
  refine (l1In_any _ _ _ _).mono ?_; rintro e w' ⟨rfl, rfl⟩
  rw [hsz] at HI
  rw [HI.out]
  have tA := FrAt.new w 0 false 0
  have zA := tA.lt
  have B0 := (Below.refl w.heap.size w).alloc (Nat.le_refl _) (.cells #[.int .i64 0, .bool false, .int .i64 0] 26)
  obtain ⟨y0, y1, y2, x0, x1, x2⟩ := tA.cells
  generalize w.alloc (.cells #[.int .i64 0, .bool false, .int .i64 0] 26) = X at *
  go_wp2_with fail
  rename_i Q0 K0 a0
  have hrest : Exit.then K0 Q0 Exit.normal { tmps := #[.string s, undef, .pointer (some ⟨w.heap.size, 0, none⟩), .bool false, .int .i64 k, .pointer (some ⟨X.heap.size, 0, none⟩), .string s, .int .i64 ((k : Int) + 2), .bool true, .bool false, undef, .string s, .int .i64 ((k : Int) + 2), .int .i64 k, .string s, .int .i64 k, .string A, .int .i64 r, .string s, .int .i64 k, .int .u8 (c.toNat : Int), .bool cc, .string s, .int .i64 k, .int .i64 ((k : Int) + 1), .string B, .int .i64 l, .agg #[.int .i64 r, .bool cc, .int .i64 l], undef, undef, undef, undef, undef, undef, undef, undef, undef], defers := [] } (X.alloc (.cells #[.int .i64 r, .bool cc, .int .i64 l] 26)).drew := by
    have tN : FrAt (X.alloc (.cells #[.int .i64 r, .bool cc, .int .i64 l] 26)).drew X.heap.size r cc l := (FrAt.new X r cc l).drew
    have tG : FrAt (X.alloc (.cells #[.int .i64 r, .bool cc, .int .i64 l] 26)).drew w.heap.size 0 false 0 := (tA.old _).drew
    have B1 := (B0.alloc (Nat.le_of_lt zA) (.cells #[.int .i64 r, .bool cc, .int .i64 l] 26)).drew
    clear tA B0 y0 y1 y2 x0 x1 x2
    generalize (X.alloc (.cells #[.int .i64 r, .bool cc, .int .i64 l] 26)).drew = Y at *
    generalize X.heap.size = b at *
    have hne : b ≠ w.heap.size := by omega
    have hr0 := r0_of (⟨tN.drew, ⟨_, _, _, tG.drew⟩, B1.drew⟩ : ParR0 w b r cc l Y.drew)
    clear tN tG B1
    have HR0 := Lib.hid hr0; clear hr0
    go_wp2_with fail
    refine wp_region_held_drew (S := (fun w' => w'.cell? ⟨b, 0, none⟩ = some (.int .i64 r) ∧ w'.cell? ⟨b, 1, none⟩ = some (.bool cc) ∧ w'.cell? ⟨b, 2, none⟩ = some (.int .i64 l) ∧ ParR0 w b r cc l w')) (by kernel_rfl) HR0.out (fun hHeld => ?_)
    clear HR0
    generalize Y.drew = Z at *
    (refine wpAnyH_take (i := 0) (v := ?_) rfl (by kernel_rfl) (by kernel_rfl) (by kernel_rfl) (fun _ _ _ h => h) (Or.inl ⟨by kernel_rfl, ?_⟩) (by assumption) ?_; rotate_left; focus (intro w hSw; (try dsimp only at hSw); go_simp; try with_reducible rfl); (try simp only [List.getElem_toArray, List.getElem_cons_succ, List.getElem_cons_zero, Act.put, List.setIfInBounds_toArray, List.set_cons_zero, List.set_cons_succ])); (refine wpAnyH_take (i := 1) (v := ?_) rfl (by kernel_rfl) (by kernel_rfl) (by kernel_rfl) (fun _ _ _ h => h) (Or.inl ⟨by kernel_rfl, ?_⟩) (by assumption) ?_; rotate_left; focus (intro w hSw; (try dsimp only at hSw); go_simp; try with_reducible rfl); (try simp only [List.getElem_toArray, List.getElem_cons_succ, List.getElem_cons_zero, Act.put, List.setIfInBounds_toArray, List.set_cons_zero, List.set_cons_succ]))
    refine wpAnyH_ready (rs := [2]) (by kernel_rfl) (by simp) (AllReadyH.cons rfl (fun K hK => ?_) AllReadyH.nil)
    have HS := Lib.hid hHeld.2.2.2; clear hHeld
    go_simp
    go_at_call 60
    refine (frGood_any _ _ _ _).mono ?_; rintro e w' ⟨rfl, bd⟩
    rw [HG.out]
    have KS := Lib.hid (r0_of (r0_keep bd HS.out)); clear HS bd
    go_wp2_with fail
    refine hK.out _ _ KS.out (fun hHeld => ?_)
    clear hK K KS
    (try simp only [List.getElem_toArray, List.getElem_cons_succ, List.getElem_cons_zero, Act.put, List.setIfInBounds_toArray, List.set_cons_zero, List.set_cons_succ])
    (refine wpAnyH_take (i := 3) (v := ?_) rfl (by kernel_rfl) (by kernel_rfl) (by kernel_rfl) (fun _ _ _ h => h) (Or.inl ⟨by kernel_rfl, ?_⟩) (by assumption) ?_; rotate_left; focus (intro w hSw; (try dsimp only at hSw); go_simp; try with_reducible rfl); (try simp only [List.getElem_toArray, List.getElem_cons_succ, List.getElem_cons_zero, Act.put, List.setIfInBounds_toArray, List.set_cons_zero, List.set_cons_succ])); (refine wpAnyH_take (i := 4) (v := ?_) rfl (by kernel_rfl) (by kernel_rfl) (by kernel_rfl) (fun _ _ _ h => h) (Or.inl ⟨by kernel_rfl, ?_⟩) (by assumption) ?_; rotate_left; focus (intro w hSw; (try dsimp only at hSw); go_simp; try with_reducible rfl); (try simp only [List.getElem_toArray, List.getElem_cons_succ, List.getElem_cons_zero, Act.put, List.setIfInBounds_toArray, List.set_cons_zero, List.set_cons_succ])); (refine wpAnyH_take (i := 6) (v := ?_) rfl (by kernel_rfl) (by kernel_rfl) (by kernel_rfl) (fun _ _ _ h => h) (Or.inl ⟨by kernel_rfl, ?_⟩) (by assumption) ?_; rotate_left; focus (intro w hSw; (try dsimp only at hSw); go_simp; try with_reducible rfl); (try simp only [List.getElem_toArray, List.getElem_cons_succ, List.getElem_cons_zero, Act.put, List.setIfInBounds_toArray, List.set_cons_zero, List.set_cons_succ]))
    refine wpAnyH_ready (rs := [5]) (by kernel_rfl) (by simp) (AllReadyH.cons rfl (fun K hK => ?_) AllReadyH.nil)
    have HS := Lib.hid hHeld.2.2.2; clear hHeld
    go_simp
    go_at_call 84
    refine (HT.out _).mono ?_; rintro e w' ⟨rfl, bd⟩
    have KS := Lib.hid (r0_of (r0_keep bd HS.out)); clear HS bd
    go_wp2_with fail
    refine hK.out _ _ KS.out (fun hHeld => ?_)
    clear hK K KS
    (try simp only [List.getElem_toArray, List.getElem_cons_succ, List.getElem_cons_zero, Act.put, List.setIfInBounds_toArray, List.set_cons_zero, List.set_cons_succ])
    (refine wpAnyH_take (i := 7) (v := ?_) rfl (by kernel_rfl) (by kernel_rfl) (by kernel_rfl) (fun _ _ _ h => h) (Or.inl ⟨by kernel_rfl, ?_⟩) (by assumption) ?_; rotate_left; focus (intro w hSw; (try dsimp only at hSw); go_simp; try with_reducible rfl); (try simp only [List.getElem_toArray, List.getElem_cons_succ, List.getElem_cons_zero, Act.put, List.setIfInBounds_toArray, List.set_cons_zero, List.set_cons_succ])); (refine wpAnyH_take (i := 8) (v := ?_) rfl (by kernel_rfl) (by kernel_rfl) (by kernel_rfl) (fun _ _ _ h => h) (Or.inl ⟨by kernel_rfl, ?_⟩) (by assumption) ?_; rotate_left; focus (intro w hSw; (try dsimp only at hSw); go_simp; try with_reducible rfl); (try simp only [List.getElem_toArray, List.getElem_cons_succ, List.getElem_cons_zero, Act.put, List.setIfInBounds_toArray, List.set_cons_zero, List.set_cons_succ]))
    refine wpAnyH_ready (rs := [9]) (by kernel_rfl) (by simp) (AllReadyH.cons rfl (fun K hK => ?_) AllReadyH.nil)
    have HS := Lib.hid hHeld.2.2.2; clear hHeld
    obtain ⟨r1, c1, l1, h2⟩ := HS.out.2.1
    obtain ⟨z0, z1, z2, z3, z4, z5⟩ := h2.cells
    clear h2
    have KS := Lib.hid (r2_of (r0_put hne HS.out)); clear HS
    go_simp
    refine hK.out _ _ (r0_of (r2_weak KS.out.2.2.2)) (fun _ => ?_)
    clear hK K z0 z1 z2 z3 z4 z5
    refine anyH_mono (S2 := (fun w' => w'.cell? ⟨b, 0, none⟩ = some (.int .i64 r) ∧ w'.cell? ⟨b, 1, none⟩ = some (.bool cc) ∧ w'.cell? ⟨b, 2, none⟩ = some (.int .i64 l) ∧ ParR2 w b r cc l w')) (fun _ h => r0_of (r2_weak h.2.2.2)) _ _ _ _ ?_
    have hHeld := KS.out
    clear KS
    (try simp only [List.getElem_toArray, List.getElem_cons_succ, List.getElem_cons_zero, Act.put, List.setIfInBounds_toArray, List.set_cons_zero, List.set_cons_succ])
    (refine wpAnyH_take (i := 10) (v := ?_) rfl (by kernel_rfl) (by kernel_rfl) (by kernel_rfl) (fun _ _ _ h => h) (Or.inl ⟨by kernel_rfl, ?_⟩) (by assumption) ?_; rotate_left; focus (intro w hSw; (try dsimp only at hSw); go_simp; try with_reducible rfl); (try simp only [List.getElem_toArray, List.getElem_cons_succ, List.getElem_cons_zero, Act.put, List.setIfInBounds_toArray, List.set_cons_zero, List.set_cons_succ]))
    refine wpAnyH_done (by kernel_rfl) ?_ _
    have HS := Lib.hid hHeld.2.2.2; clear hHeld
    obtain ⟨z0, z1, z2, -, -, -⟩ := HS.out.2.1.cells
    go_wp2_with fail
    refine bodyPost_ret (v := .tuple #[frW r cc l, .bool (T.toList == s.toList)]) (by simp [results, Tryd.results86, go_sem, z0, z1, z2]) rfl ⟨rfl, HS.out.2.2⟩
  have HR := Lib.hid hrest; clear hrest
  refine wp_region_any (by kernel_rfl) ?_
  change wpAny _ _ _ _ _ _ _ X.drew
  (refine wpAny_take (i := 0) (v := ?_) rfl (by kernel_rfl) (by kernel_rfl) (by kernel_rfl) (fun _ _ _ h => h) (Or.inl ⟨by kernel_rfl, ?_⟩) ?_; rotate_left; focus (intro w; go_simp; try with_reducible rfl); (try simp only [List.getElem_toArray, List.getElem_cons_succ, List.getElem_cons_zero, Act.put, List.setIfInBounds_toArray, List.set_cons_zero, List.set_cons_succ])); (refine wpAny_take (i := 1) (v := ?_) rfl (by kernel_rfl) (by kernel_rfl) (by kernel_rfl) (fun _ _ _ h => h) (Or.inl ⟨by kernel_rfl, ?_⟩) ?_; rotate_left; focus (intro w; go_simp; try with_reducible rfl); (try simp only [List.getElem_toArray, List.getElem_cons_succ, List.getElem_cons_zero, Act.put, List.setIfInBounds_toArray, List.set_cons_zero, List.set_cons_succ])); (refine wpAny_take (i := 2) (v := ?_) rfl (by kernel_rfl) (by kernel_rfl) (by kernel_rfl) (fun _ _ _ h => h) (Or.inl ⟨by kernel_rfl, ?_⟩) ?_; rotate_left; focus (intro w; go_simp; try with_reducible rfl); (try simp only [List.getElem_toArray, List.getElem_cons_succ, List.getElem_cons_zero, Act.put, List.setIfInBounds_toArray, List.set_cons_zero, List.set_cons_succ])); (refine wpAny_take (i := 4) (v := ?_) rfl (by kernel_rfl) (by kernel_rfl) (by kernel_rfl) (fun _ _ _ h => h) (Or.inl ⟨by kernel_rfl, ?_⟩) ?_; rotate_left; focus (intro w; go_simp; try with_reducible rfl); (try simp only [List.getElem_toArray, List.getElem_cons_succ, List.getElem_cons_zero, Act.put, List.setIfInBounds_toArray, List.set_cons_zero, List.set_cons_succ])); (refine wpAny_take (i := 5) (v := ?_) rfl (by kernel_rfl) (by kernel_rfl) (by kernel_rfl) (fun _ _ _ h => h) (Or.inl ⟨by kernel_rfl, ?_⟩) ?_; rotate_left; focus (intro w; go_simp; try with_reducible rfl); (try simp only [List.getElem_toArray, List.getElem_cons_succ, List.getElem_cons_zero, Act.put, List.setIfInBounds_toArray, List.set_cons_zero, List.set_cons_succ])); (refine wpAny_take (i := 6) (v := ?_) rfl (by kernel_rfl) (by kernel_rfl) (by kernel_rfl) (fun _ _ _ h => h) (Or.inl ⟨by kernel_rfl, ?_⟩) ?_; rotate_left; focus (intro w; go_simp; try with_reducible rfl); (try simp only [List.getElem_toArray, List.getElem_cons_succ, List.getElem_cons_zero, Act.put, List.setIfInBounds_toArray, List.set_cons_zero, List.set_cons_succ])); (refine wpAny_take (i := 7) (v := ?_) rfl (by kernel_rfl) (by kernel_rfl) (by kernel_rfl) (fun _ _ _ h => h) (Or.inl ⟨by kernel_rfl, ?_⟩) ?_; rotate_left; focus (intro w; go_simp; try with_reducible rfl); (try simp only [List.getElem_toArray, List.getElem_cons_succ, List.getElem_cons_zero, Act.put, List.setIfInBounds_toArray, List.set_cons_zero, List.set_cons_succ])); (refine wpAny_take (i := 8) (v := ?_) rfl (by kernel_rfl) (by kernel_rfl) (by kernel_rfl) (fun _ _ _ h => h) (Or.inl ⟨by kernel_rfl, ?_⟩) ?_; rotate_left; focus (intro w; go_simp; try with_reducible rfl); (try simp only [List.getElem_toArray, List.getElem_cons_succ, List.getElem_cons_zero, Act.put, List.setIfInBounds_toArray, List.set_cons_zero, List.set_cons_succ])); (refine wpAny_take (i := 9) (v := ?_) rfl (by kernel_rfl) (by kernel_rfl) (by kernel_rfl) (fun _ _ _ h => h) (Or.inl ⟨by kernel_rfl, ?_⟩) ?_; rotate_left; focus (intro w; go_simp; try with_reducible rfl); (try simp only [List.getElem_toArray, List.getElem_cons_succ, List.getElem_cons_zero, Act.put, List.setIfInBounds_toArray, List.set_cons_zero, List.set_cons_succ])); (refine wpAny_take (i := 10) (v := ?_) rfl (by kernel_rfl) (by kernel_rfl) (by kernel_rfl) (fun _ _ _ h => h) (Or.inl ⟨by kernel_rfl, ?_⟩) ?_; rotate_left; focus (intro w; go_simp; try with_reducible rfl); (try simp only [List.getElem_toArray, List.getElem_cons_succ, List.getElem_cons_zero, Act.put, List.setIfInBounds_toArray, List.set_cons_zero, List.set_cons_succ])); (refine wpAny_take (i := 11) (v := ?_) rfl (by kernel_rfl) (by kernel_rfl) (by kernel_rfl) (fun _ _ _ h => h) (Or.inl ⟨by kernel_rfl, ?_⟩) ?_; rotate_left; focus (intro w; go_simp; try with_reducible rfl); (try simp only [List.getElem_toArray, List.getElem_cons_succ, List.getElem_cons_zero, Act.put, List.setIfInBounds_toArray, List.set_cons_zero, List.set_cons_succ]))
  refine wpAny_ready (rs := [3, 14]) (by kernel_rfl) (by simp) (AllReady.cons rfl (fun K hK => ?_) (AllReady.cons rfl (fun K hK => ?_) AllReady.nil))
  · have HK := Lib.hid hK; clear hK
    go_simp
    go_at_call 92
    refine (HC.out.1 _).mono ?_; rintro e w' ⟨rfl, rfl⟩
    go_wp2_with fail
    refine HK.out _ _ ?_
    clear HK K
    (try simp only [List.getElem_toArray, List.getElem_cons_succ, List.getElem_cons_zero, Act.put, List.setIfInBounds_toArray, List.set_cons_zero, List.set_cons_succ])
    refine wpAny_ready (rs := [12, 14]) (by kernel_rfl) (by simp) (AllReady.cons rfl (fun K hK => ?_) (AllReady.cons rfl (fun K hK => ?_) AllReady.nil))
    · have HK := Lib.hid hK; clear hK
      go_simp
      go_at_call 92
      refine (HC.out.2 _).mono ?_; rintro e w' ⟨rfl, rfl⟩
      go_wp2_with fail
      refine HK.out _ _ ?_
      clear HK K
      (try simp only [List.getElem_toArray, List.getElem_cons_succ, List.getElem_cons_zero, Act.put, List.setIfInBounds_toArray, List.set_cons_zero, List.set_cons_succ])
      (refine wpAny_take (i := 13) (v := ?_) rfl (by kernel_rfl) (by kernel_rfl) (by kernel_rfl) (fun _ _ _ h => h) (Or.inl ⟨by kernel_rfl, ?_⟩) ?_; rotate_left; focus (intro w; go_simp; try with_reducible rfl); (try simp only [List.getElem_toArray, List.getElem_cons_succ, List.getElem_cons_zero, Act.put, List.setIfInBounds_toArray, List.set_cons_zero, List.set_cons_succ]))
      refine wpAny_ready (rs := [14]) (by kernel_rfl) (by simp) (AllReady.cons rfl (fun K hK => ?_) AllReady.nil)
      have HK := Lib.hid hK; clear hK
      go_simp
      refine HK.out _ _ ?_
      clear HK K
      (try simp only [List.getElem_toArray, List.getElem_cons_succ, List.getElem_cons_zero, Act.put, List.setIfInBounds_toArray, List.set_cons_zero, List.set_cons_succ])
      refine wpAny_ready (rs := [15]) (by kernel_rfl) (by simp) (AllReady.cons rfl (fun K hK => ?_) AllReady.nil)
      have HK := Lib.hid hK; clear hK
      go_simp
      refine HK.out _ _ ?_
      clear HK K
      (try simp only [List.getElem_toArray, List.getElem_cons_succ, List.getElem_cons_zero, Act.put, List.setIfInBounds_toArray, List.set_cons_zero, List.set_cons_succ])
      refine wpAny_done (by kernel_rfl) ?_ _
      exact HR.out
    · have HK := Lib.hid hK; clear hK
      go_simp
      refine HK.out _ _ ?_
      clear HK K
      (try simp only [List.getElem_toArray, List.getElem_cons_succ, List.getElem_cons_zero, Act.put, List.setIfInBounds_toArray, List.set_cons_zero, List.set_cons_succ])
      refine wpAny_ready (rs := [12]) (by kernel_rfl) (by simp) (AllReady.cons rfl (fun K hK => ?_) AllReady.nil)
      have HK := Lib.hid hK; clear hK
      go_simp
      go_at_call 92
      refine (HC.out.2 _).mono ?_; rintro e w' ⟨rfl, rfl⟩
      go_wp2_with fail
      refine HK.out _ _ ?_
      clear HK K
      (try simp only [List.getElem_toArray, List.getElem_cons_succ, List.getElem_cons_zero, Act.put, List.setIfInBounds_toArray, List.set_cons_zero, List.set_cons_succ])
      (refine wpAny_take (i := 13) (v := ?_) rfl (by kernel_rfl) (by kernel_rfl) (by kernel_rfl) (fun _ _ _ h => h) (Or.inl ⟨by kernel_rfl, ?_⟩) ?_; rotate_left; focus (intro w; go_simp; try with_reducible rfl); (try simp only [List.getElem_toArray, List.getElem_cons_succ, List.getElem_cons_zero, Act.put, List.setIfInBounds_toArray, List.set_cons_zero, List.set_cons_succ]))
      refine wpAny_ready (rs := [15]) (by kernel_rfl) (by simp) (AllReady.cons rfl (fun K hK => ?_) AllReady.nil)
      have HK := Lib.hid hK; clear hK
      go_simp
      refine HK.out _ _ ?_
      clear HK K
      (try simp only [List.getElem_toArray, List.getElem_cons_succ, List.getElem_cons_zero, Act.put, List.setIfInBounds_toArray, List.set_cons_zero, List.set_cons_succ])
      refine wpAny_done (by kernel_rfl) ?_ _
      exact HR.out
  · have HK := Lib.hid hK; clear hK
    go_simp
    refine HK.out _ _ ?_
    clear HK K
    (try simp only [List.getElem_toArray, List.getElem_cons_succ, List.getElem_cons_zero, Act.put, List.setIfInBounds_toArray, List.set_cons_zero, List.set_cons_succ])
    refine wpAny_ready (rs := [3]) (by kernel_rfl) (by simp) (AllReady.cons rfl (fun K hK => ?_) AllReady.nil)
    have HK := Lib.hid hK; clear hK
    go_simp
    go_at_call 92
    refine (HC.out.1 _).mono ?_; rintro e w' ⟨rfl, rfl⟩
    go_wp2_with fail
    refine HK.out _ _ ?_
    clear HK K
    (try simp only [List.getElem_toArray, List.getElem_cons_succ, List.getElem_cons_zero, Act.put, List.setIfInBounds_toArray, List.set_cons_zero, List.set_cons_succ])
    refine wpAny_ready (rs := [12]) (by kernel_rfl) (by simp) (AllReady.cons rfl (fun K hK => ?_) AllReady.nil)
    have HK := Lib.hid hK; clear hK
    go_simp
    go_at_call 92
    refine (HC.out.2 _).mono ?_; rintro e w' ⟨rfl, rfl⟩
    go_wp2_with fail
    refine HK.out _ _ ?_
    clear HK K
    (try simp only [List.getElem_toArray, List.getElem_cons_succ, List.getElem_cons_zero, Act.put, List.setIfInBounds_toArray, List.set_cons_zero, List.set_cons_succ])
    (refine wpAny_take (i := 13) (v := ?_) rfl (by kernel_rfl) (by kernel_rfl) (by kernel_rfl) (fun _ _ _ h => h) (Or.inl ⟨by kernel_rfl, ?_⟩) ?_; rotate_left; focus (intro w; go_simp; try with_reducible rfl); (try simp only [List.getElem_toArray, List.getElem_cons_succ, List.getElem_cons_zero, Act.put, List.setIfInBounds_toArray, List.set_cons_zero, List.set_cons_succ]))
    refine wpAny_ready (rs := [15]) (by kernel_rfl) (by simp) (AllReady.cons rfl (fun K hK => ?_) AllReady.nil)
    have HK := Lib.hid hK; clear hK
    go_simp
    refine HK.out _ _ ?_
    clear HK K
    (try simp only [List.getElem_toArray, List.getElem_cons_succ, List.getElem_cons_zero, Act.put, List.setIfInBounds_toArray, List.set_cons_zero, List.set_cons_succ])
    refine wpAny_done (by kernel_rfl) ?_ _
    exact HR.out

end Go.Proofs.YtlehhkijigglgaaDoor
