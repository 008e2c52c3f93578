/-
  Legs: lists of lists of darts: compared, marked.
-/
import Derived.Test.YtaplkciomagmiaaPlCopy
namespace Go.Proofs.Ytaplkciomagmiaa
open Go.RowKit Go.Deep
set_option linter.unusedVariables false
set_option linter.unusedSimpArgs false

theorem eq_dartrows (L : List (Int × Int)) (a a' : Option Addr) (c c' : Nat) (w : World) (hl : (L.length : Int) ≤ 1048576) (h : Reads w a (darts L)) (h' : Reads w a' (darts L)) :
    Calls Try.prog 24 #[.slice a L.length c, .slice a' L.length c'] w fun e w' => e = .returned (.bool true) ∧ Below w.heap.size w w' := by
  have := eqDartS_any L L a a' c c' w (by omega) (by omega) h h'
  rw [show SameD L L = true from by simp [SameD]] at this
  exact this
def SdS (w : World) (x px y py : Nat) (u v : Value) (w' : World) : Prop :=
  Below w.heap.size w w' ∧ w'.cell? ⟨x, px, none⟩ = some u ∧ w'.cell? ⟨y, py, none⟩ = some v ∧ x < w'.heap.size ∧ y < w'.heap.size
theorem sd_keep {w w1 w2 : World} {x px y py : Nat} {u v : Value} (h : SdS w x px y py u v w1) (hb : Below w1.heap.size w1 w2) : SdS w x px y py u v w2 := by
  obtain ⟨h1, h2, h3, h4, h5⟩ := h
  have := hb.size
  exact ⟨h1.trans (hb.mono h1.size), by rw [hb.cell (p := ⟨x, px, none⟩) h4]; exact h2, by rw [hb.cell (p := ⟨y, py, none⟩) h5]; exact h3, by omega, by omega⟩

set_option maxHeartbeats 1600000 in
theorem eqDartSS_same (DD : DL) (hD : (DD.length : Int) ≤ 1048576) (hs : ∀ l ∈ DD, (l.length : Int) ≤ 1048576) (a a' : Option Addr) (c c' : Nat) (w : World) (r1 : SSR w a DD) (r2 : SSR w a' DD) :
    Calls Try.prog 41 #[.slice a DD.length c, .slice a' DD.length c'] w fun e w' => e = .returned (.bool true) ∧ Below w.heap.size w w' := by
  have hbn : (((DD.length : Nat) : Int) != ((DD.length : Nat) : Int)) = false := by simp
  have H := Lib.hid (And.intro r1 (And.intro r2 hs)); clear r1 r2 hs
  go_enter Try.func41, Try.ntmps41
  go_wp2_with fail
  go_loopw [5] (fun i wr => ∃ k : Nat, i = .int .i64 k ∧ k ≤ DD.length ∧ Below w.heap.size w wr) (fun i _ => DD.length - (intOf i).toNat)
  case atStart => exact ⟨0, rfl, Nat.zero_le _, Below.refl _ _⟩
  case round =>
    obtain ⟨k, rfl, hk, hb⟩ := hrel
    by_cases hlt : k < DD.length
    · have hkl : (k : Int) < (DD.length : Int) := by omega
      obtain ⟨x, ox, ax, cx, rfl, lx, c1, q1⟩ := (H.out.1.old hb).cell hlt
      obtain ⟨y, oy, ay, cy, rfl, ly, c2, q2⟩ := (H.out.2.1.old hb).cell hlt
      have hmem : DD.getD k [] ∈ DD := by simp [hlt]
      have hz := H.out.2.2 _ hmem
      have HC := Lib.hid (fun (w' : World) (hb' : Below wr.heap.size wr w') => eq_dartrows (DD.getD k []) ax ay cx cy w' hz (q1.old hb') (q2.old hb'))
      clear hmem hz q1 q2
      generalize (DD.getD k []).length = n at *
      go_wp2_with fail
      have hpre : SdS wr x (ox + k) y (oy + k) (.slice ax n cx) (.slice ay n cy) wr.drew := ⟨(Below.refl _ _).drew, c1, c2, lx, ly⟩
      have HB := Lib.hid hb
      clear hb c1 c2
      refine wp_region_held_drew (S := fun w' => Below wr.heap.size wr w' ∧ w'.cell? ⟨x, ox + k, none⟩ = some (.slice ax n cx) ∧ w'.cell? ⟨y, oy + k, none⟩ = some (.slice ay n cy) ∧ x < w'.heap.size ∧ y < w'.heap.size) (by kernel_rfl) hpre (fun hHeld => ?_)
      clear hpre
      (refine wpAnyH_take (i := 0) (v := ?_) rfl (by kernel_rfl) (by kernel_rfl) (by kernel_rfl) (fun _ _ _ h => h) (Or.inl ⟨by kernel_rfl, ?_⟩) (by assumption) ?_; rotate_left; focus (intro w hSw; (try dsimp only at hSw); go_simp; try with_reducible rfl); (try simp only [List.getElem_toArray, List.getElem_cons_succ, List.getElem_cons_zero, Act.put, List.setIfInBounds_toArray, List.set_cons_zero, List.set_cons_succ])); (refine wpAnyH_take (i := 1) (v := ?_) rfl (by kernel_rfl) (by kernel_rfl) (by kernel_rfl) (fun _ _ _ h => h) (Or.inl ⟨by kernel_rfl, ?_⟩) (by assumption) ?_; rotate_left; focus (intro w hSw; (try dsimp only at hSw); go_simp; try with_reducible rfl); (try simp only [List.getElem_toArray, List.getElem_cons_succ, List.getElem_cons_zero, Act.put, List.setIfInBounds_toArray, List.set_cons_zero, List.set_cons_succ])); (refine wpAnyH_take (i := 2) (v := ?_) rfl (by kernel_rfl) (by kernel_rfl) (by kernel_rfl) (fun _ _ _ h => h) (Or.inl ⟨by kernel_rfl, ?_⟩) (by assumption) ?_; rotate_left; focus (intro w hSw; (try dsimp only at hSw); go_simp; try with_reducible rfl); (try simp only [List.getElem_toArray, List.getElem_cons_succ, List.getElem_cons_zero, Act.put, List.setIfInBounds_toArray, List.set_cons_zero, List.set_cons_succ])); (refine wpAnyH_take (i := 3) (v := ?_) rfl (by kernel_rfl) (by kernel_rfl) (by kernel_rfl) (fun _ _ _ h => h) (Or.inl ⟨by kernel_rfl, ?_⟩) (by assumption) ?_; rotate_left; focus (intro w hSw; (try dsimp only at hSw); go_simp; try with_reducible rfl); (try simp only [List.getElem_toArray, List.getElem_cons_succ, List.getElem_cons_zero, Act.put, List.setIfInBounds_toArray, List.set_cons_zero, List.set_cons_succ])); (refine wpAnyH_take (i := 4) (v := ?_) rfl (by kernel_rfl) (by kernel_rfl) (by kernel_rfl) (fun _ _ _ h => h) (Or.inl ⟨by kernel_rfl, ?_⟩) (by assumption) ?_; rotate_left; focus (intro w hSw; (try dsimp only at hSw); go_simp; try with_reducible rfl); (try simp only [List.getElem_toArray, List.getElem_cons_succ, List.getElem_cons_zero, Act.put, List.setIfInBounds_toArray, List.set_cons_zero, List.set_cons_succ])); (refine wpAnyH_take (i := 5) (v := ?_) rfl (by kernel_rfl) (by kernel_rfl) (by kernel_rfl) (fun _ _ _ h => h) (Or.inl ⟨by kernel_rfl, ?_⟩) (by assumption) ?_; rotate_left; focus (intro w hSw; (try dsimp only at hSw); go_simp; try with_reducible rfl); (try simp only [List.getElem_toArray, List.getElem_cons_succ, List.getElem_cons_zero, Act.put, List.setIfInBounds_toArray, List.set_cons_zero, List.set_cons_succ])); (refine wpAnyH_take (i := 6) (v := ?_) rfl (by kernel_rfl) (by kernel_rfl) (by kernel_rfl) (fun _ _ _ h => h) (Or.inl ⟨by kernel_rfl, ?_⟩) (by assumption) ?_; rotate_left; focus (intro w hSw; (try dsimp only at hSw); go_simp; try with_reducible rfl); (try simp only [List.getElem_toArray, List.getElem_cons_succ, List.getElem_cons_zero, Act.put, List.setIfInBounds_toArray, List.set_cons_zero, List.set_cons_succ])); (refine wpAnyH_take (i := 7) (v := ?_) rfl (by kernel_rfl) (by kernel_rfl) (by kernel_rfl) (fun _ _ _ h => h) (Or.inl ⟨by kernel_rfl, ?_⟩) (by assumption) ?_; rotate_left; focus (intro w hSw; (try dsimp only at hSw); go_simp; try with_reducible rfl); (try simp only [List.getElem_toArray, List.getElem_cons_succ, List.getElem_cons_zero, Act.put, List.setIfInBounds_toArray, List.set_cons_zero, List.set_cons_succ]))
      refine wpAnyH_ready (rs := [8]) (by kernel_rfl) (by simp) ?_; refine AllReadyH.cons rfl (fun K hK => ?_) AllReadyH.nil
      go_simp
      go_at_call 24
      refine (HC.out _ hHeld.1).mono ?_; rintro e w5 ⟨rfl, b5⟩
      have KS := Lib.hid (sd_keep hHeld b5)
      clear b5 hHeld
      go_wp2_with fail
      refine hK.out _ _ KS.out (fun hHeld => ?_)
      clear hK K KS
      (try simp only [List.getElem_toArray, List.getElem_cons_succ, List.getElem_cons_zero, Act.put, List.setIfInBounds_toArray, List.set_cons_zero, List.set_cons_succ])
      (refine wpAnyH_take (i := 9) (v := ?_) rfl (by kernel_rfl) (by kernel_rfl) (by kernel_rfl) (fun _ _ _ h => h) (Or.inl ⟨by kernel_rfl, ?_⟩) (by assumption) ?_; rotate_left; focus (intro w hSw; (try dsimp only at hSw); go_simp; try with_reducible rfl); (try simp only [List.getElem_toArray, List.getElem_cons_succ, List.getElem_cons_zero, Act.put, List.setIfInBounds_toArray, List.set_cons_zero, List.set_cons_succ]))
      refine wpAnyH_done (by kernel_rfl) ?_ _
      have HB2 := Lib.hid (HB.out.trans (hHeld.1.mono HB.out.size)); clear hHeld
      go_wp2_with fail
      go_roundw
      case rel => exact ⟨k + 1, by go_num, by omega, HB2.out⟩
      case measure => simp [intOf]; omega
    · obtain rfl : k = DD.length := by omega
      go_wp2_with fail
      go_ret
      exact ⟨rfl, hb⟩

/-- Marks: nothing has turned but the rows of the copy. -/
def OnlyF (f : Nat → Nat) (k : Nat) (w w' : World) : Prop :=
  (∀ b, (∀ j, j < k → b ≠ f j) → w'.heap[b]? = w.heap[b]?) ∧ w'.os = w.os ∧ w'.tape = w.tape ∧ w'.output = w.output ∧ w'.heap.size = w.heap.size
theorem OnlyF.below {B : Nat} {f : Nat → Nat} {k : Nat} {w0 w w' : World} (h : Below B w0 w) (ho : OnlyF f k w w') (hB : ∀ j, j < k → B ≤ f j) : Below B w0 w' :=
  h.trans ⟨ho.2.1, ho.2.2.1, ho.2.2.2.1, by rw [ho.2.2.2.2]; exact Nat.le_refl _, fun b hb => ho.1 b (fun j hj => by have := hB j hj; omega)⟩
theorem write_sizeD (w : World) (a : Option Addr) (vs : List Value) : (writeAt w a vs).heap.size = w.heap.size ∧ (writeAt w a vs).os = w.os ∧ (writeAt w a vs).tape = w.tape ∧ (writeAt w a vs).output = w.output := by
  match a with
  | none => exact ⟨rfl, rfl, rfl, rfl⟩
  | some ⟨b, off, sp⟩ =>
    obtain ⟨r1, r2, r3⟩ := setCells_rest b vs off w
    exact ⟨setCells_size b vs off w, r1, r2, r3⟩
theorem write_heapD (w : World) (g : Nat) (vs : List Value) (k : Nat) (h : k ≠ g) : (writeAt w (some ⟨g, 0, none⟩) vs).heap[k]? = w.heap[k]? := setCells_heap g vs 0 w k h
def offD (DD : DL) (k : Nat) : Nat := ((DD.take k).map fun l => 2 * l.length).sum
theorem offD_succ (DD : DL) (k : Nat) (hk : k < DD.length) : offD DD (k + 1) = offD DD k + 2 * (DD.getD k []).length := by
  unfold offD
  rw [List.take_succ_eq_append_getElem hk, List.map_append, List.sum_append]
  simp [hk]
theorem offD_mono (DD : DL) : ∀ (d k : Nat), k + d ≤ DD.length → offD DD k ≤ offD DD (k + d)
  | 0, k, _ => Nat.le_refl _
  | d + 1, k, h => by
    have h1 := offD_mono DD d k (by omega)
    have h2 := offD_succ DD (k + d) (by omega)
    rw [show k + (d + 1) = k + d + 1 from by omega]; omega
theorem offD_all (DD : DL) : offD DD DD.length = (DD.map fun l => 2 * l.length).sum := by unfold offD; rw [List.take_length]
theorem szLL_sum : ∀ (DD : DL) (k : Int), 0 ≤ k → 0 ≤ szLL k DD → (((DD.map fun l => 2 * l.length).sum : Nat) : Int) ≤ 2 * k
  | [], k, h, _ => by simp; omega
  | l :: t, k, h, hz => by
    unfold szLL at hz
    by_cases h1 : szN k l.length < 0
    · rw [if_pos h1] at hz; omega
    · rw [if_neg h1] at hz
      have h0 : szN k l.length = k - l.length := by unfold szN at *; split <;> simp_all
      have := szLL_sum t _ (by omega) hz
      rw [List.map_cons, List.sum_cons]
      omega
theorem szSS_sum (DD : DL) (h : 0 ≤ szSS 1048576 DD) : offD DD DD.length ≤ 2097152 := by
  unfold szSS at h
  by_cases h1 : (1048576 : Int) - DD.length < 0
  · rw [if_pos h1] at h; omega
  · rw [if_neg h1] at h
    have := szLL_sum DD _ (by omega) h
    rw [offD_all]; omega
set_option maxHeartbeats 1600000 in
theorem markDartSS_any (DD : DL) (hD : (DD.length : Int) ≤ 1048576) (hs : ∀ l ∈ DD, (l.length : Int) ≤ 1048576) (hT : offD DD DD.length ≤ 2097152) (B g : Nat) (f : Nat → Nat) (c : Nat) (w : World) (h : Cop w B g f DD DD.length) :
    Calls Try.prog 42 #[.slice (some ⟨g, 0, none⟩) DD.length c, .int .i64 1] w fun e w' => e = .returned (.int .i64 (1 + (offD DD DD.length : Nat))) ∧ OnlyF f DD.length w w' := by
  have H := Lib.hid (And.intro h hs); clear h hs
  go_enter Try.func42, Try.ntmps42
  go_wp2_with fail
  go_loopw [1, 5] (fun q i wr => ∃ k : Nat, i = .int .i64 k ∧ k ≤ DD.length ∧ q = .int .i64 (1 + (offD DD k : Nat)) ∧ Hid (OnlyF f k w wr)) (fun _ i _ => DD.length - (intOf i).toNat)
  case atStart => exact ⟨0, rfl, Nat.zero_le _, by simp [offD], Lib.hid ⟨fun b _ => rfl, rfl, rfl, rfl, rfl⟩⟩
  case round =>
    obtain ⟨k, rfl, hk, rfl, hO⟩ := hrel
    by_cases hlt : k < DD.length
    · have hb : (k : Int) < (DD.length : Int) := by omega
      have hfil := (H.out.1.2.2.1 k hlt).1
      have hgk := (H.out.1.2.2.1 k hlt).2
      have hgne : ∀ j, j < k → g ≠ f j := fun j hj => by have := (H.out.1.2.2.1 j (by omega)).2; omega
      have c1 : wr.cell? ⟨g, k, none⟩ = some (.slice (some ⟨f k, 0, none⟩) (DD.getD k []).length (DD.getD k []).length) := by
        rw [World.cell?_of_block (w := w) (a := ⟨g, k, none⟩) (hO.out.1 g hgne), H.out.1.2.1.2.2 k (by rw [hds_len]; exact hlt)]
        exact hds_get _ _ _ hlt
      have hfk : wr.heap[f k]? = w.heap[f k]? := hO.out.1 _ (fun j hj e => by have := H.out.1.2.2.2 j k hj hlt; omega)
      have hw : Writable wr (some ⟨f k, 0, none⟩) ((DD.getD k []).length * 2) := .inr ⟨f k, 0, rfl, by rw [hO.out.2.2.2.2]; exact hfil.1, fun j hj => by
        rw [Nat.zero_add, World.cell?_of_block (w := w) (a := ⟨f k, j, none⟩) hfk, World.frozen?_of_block (w := w) (a := ⟨f k, j, none⟩) hfk]; exact hfil.2.1 j hj⟩
      have hmem : DD.getD k [] ∈ DD := by simp [hlt]
      have hz := H.out.2 _ hmem
      have ho := offD_mono DD (DD.length - k) k (by omega)
      rw [show k + (DD.length - k) = DD.length from by omega] at ho
      have hos := offD_succ DD k hlt
      have HC := Lib.hid ((markDartS_any (DD.getD k []).length (some ⟨f k, 0, none⟩) (DD.getD k []).length (1 + (offD DD k : Nat)) wr (by omega) (by omega) (by omega) hw).mono (R' := fun e w' => e = .returned (.int .i64 (1 + (offD DD (k + 1) : Nat))) ∧ OnlyF f (k + 1) w w') (by
        rintro e w' ⟨rfl, rfl⟩
        refine ⟨by rw [hos]; push_cast; congr 2; omega, fun b hb => ?_, ?_⟩
        · rw [write_heapD _ _ _ _ (hb k (by omega))]; exact hO.out.1 b (fun j hj => hb j (by omega))
        · obtain ⟨z1, z2, z3, z4⟩ := write_sizeD wr (some ⟨f k, 0, none⟩) (intsD (marks (1 + (offD DD k : Nat)) ((DD.getD k []).length * 2)))
          exact ⟨z2.trans hO.out.2.1, z3.trans hO.out.2.2.1, z4.trans hO.out.2.2.2.1, z1.trans hO.out.2.2.2.2⟩))
      clear hfil hgk hgne hfk hw hmem hz ho hos
      generalize (DD.getD k []).length = n at *
      generalize f k = gx at *
      go_wp2_with fail
      refine HC.out.mono ?_; rintro e w5 ⟨rfl, h5⟩
      have H5 := Lib.hid h5; clear h5 HC c1
      go_wp2_with fail
      go_roundw
      case rel => exact ⟨k + 1, by go_num, by omega, by first | rfl | trivial, H5⟩
      case measure => simp [intOf]; omega
    · obtain rfl : k = DD.length := by omega
      go_wp2_with fail
      go_ret
      exact ⟨rfl, hO.out⟩
end Go.Proofs.Ytaplkciomagmiaa
