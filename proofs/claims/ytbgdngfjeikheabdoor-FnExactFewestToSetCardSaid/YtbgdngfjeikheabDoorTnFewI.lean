/-
  Tennis: the fewest points to a set: the program.
-/
import Derived.Test.YtbgdngfjeikheabDoorTnFewS
import Derived.Deep.RegionHeld3
namespace Go.Proofs.YtbgdngfjeikheabDoor
open Go.RowKit
set_option linter.unusedVariables false
set_option linter.unusedSimpArgs false

set_option maxRecDepth 100000 in
set_option maxHeartbeats 6400000 in
theorem fewestToRace_any (to ld a b : Int) (c : UInt8) (w : World) (ht : 1 ≤ to ∧ to ≤ 30) (hl : 1 ≤ ld ∧ ld ≤ 5) (ha : 0 ≤ a) (ha' : a ≤ 1000) (hb : 0 ≤ b) (hb' : b ≤ 1000) :
    Calls Tryd.prog 66 #[.agg #[.int .i64 to, .int .i64 ld], .agg #[.int .i64 a, .int .i64 b], .string ⟨#[c]⟩] w fun e w' => e = .returned (.int .i64 (max (to - ofC a b c) (ld - (2 * ofC a b c - a - b)))) ∧ Below w.heap.size w w' := by
  have o1 := of_any a b c
  have o2 := fun w => leadOf_any a b c w ha (by omega) hb (by omega)
  have ho : 0 ≤ ofC a b c ∧ ofC a b c ≤ 1000 := by unfold ofC; split <;> omega
  have OO := Lib.hid (And.intro o1 o2); clear o1 o2
  generalize ofC a b c = q at *
  have t1 : IntKind.i64.wrap (to - q) = to - q := IntWalk.i64_in _ (by omega)
  have hlb : -5000 ≤ 2 * q - a - b ∧ 2 * q - a - b ≤ 5000 := by omega
  generalize 2 * q - a - b = u at *
  have t2 : IntKind.i64.wrap (ld - u) = ld - u := IntWalk.i64_in _ (by omega)
  have hs0 := raceS_new w to ld a b 53 63
  have HS0 := Lib.hid hs0; clear hs0
  have hg : ∃ g, w.heap.size = g := ⟨_, rfl⟩
  go_enter Tryd.func66, Tryd.ntmps66
  go_wp2_with fail
  have hS3 := HS0.out
  clear HS0
  generalize (w.alloc (.cells #[.int .i64 to, .int .i64 ld] 53)).alloc (.cells #[.int .i64 a, .int .i64 b] 63) = w1 at *
  generalize hgg : w.heap.size = g at *
  have HGG := Lib.hid hgg; clear hgg hg
  generalize hkk : g + 1 = k at *
  clear hkk
  refine wp_region_held_drew (S := fun w' => w'.cell? ⟨g, 0, none⟩ = some (.int .i64 to) ∧ w'.cell? ⟨g, 1, none⟩ = some (.int .i64 ld) ∧ w'.cell? ⟨k, 0, none⟩ = some (.int .i64 a) ∧ w'.cell? ⟨k, 1, none⟩ = some (.int .i64 b) ∧ g < w'.heap.size ∧ k < w'.heap.size ∧ g ≤ w'.heap.size ∧ Below g w w') (by kernel_rfl) ⟨by simpa using hS3.1, by simpa using hS3.2.1, by simpa using hS3.2.2.1, by simpa using hS3.2.2.2.1, by simpa using hS3.2.2.2.2.1, by simpa using hS3.2.2.2.2.2.1, by simpa using hS3.2.2.2.2.2.2.1, Below.drew hS3.2.2.2.2.2.2.2⟩ (fun hHeld => ?_)
  clear hS3
  (refine wpAnyH_take (i := 0) (v := ?_) rfl (by kernel_rfl) (by kernel_rfl) (by kernel_rfl) (fun _ _ _ h => h) (Or.inl ⟨by kernel_rfl, ?_⟩) (by assumption) ?_; rotate_left; focus (intro w hSw; (try dsimp only at hSw); go_simp; try with_reducible rfl); (try simp only [List.getElem_toArray, List.getElem_cons_succ, List.getElem_cons_zero, Act.put, List.setIfInBounds_toArray, List.set_cons_zero, List.set_cons_succ])); (refine wpAnyH_take (i := 1) (v := ?_) rfl (by kernel_rfl) (by kernel_rfl) (by kernel_rfl) (fun _ _ _ h => h) (Or.inl ⟨by kernel_rfl, ?_⟩) (by assumption) ?_; rotate_left; focus (intro w hSw; (try dsimp only at hSw); go_simp; try with_reducible rfl); (try simp only [List.getElem_toArray, List.getElem_cons_succ, List.getElem_cons_zero, Act.put, List.setIfInBounds_toArray, List.set_cons_zero, List.set_cons_succ])); (refine wpAnyH_take (i := 2) (v := ?_) rfl (by kernel_rfl) (by kernel_rfl) (by kernel_rfl) (fun _ _ _ h => h) (Or.inl ⟨by kernel_rfl, ?_⟩) (by assumption) ?_; rotate_left; focus (intro w hSw; (try dsimp only at hSw); go_simp; try with_reducible rfl); (try simp only [List.getElem_toArray, List.getElem_cons_succ, List.getElem_cons_zero, Act.put, List.setIfInBounds_toArray, List.set_cons_zero, List.set_cons_succ])); (refine wpAnyH_take (i := 3) (v := ?_) rfl (by kernel_rfl) (by kernel_rfl) (by kernel_rfl) (fun _ _ _ h => h) (Or.inl ⟨by kernel_rfl, ?_⟩) (by assumption) ?_; rotate_left; focus (intro w hSw; (try dsimp only at hSw); go_simp; try with_reducible rfl); (try simp only [List.getElem_toArray, List.getElem_cons_succ, List.getElem_cons_zero, Act.put, List.setIfInBounds_toArray, List.set_cons_zero, List.set_cons_succ])); (refine wpAnyH_take (i := 6) (v := ?_) rfl (by kernel_rfl) (by kernel_rfl) (by kernel_rfl) (fun _ _ _ h => h) (Or.inl ⟨by kernel_rfl, ?_⟩) (by assumption) ?_; rotate_left; focus (intro w hSw; (try dsimp only at hSw); go_simp; try with_reducible rfl); (try simp only [List.getElem_toArray, List.getElem_cons_succ, List.getElem_cons_zero, Act.put, List.setIfInBounds_toArray, List.set_cons_zero, List.set_cons_succ])); (refine wpAnyH_take (i := 7) (v := ?_) rfl (by kernel_rfl) (by kernel_rfl) (by kernel_rfl) (fun _ _ _ h => h) (Or.inl ⟨by kernel_rfl, ?_⟩) (by assumption) ?_; rotate_left; focus (intro w hSw; (try dsimp only at hSw); go_simp; try with_reducible rfl); (try simp only [List.getElem_toArray, List.getElem_cons_succ, List.getElem_cons_zero, Act.put, List.setIfInBounds_toArray, List.set_cons_zero, List.set_cons_succ])); (refine wpAnyH_take (i := 8) (v := ?_) rfl (by kernel_rfl) (by kernel_rfl) (by kernel_rfl) (fun _ _ _ h => h) (Or.inl ⟨by kernel_rfl, ?_⟩) (by assumption) ?_; rotate_left; focus (intro w hSw; (try dsimp only at hSw); go_simp; try with_reducible rfl); (try simp only [List.getElem_toArray, List.getElem_cons_succ, List.getElem_cons_zero, Act.put, List.setIfInBounds_toArray, List.set_cons_zero, List.set_cons_succ])); (refine wpAnyH_take (i := 9) (v := ?_) rfl (by kernel_rfl) (by kernel_rfl) (by kernel_rfl) (fun _ _ _ h => h) (Or.inl ⟨by kernel_rfl, ?_⟩) (by assumption) ?_; rotate_left; focus (intro w hSw; (try dsimp only at hSw); go_simp; try with_reducible rfl); (try simp only [List.getElem_toArray, List.getElem_cons_succ, List.getElem_cons_zero, Act.put, List.setIfInBounds_toArray, List.set_cons_zero, List.set_cons_succ]))
  refine wpAnyH_ready (rs := [4]) (by kernel_rfl) (by simp) ?_; refine AllReadyH.cons rfl (fun K hK => ?_) AllReadyH.nil
  go_simp
  go_at_call 101
  refine (OO.out.1 _).mono ?_; rintro e w' ⟨rfl, bd⟩
  have KS := Lib.hid (raceS_keep bd hHeld); clear hHeld bd
  go_wp2_with fail
  refine hK.out _ _ KS.out (fun hHeld => ?_)
  clear hK K KS
  (try simp only [List.getElem_toArray, List.getElem_cons_succ, List.getElem_cons_zero, Act.put, List.setIfInBounds_toArray, List.set_cons_zero, List.set_cons_succ])
  (refine wpAnyH_take (i := 5) (v := ?_) rfl (by kernel_rfl) (by kernel_rfl) (by kernel_rfl) (fun _ _ _ h => h) (Or.inl ⟨by kernel_rfl, ?_⟩) (by assumption) ?_; rotate_left; focus (intro w hSw; (try dsimp only at hSw); go_simp; try with_reducible rfl); (try simp only [List.getElem_toArray, List.getElem_cons_succ, List.getElem_cons_zero, Act.put, List.setIfInBounds_toArray, List.set_cons_zero, List.set_cons_succ]))
  refine wpAnyH_ready (rs := [10]) (by kernel_rfl) (by simp) ?_; refine AllReadyH.cons rfl (fun K hK => ?_) AllReadyH.nil
  go_simp
  go_at_call 102
  refine (OO.out.2 _).mono ?_; rintro e w' ⟨rfl, bd⟩
  have KS := Lib.hid (raceS_keep bd hHeld); clear hHeld bd
  go_wp2_with fail
  refine hK.out _ _ KS.out (fun hHeld => ?_)
  clear hK K KS
  (try simp only [List.getElem_toArray, List.getElem_cons_succ, List.getElem_cons_zero, Act.put, List.setIfInBounds_toArray, List.set_cons_zero, List.set_cons_succ])
  (refine wpAnyH_take (i := 11) (v := ?_) rfl (by kernel_rfl) (by kernel_rfl) (by kernel_rfl) (fun _ _ _ h => h) (Or.inl ⟨by kernel_rfl, ?_⟩) (by assumption) ?_; rotate_left; focus (intro w hSw; (try dsimp only at hSw); go_simp; try with_reducible rfl); (try simp only [List.getElem_toArray, List.getElem_cons_succ, List.getElem_cons_zero, Act.put, List.setIfInBounds_toArray, List.set_cons_zero, List.set_cons_succ])); (refine wpAnyH_take (i := 12) (v := ?_) rfl (by kernel_rfl) (by kernel_rfl) (by kernel_rfl) (fun _ _ _ h => h) (Or.inl ⟨by kernel_rfl, ?_⟩) (by assumption) ?_; rotate_left; focus (intro w hSw; (try dsimp only at hSw); go_simp; try with_reducible rfl); (try simp only [List.getElem_toArray, List.getElem_cons_succ, List.getElem_cons_zero, Act.put, List.setIfInBounds_toArray, List.set_cons_zero, List.set_cons_succ])); (refine wpAnyH_take (i := 13) (v := ?_) rfl (by kernel_rfl) (by kernel_rfl) (by kernel_rfl) (fun _ _ _ h => h) (Or.inl ⟨by kernel_rfl, ?_⟩) (by assumption) ?_; rotate_left; focus (intro w hSw; (try dsimp only at hSw); go_simp; try with_reducible rfl); (try simp only [List.getElem_toArray, List.getElem_cons_succ, List.getElem_cons_zero, Act.put, List.setIfInBounds_toArray, List.set_cons_zero, List.set_cons_succ]))
  refine wpAnyH_done (by kernel_rfl) ?_ _
  have KS := Lib.hid hHeld; clear hHeld
  go_wp2_with fail
  go_ret
  exact ⟨rfl, by rw [HGG.out]; exact KS.out.2.2.2.2.2.2.2⟩


/-- The set's own block, as the region reads it. -/
def SetC (g : Nat) (t : ByteArray) (x y : Int) (wi : World) : Prop := wi.cell? ⟨g, 0, none⟩ = some (.string t) ∧ wi.cell? ⟨g, 1, none⟩ = some (.int .i64 x) ∧ wi.cell? ⟨g, 2, none⟩ = some (.int .i64 y)
theorem SetC.keep {g : Nat} {t : ByteArray} {x y : Int} {w w' : World} (h : SetC g t x y w) (hg : g < w.heap.size) (hb : Below w.heap.size w w') : SetC g t x y w' :=
  ⟨by rw [hb.cell (p := ⟨g, 0, none⟩) hg]; exact h.1, by rw [hb.cell (p := ⟨g, 1, none⟩) hg]; exact h.2.1, by rw [hb.cell (p := ⟨g, 2, none⟩) hg]; exact h.2.2⟩
theorem SetC.other {g h o : Nat} {t : ByteArray} {x y : Int} {w : World} {v : Value} (hs : SetC g t x y w) (hne : g ≠ h) : SetC g t x y (w.setCell ⟨h, o, none⟩ v) := by
  have ne : ∀ o', (w.setCell ⟨h, o, none⟩ v).cell? ⟨g, o', none⟩ = w.cell? ⟨g, o', none⟩ := fun o' => World.cell?_setCell_other _ _ _ _ (by intro e; injection e; omega)
  exact ⟨by rw [ne]; exact hs.1, by rw [ne]; exact hs.2.1, by rw [ne]; exact hs.2.2⟩

/-- Once around: what the loop keeps. -/
def FwI (c : UInt8) (F : Int) (O : Bool) (acc A B X Y : Int) : Prop :=
  ∃ f : Nat, nearB A B = true ∧ 14 ≤ (f : Int) + A + B ∧ acc + fewS f A B X Y c = F ∧ (overB A B = false → O = true ∧ wonN (raceTo A B) X Y = 0) ∧ (overB A B = true → decide (winW A B = ⟨#[c]⟩) = O) ∧ 0 ≤ X ∧ X ≤ 300 ∧ 0 ≤ Y ∧ Y ≤ 300 ∧ 0 ≤ acc
theorem FwI.bd {c : UInt8} {F : Int} {O : Bool} {acc A B X Y : Int} (h : FwI c F O acc A B X Y) (hc : c = 97 ∨ c = 98) : 0 ≤ A ∧ A ≤ 7 ∧ 0 ≤ B ∧ B ≤ 7 ∧ A + B ≤ 13 ∧ 0 ≤ X ∧ X ≤ 300 ∧ 0 ≤ Y ∧ Y ≤ 300 ∧ 0 ≤ acc ∧ acc ≤ F := by
  obtain ⟨f, h1, h2, h3, h4, h5, h6, h7, h8, h9, h10⟩ := h
  have hb := near_bd h1
  have := few_pos (f := f) (x := X) (y := Y) hc h1 (fun e => (h4 e).2)
  omega
theorem FwI.next {c : UInt8} {F : Int} {O : Bool} {acc A B X Y : Int} (h : FwI c F O acc A B X Y) (hc : c = 97 ∨ c = 98) (ho : overB A B = false) : FwI c F O (acc + fewR (raceTo A B) X Y c) (A + upA c) (B + upB c) 0 0 := by
  obtain ⟨f, h1, h2, h3, h4, h5, h6, h7, h8, h9, h10⟩ := h
  have hb := near_bd h1
  obtain ⟨f, rfl⟩ : ∃ g, f = g + 1 := ⟨f - 1, by omega⟩
  rw [few_open h1 ho] at h3
  have hp := (few_step hc (h4 ho).2).1
  obtain ⟨n1, n2⟩ := near_step h1 ho
  have hu : upA c + upB c = 1 := by unfold upA upB; split <;> rfl
  have nn : nearB (A + upA c) (B + upB c) = true := by
    rcases hc with rfl | rfl
    · simpa [upA, upB] using n1
    · simpa [upA, upB] using n2
  refine ⟨f, nn, by omega, by omega, fun e => ⟨(h4 ho).1, race_open _ _⟩, fun e => ?_, by omega, by omega, by omega, by omega, by omega⟩
  rw [over_who h1 ho hc e, (h4 ho).1]; simp
theorem FwI.fin {c : UInt8} {F : Int} {O : Bool} {acc A B X Y : Int} (h : FwI c F O acc A B X Y) (ho : overB A B = true) : acc = F ∧ decide (winW A B = ⟨#[c]⟩) = O := by
  obtain ⟨f, h1, h2, h3, h4, h5, h6, h7, h8, h9, h10⟩ := h
  rw [few_over h1 ho] at h3
  exact ⟨by omega, h5 ho⟩
theorem FwI.near {c : UInt8} {F : Int} {O : Bool} {acc A B X Y : Int} (h : FwI c F O acc A B X Y) : nearB A B = true := by
  obtain ⟨f, h1, -⟩ := h; exact h1

theorem fewR_max (to x y : Int) (c : UInt8) : max (to - ofC x y c) (2 - (2 * ofC x y c - x - y)) = fewR to x y c := rfl

/-- At the head of each round: the two boxes. -/
def FwW (w : World) (b h8 h9 : Nat) (A B X Y : Int) (wr : World) : Prop := Pair wr h8 A B ∧ Pair wr h9 X Y ∧ h8 ≠ h9 ∧ b ≤ h8 ∧ b ≤ h9 ∧ Below b w wr
theorem FwW.keep {w wr w' : World} {b h8 h9 : Nat} {A B X Y : Int} (h : FwW w b h8 h9 A B X Y wr) (hb : Below wr.heap.size wr w') : FwW w b h8 h9 A B X Y w' :=
  ⟨h.1.keep hb, h.2.1.keep hb, h.2.2.1, h.2.2.2.1, h.2.2.2.2.1, h.2.2.2.2.2.trans (hb.mono (by have := h.1.1; have := h.2.2.2.1; omega))⟩
theorem FwW.put {w wr : World} {b h8 h9 : Nat} {A B X Y : Int} (h : FwW w b h8 h9 A B X Y wr) (A' B' X' Y' : Int) :
    FwW w b h8 h9 A' B' X' Y' ((((wr.setCell ⟨h8, 0, none⟩ (.int .i64 A')).setCell ⟨h8, 1, none⟩ (.int .i64 B')).setCell ⟨h9, 0, none⟩ (.int .i64 X')).setCell ⟨h9, 1, none⟩ (.int .i64 Y')) := by
  obtain ⟨h1, h2, h3, h4, h5, h6⟩ := h
  exact ⟨pair_other (h1.put A' B') h3, (pair_other h2 (Ne.symm h3)).put X' Y', h3, h4, h5, (((h6.setCell (p := ⟨h8, 0, none⟩) h4 _).setCell (p := ⟨h8, 1, none⟩) h4 _).setCell (p := ⟨h9, 0, none⟩) h5 _).setCell (p := ⟨h9, 1, none⟩) h5 _⟩
theorem FwW.cells {w wr : World} {b h8 h9 : Nat} {A B X Y : Int} (h : FwW w b h8 h9 A B X Y wr) : wr.cell? ⟨h8, 0, none⟩ = some (.int .i64 A) ∧ wr.cell? ⟨h8, 1, none⟩ = some (.int .i64 B) ∧ wr.cell? ⟨h9, 0, none⟩ = some (.int .i64 X) ∧ wr.cell? ⟨h9, 1, none⟩ = some (.int .i64 Y) := ⟨h.1.2.1, h.1.2.2.1, h.2.1.2.1, h.2.1.2.2.1⟩

def RgI (w : World) (g : Nat) (t : ByteArray) (x y : Int) (W : World) : Prop := SetC g t x y W ∧ g < W.heap.size ∧ w.heap.size ≤ g ∧ Below w.heap.size w W
theorem RgI.keep {w : World} {g : Nat} {t : ByteArray} {x y : Int} {W W' : World} (h : RgI w g t x y W) (hb : Below W.heap.size W W') : RgI w g t x y W' :=
  ⟨h.1.keep h.2.1 hb, Nat.lt_of_lt_of_le h.2.1 hb.size, h.2.2.1, h.2.2.2.trans (hb.mono h.2.2.2.size)⟩

set_option maxHeartbeats 12800000 in
set_option maxRecDepth 100000 in
theorem implFewS_any (s t : ByteArray) (c : UInt8) (hc : c = 97 ∨ c = 98) (A B X Y F : Int) (O : Bool) (p0 p1 : Addr) (w : World)
    (HPS : Hid (∀ w, Laid w p0 p1 → Calls Tryd.prog 56 #[.string s] w fun e w' => e = .returned (.tuple #[.agg #[.string t, .int .i64 X, .int .i64 Y], .bool true]) ∧ Below w.heap.size w w'))
    (HC : Hid (∀ w, Calls Tryd.prog 54 #[.string t] w fun e w' => e = .returned (.agg #[.int .i64 A, .int .i64 B]) ∧ Below w.heap.size w w'))
    (HI0 : Hid (FwI c F O 0 A B X Y)) (hF : F ≤ 1000) (HZ : Hid (O = false → F = 0)) (L : Laid w p0 p1) :
    Calls Tryd.prog 30 #[.string s, .string ⟨#[c]⟩] w fun e w' => e = .returned (.tuple #[.int .i64 F, .bool O]) ∧ Below w.heap.size w w' := by
  have HL := Lib.hid L; clear L
  have HSD : Hid (∀ w, Calls Tryd.prog 65 #[.string ⟨#[c]⟩] w fun e w' => e = .returned (.bool true) ∧ w = w') := fun w => by
    have := isSide_any c w
    rw [show isAB c = true from by rcases hc with rfl | rfl <;> rfl] at this
    exact this
  go_enter Tryd.func30, Tryd.ntmps30
  go_wp2_with fail
  refine (HPS.out _ HL.out).mono ?_; rintro e w1 ⟨rfl, b1⟩
  have hs1 : SetC w1.heap.size t X Y (w1.alloc (.cells #[.string t, .int .i64 X, .int .i64 Y] 66)) := ⟨cell_of_row _ _ 0 _ _ _ (heap_alloc_last w1 _), cell_of_row _ _ 1 _ _ _ (heap_alloc_last w1 _), cell_of_row _ _ 2 _ _ _ (heap_alloc_last w1 _)⟩
  have hb1 := b1.alloc b1.size (.cells #[.string t, .int .i64 X, .int .i64 Y] 66)
  have hg1 : w1.heap.size < (w1.alloc (.cells #[.string t, .int .i64 X, .int .i64 Y] 66)).heap.size := by simp
  have RG0 := Lib.hid (And.intro hs1 (And.intro hg1 (And.intro b1.size hb1)))
  clear hs1 hb1 hg1 b1
  go_wp2_with fail
  refine (HSD.out _).mono ?_; rintro e w2 ⟨rfl, rfl⟩
  clear HSD HPS HL
  go_wp2_with fail
  have RG : Hid (RgI w w1.heap.size t X Y (w1.alloc (.cells #[.string t, .int .i64 X, .int .i64 Y] 66)).drew) := RgI.keep (show RgI w w1.heap.size t X Y (w1.alloc (.cells #[.string t, .int .i64 X, .int .i64 Y] 66)) from RG0.out) (Below.drew (Below.refl _ _))
  clear RG0
  refine wp_region_held_drew (S := fun wi => wi.cell? ⟨w1.heap.size, 0, none⟩ = some (.string t) ∧ wi.cell? ⟨w1.heap.size, 1, none⟩ = some (.int .i64 X) ∧ wi.cell? ⟨w1.heap.size, 2, none⟩ = some (.int .i64 Y)) (by kernel_rfl) RG.out.1 (fun hHeld => ?_)
  generalize (w1.alloc (.cells #[.string t, .int .i64 X, .int .i64 Y] 66)).drew = W0 at *
  generalize w1.heap.size = g at *
  (refine wpAnyH_take (i := 0) (v := ?_) rfl (by kernel_rfl) (by kernel_rfl) (by kernel_rfl) (fun _ _ _ h => h) (Or.inl ⟨by kernel_rfl, ?_⟩) (by assumption) ?_; rotate_left; focus (intro w hSw; (try dsimp only at hSw); go_simp; try with_reducible rfl); (try simp only [List.getElem_toArray, List.getElem_cons_succ, List.getElem_cons_zero, Act.put, List.setIfInBounds_toArray, List.set_cons_zero, List.set_cons_succ])); (refine wpAnyH_take (i := 1) (v := ?_) rfl (by kernel_rfl) (by kernel_rfl) (by kernel_rfl) (fun _ _ _ h => h) (Or.inl ⟨by kernel_rfl, ?_⟩) (by assumption) ?_; rotate_left; focus (intro w hSw; (try dsimp only at hSw); go_simp; try with_reducible rfl); (try simp only [List.getElem_toArray, List.getElem_cons_succ, List.getElem_cons_zero, Act.put, List.setIfInBounds_toArray, List.set_cons_zero, List.set_cons_succ])); (refine wpAnyH_take (i := 3) (v := ?_) rfl (by kernel_rfl) (by kernel_rfl) (by kernel_rfl) (fun _ _ _ h => h) (Or.inl ⟨by kernel_rfl, ?_⟩) (by assumption) ?_; rotate_left; focus (intro w hSw; (try dsimp only at hSw); go_simp; try with_reducible rfl); (try simp only [List.getElem_toArray, List.getElem_cons_succ, List.getElem_cons_zero, Act.put, List.setIfInBounds_toArray, List.set_cons_zero, List.set_cons_succ])); (refine wpAnyH_take (i := 4) (v := ?_) rfl (by kernel_rfl) (by kernel_rfl) (by kernel_rfl) (fun _ _ _ h => h) (Or.inl ⟨by kernel_rfl, ?_⟩) (by assumption) ?_; rotate_left; focus (intro w hSw; (try dsimp only at hSw); go_simp; try with_reducible rfl); (try simp only [List.getElem_toArray, List.getElem_cons_succ, List.getElem_cons_zero, Act.put, List.setIfInBounds_toArray, List.set_cons_zero, List.set_cons_succ]))
  clear hHeld
  refine wpAnyH_ready (rs := [2, 5, 6]) (by kernel_rfl) (by simp) (AllReadyH.cons rfl (fun K hK => ?_) (AllReadyH.cons rfl (fun K hK => ?_) (AllReadyH.cons rfl (fun K hK => ?_) (AllReadyH.nil))))
  · skip
    go_simp
    go_at_call 54
    refine (HC.out _).mono ?_; rintro e W1 ⟨rfl, bd⟩
    have RGn := Lib.hid (RG.out.keep bd)
    clear bd RG
    have RG := RGn; clear RGn
    go_wp2_with fail
    first
      | refine hK.out _ _ RG.out.1 (fun hHeld => ?_)
      | refine hK _ _ RG.out.1 (fun hHeld => ?_)
    clear hK K hHeld
    (try simp only [List.getElem_toArray, List.getElem_cons_succ, List.getElem_cons_zero, Act.put, List.setIfInBounds_toArray, List.set_cons_zero, List.set_cons_succ])
    refine wpAnyH_ready (rs := [5, 6]) (by kernel_rfl) (by simp) (AllReadyH.cons rfl (fun K hK => ?_) (AllReadyH.cons rfl (fun K hK => ?_) (AllReadyH.nil)))
    · skip
      go_simp
      have RGn := Lib.hid (RG.out.keep ((Below.refl _ _).alloc (Nat.le_refl _) (.cells #[.int .i64 0, .int .i64 0] 63)))
      have P8n := Lib.hid (Pair.new W1 0 0 63)
      have q8 := RG.out.2.2.2.size; have r8 := RG.out.2.1
      clear  RG
      have RG := RGn; clear RGn
      have P8 := P8n; clear P8n
      first
        | refine hK.out _ _ RG.out.1 (fun hHeld => ?_)
        | refine hK _ _ RG.out.1 (fun hHeld => ?_)
      clear hK K hHeld
      (try simp only [List.getElem_toArray, List.getElem_cons_succ, List.getElem_cons_zero, Act.put, List.setIfInBounds_toArray, List.set_cons_zero, List.set_cons_succ])
      generalize W1.alloc (.cells #[.int .i64 0, .int .i64 0] 63) = W2 at *
      generalize W1.heap.size = h8 at *
      refine wpAnyH_ready (rs := [6]) (by kernel_rfl) (by simp) ?_; refine AllReadyH.cons rfl (fun K hK => ?_) AllReadyH.nil
      go_simp
      have RGn := Lib.hid (RG.out.keep ((Below.refl _ _).alloc (Nat.le_refl _) (.cells #[.int .i64 0, .int .i64 0] 63)))
      have P8n := Lib.hid (P8.out.keep ((Below.refl _ _).alloc (Nat.le_refl _) (.cells #[.int .i64 0, .int .i64 0] 63)))
      have P9n := Lib.hid (Pair.new W2 0 0 63)
      have q9 := RG.out.2.2.2.size; have r9 := RG.out.2.1
      have e89 := P8.out.1
      clear  RG P8
      have RG := RGn; clear RGn
      have P8 := P8n; clear P8n
      have P9 := P9n; clear P9n
      first
        | refine hK.out _ _ RG.out.1 (fun hHeld => ?_)
        | refine hK _ _ RG.out.1 (fun hHeld => ?_)
      clear hK K hHeld
      (try simp only [List.getElem_toArray, List.getElem_cons_succ, List.getElem_cons_zero, Act.put, List.setIfInBounds_toArray, List.set_cons_zero, List.set_cons_succ])
      generalize W2.alloc (.cells #[.int .i64 0, .int .i64 0] 63) = W3 at *
      generalize W2.heap.size = h9 at *
      have hne : h8 ≠ h9 := by omega
      have HW : Hid (FwW w w.heap.size h8 h9 0 0 0 0 W3) := ⟨P8.out, P9.out, hne, by omega, by omega, RG.out.2.2.2⟩
      have n8 : g ≠ h8 := by omega
      have n9 : g ≠ h9 := by omega
      obtain ⟨-, c80, c81, f80, f81⟩ := P8.out
      refine wpAnyH_ready (rs := [7]) (by kernel_rfl) (by simp) ?_; refine AllReadyH.cons rfl (fun K hK => ?_) AllReadyH.nil
      go_simp
      clear c80 c81 f80 f81
      first
        | refine hK.out _ _ (((RG.out.1).other n8).other n8) (fun hHeld => ?_)
        | refine hK _ _ (((RG.out.1).other n8).other n8) (fun hHeld => ?_)
      clear hK K hHeld
      (try simp only [List.getElem_toArray, List.getElem_cons_succ, List.getElem_cons_zero, Act.put, List.setIfInBounds_toArray, List.set_cons_zero, List.set_cons_succ])
      obtain ⟨-, c90, c91, f90, f91⟩ := pair_other (h := h8) (u := .int .i64 A) (v := .int .i64 B) P9.out (Ne.symm hne)
      refine wpAnyH_ready (rs := [8]) (by kernel_rfl) (by simp) ?_; refine AllReadyH.cons rfl (fun K hK => ?_) AllReadyH.nil
      go_simp
      clear c90 c91 f90 f91
      first
        | refine hK.out _ _ (((((RG.out.1).other n8).other n8).other n9).other n9) (fun hHeld => ?_)
        | refine hK _ _ (((((RG.out.1).other n8).other n8).other n9).other n9) (fun hHeld => ?_)
      clear hK K
      (try simp only [List.getElem_toArray, List.getElem_cons_succ, List.getElem_cons_zero, Act.put, List.setIfInBounds_toArray, List.set_cons_zero, List.set_cons_succ])
      have H0 := Lib.hid (HW.out.put A B X Y)
      clear HW P8 P9 RG n8 n9 hne
      generalize (((W3.setCell ⟨h8, 0, none⟩ (.int .i64 A)).setCell ⟨h8, 1, none⟩ (.int .i64 B)).setCell ⟨h9, 0, none⟩ (.int .i64 X)).setCell ⟨h9, 1, none⟩ (.int .i64 Y) = WL at *
      (refine wpAnyH_take (i := 9) (v := ?_) rfl (by kernel_rfl) (by kernel_rfl) (by kernel_rfl) (fun _ _ _ h => h) (Or.inl ⟨by kernel_rfl, ?_⟩) (by assumption) ?_; rotate_left; focus (intro w hSw; (try dsimp only at hSw); go_simp; try with_reducible rfl); (try simp only [List.getElem_toArray, List.getElem_cons_succ, List.getElem_cons_zero, Act.put, List.setIfInBounds_toArray, List.set_cons_zero, List.set_cons_succ]))
      clear hHeld
      refine wpAnyH_done (by kernel_rfl) ?_ _
      (try simp only [List.getElem_toArray, List.getElem_cons_succ, List.getElem_cons_zero, Act.put, List.setIfInBounds_toArray, List.set_cons_zero, List.set_cons_succ])
      clear HC
      go_wp2_with fail
      go_loopw [10] (fun i wr => ∃ (acc A B X Y : Int), i = .int .i64 acc ∧ Hid (FwI c F O acc A B X Y) ∧ Hid (FwW w w.heap.size h8 h9 A B X Y wr)) (fun i _ => (F + 1 - intOf i).toNat)
      case atStart => exact ⟨0, A, B, X, Y, rfl, HI0, H0⟩
      case round =>
        clear HI0 H0
        obtain ⟨acc, A, B, X, Y, rfl, HI, HW⟩ := hrel
        obtain ⟨a0, a7, b0, b7, ab, x0, x3, y0, y3, c0, cF⟩ := HI.out.bd hc
        have HWG := Lib.hid (fun W => winnerOfGames_any A B W)
        obtain ⟨p0, p1, p2, p3⟩ := HW.out.cells
        cases ho : overB A B
        · have hsd : sideS (winN A B) = ⟨#[]⟩ := by have := near_side HI.out.near; rw [ho] at this; exact this
          rw [hsd] at HWG
          have hnx := HI.out.next hc ho
          have hr4 : raceTo A B = race4 A B := race_eq A B
          rw [hr4] at hnx
          have hto : 1 ≤ race4 A B ∧ race4 A B ≤ 30 := by unfold race4; split <;> omega
          have HRB := Lib.hid (fun W => raceBehind_any A B W)
          have HFR := Lib.hid (fun W => fewestToRace_any (race4 A B) 2 X Y c W hto (by omega) x0 (by omega) y0 (by omega))
          rw [fewR_max] at HFR
          have hbn := FwI.bd hnx hc
          have hps := (few_step (to := race4 A B) (x := X) (y := Y) hc (by rw [← hr4]; obtain ⟨f, -, -, -, h4, -⟩ := HI.out; exact (h4 ho).2)).1
          have HNX := Lib.hid hnx
          have HPL := Lib.hid (fun W => plus_any A B c W a0 (by omega) b0 (by omega))
          clear hsd hnx hr4 hto ho HI
          generalize race4 A B = to at *
          generalize fewR to X Y c = R at *
          generalize A + upA c = A2 at *
          generalize B + upB c = B2 at *
          have hbr : acc + R ≤ F := hbn.2.2.2.2.2.2.2.2.2.2
          clear hbn
          have t1 : IntKind.i64.wrap (acc + R) = acc + R := IntWalk.i64_in _ (by omega)
          go_wp2_with fail
          refine (HWG.out _).mono ?_; rintro e w3 ⟨rfl, b3⟩
          have HW3 := Lib.hid (HW.out.keep b3); clear b3 HW p0 p1 p2 p3 HWG
          go_wp2_with fail
          have KS := Lib.hid (HW3.out.keep (Below.drew (Below.refl w3.heap.size w3))); clear HW3
          refine wp_region_held_drew (S := fun wi => wi.cell? ⟨h8, 0, none⟩ = some (.int .i64 A) ∧ wi.cell? ⟨h8, 1, none⟩ = some (.int .i64 B) ∧ wi.cell? ⟨h9, 0, none⟩ = some (.int .i64 X) ∧ wi.cell? ⟨h9, 1, none⟩ = some (.int .i64 Y)) (by kernel_rfl) KS.out.cells (fun hHeld => ?_)
          generalize w3.drew = W3 at *
          (refine wpAnyH_take (i := 0) (v := ?_) rfl (by kernel_rfl) (by kernel_rfl) (by kernel_rfl) (fun _ _ _ h => h) (Or.inl ⟨by kernel_rfl, ?_⟩) (by assumption) ?_; rotate_left; focus (intro w hSw; (try dsimp only at hSw); go_simp; try with_reducible rfl); (try simp only [List.getElem_toArray, List.getElem_cons_succ, List.getElem_cons_zero, Act.put, List.setIfInBounds_toArray, List.set_cons_zero, List.set_cons_succ])); (refine wpAnyH_take (i := 1) (v := ?_) rfl (by kernel_rfl) (by kernel_rfl) (by kernel_rfl) (fun _ _ _ h => h) (Or.inl ⟨by kernel_rfl, ?_⟩) (by assumption) ?_; rotate_left; focus (intro w hSw; (try dsimp only at hSw); go_simp; try with_reducible rfl); (try simp only [List.getElem_toArray, List.getElem_cons_succ, List.getElem_cons_zero, Act.put, List.setIfInBounds_toArray, List.set_cons_zero, List.set_cons_succ])); (refine wpAnyH_take (i := 3) (v := ?_) rfl (by kernel_rfl) (by kernel_rfl) (by kernel_rfl) (fun _ _ _ h => h) (Or.inl ⟨by kernel_rfl, ?_⟩) (by assumption) ?_; rotate_left; focus (intro w hSw; (try dsimp only at hSw); go_simp; try with_reducible rfl); (try simp only [List.getElem_toArray, List.getElem_cons_succ, List.getElem_cons_zero, Act.put, List.setIfInBounds_toArray, List.set_cons_zero, List.set_cons_succ])); (refine wpAnyH_take (i := 4) (v := ?_) rfl (by kernel_rfl) (by kernel_rfl) (by kernel_rfl) (fun _ _ _ h => h) (Or.inl ⟨by kernel_rfl, ?_⟩) (by assumption) ?_; rotate_left; focus (intro w hSw; (try dsimp only at hSw); go_simp; try with_reducible rfl); (try simp only [List.getElem_toArray, List.getElem_cons_succ, List.getElem_cons_zero, Act.put, List.setIfInBounds_toArray, List.set_cons_zero, List.set_cons_succ]))
          clear hHeld
          refine wpAnyH_ready (rs := [2]) (by kernel_rfl) (by simp) ?_; refine AllReadyH.cons rfl (fun K hK => ?_) AllReadyH.nil
          go_simp
          go_at_call 67
          refine (HRB.out _).mono ?_; rintro e w4 ⟨rfl, b4⟩
          have K4 := Lib.hid (KS.out.keep b4); clear b4 KS HRB
          go_wp2_with fail
          first
            | refine hK.out _ _ K4.out.cells (fun hHeld => ?_)
            | refine hK _ _ K4.out.cells (fun hHeld => ?_)
          clear hK K hHeld
          (try simp only [List.getElem_toArray, List.getElem_cons_succ, List.getElem_cons_zero, Act.put, List.setIfInBounds_toArray, List.set_cons_zero, List.set_cons_succ])
          refine wpAnyH_ready (rs := [5]) (by kernel_rfl) (by simp) ?_; refine AllReadyH.cons rfl (fun K hK => ?_) AllReadyH.nil
          go_simp
          go_at_call 66
          refine (HFR.out _).mono ?_; rintro e w5 ⟨rfl, b5⟩
          have K5 := Lib.hid (K4.out.keep b5); clear b5 K4 HFR
          go_wp2_with fail
          first
            | refine hK.out _ _ K5.out.cells (fun hHeld => ?_)
            | refine hK _ _ K5.out.cells (fun hHeld => ?_)
          clear hK K
          (try simp only [List.getElem_toArray, List.getElem_cons_succ, List.getElem_cons_zero, Act.put, List.setIfInBounds_toArray, List.set_cons_zero, List.set_cons_succ])
          (refine wpAnyH_take (i := 6) (v := ?_) rfl (by kernel_rfl) (by kernel_rfl) (by kernel_rfl) (fun _ _ _ h => h) (Or.inl ⟨by kernel_rfl, ?_⟩) (by assumption) ?_; rotate_left; focus (intro w hSw; (try dsimp only at hSw); go_simp; try with_reducible rfl); (try simp only [List.getElem_toArray, List.getElem_cons_succ, List.getElem_cons_zero, Act.put, List.setIfInBounds_toArray, List.set_cons_zero, List.set_cons_succ])); (refine wpAnyH_take (i := 7) (v := ?_) rfl (by kernel_rfl) (by kernel_rfl) (by kernel_rfl) (fun _ _ _ h => h) (Or.inl ⟨by kernel_rfl, ?_⟩) (by assumption) ?_; rotate_left; focus (intro w hSw; (try dsimp only at hSw); go_simp; try with_reducible rfl); (try simp only [List.getElem_toArray, List.getElem_cons_succ, List.getElem_cons_zero, Act.put, List.setIfInBounds_toArray, List.set_cons_zero, List.set_cons_succ]))
          clear hHeld
          refine wpAnyH_done (by kernel_rfl) ?_ _
          (try simp only [List.getElem_toArray, List.getElem_cons_succ, List.getElem_cons_zero, Act.put, List.setIfInBounds_toArray, List.set_cons_zero, List.set_cons_succ])
          obtain ⟨p0, p1, p2, p3⟩ := K5.out.cells
          go_wp2_with fail
          refine (HPL.out _).mono ?_; rintro e w6 ⟨rfl, b6⟩
          have K6 := Lib.hid (K5.out.keep b6); clear b6 K5 HPL p0 p1 p2 p3
          obtain ⟨-, p0, p1, f0, f1⟩ := K6.out.1
          obtain ⟨-, p2, p3, f2, f3⟩ := K6.out.2.1
          have hne := K6.out.2.2.1
          have hne' : ¬ h9 = h8 := fun e => hne e.symm
          have K7 := Lib.hid (K6.out.put A2 B2 0 0)
          go_wp2_with fail
          clear p0 p1 p2 p3 f0 f1 f2 f3
          go_roundw
          case rel => exact ⟨acc + R, A2, B2, 0, 0, by go_num, HNX, K7⟩
          case measure => simp [intOf]; omega
        · have hsd : sideS (winN A B) = winW A B := by have := near_side HI.out.near; rw [ho] at this; rw [this]; unfold winW; rw [ho]; rfl
          obtain ⟨hfin, hdec⟩ := HI.out.fin ho
          have hw2 : winW A B = ⟨#[97]⟩ ∨ winW A B = ⟨#[98]⟩ := by
            unfold winW; rw [ho]; simp only [if_true]
            split
            · exact .inl rfl
            · exact .inr rfl
          rw [hsd] at HWG
          have HD := Lib.hid (And.intro hfin hdec); clear hfin hdec hsd ho HI
          rcases hw2 with hw2 | hw2
          all_goals
            rw [hw2] at HWG HD
            clear hw2
            rcases hc with rfl | rfl
          all_goals
            go_wp2_with fail
            refine (HWG.out _).mono ?_; rintro e w3 ⟨rfl, b3⟩
            have HW3 := Lib.hid (HW.out.keep b3); clear b3 HW p0 p1 p2 p3
            obtain ⟨p0, p1, p2, p3⟩ := HW3.out.cells
            go_wp2_with fail
            refine (HWG.out _).mono ?_; rintro e w4 ⟨rfl, b4⟩
            have HW4 := Lib.hid (HW3.out.keep b4); clear b4 HW3 p0 p1 p2 p3
            go_wp2_with fail
            go_ret2
            first
              | exact ⟨by rw [← HD.out.2, ← HD.out.1]; rfl, HW4.out.2.2.2.2.2⟩
              | exact ⟨by rw [HZ.out (by rw [← HD.out.2]; decide), ← HD.out.2]; rfl, HW4.out.2.2.2.2.2⟩
    · skip
      go_simp
      have RGn := Lib.hid (RG.out.keep ((Below.refl _ _).alloc (Nat.le_refl _) (.cells #[.int .i64 0, .int .i64 0] 63)))
      have P9n := Lib.hid (Pair.new W1 0 0 63)
      have q9 := RG.out.2.2.2.size; have r9 := RG.out.2.1
      clear  RG
      have RG := RGn; clear RGn
      have P9 := P9n; clear P9n
      first
        | refine hK.out _ _ RG.out.1 (fun hHeld => ?_)
        | refine hK _ _ RG.out.1 (fun hHeld => ?_)
      clear hK K hHeld
      (try simp only [List.getElem_toArray, List.getElem_cons_succ, List.getElem_cons_zero, Act.put, List.setIfInBounds_toArray, List.set_cons_zero, List.set_cons_succ])
      generalize W1.alloc (.cells #[.int .i64 0, .int .i64 0] 63) = W2 at *
      generalize W1.heap.size = h9 at *
      refine wpAnyH_ready (rs := [5]) (by kernel_rfl) (by simp) ?_; refine AllReadyH.cons rfl (fun K hK => ?_) AllReadyH.nil
      go_simp
      have RGn := Lib.hid (RG.out.keep ((Below.refl _ _).alloc (Nat.le_refl _) (.cells #[.int .i64 0, .int .i64 0] 63)))
      have P9n := Lib.hid (P9.out.keep ((Below.refl _ _).alloc (Nat.le_refl _) (.cells #[.int .i64 0, .int .i64 0] 63)))
      have P8n := Lib.hid (Pair.new W2 0 0 63)
      have q8 := RG.out.2.2.2.size; have r8 := RG.out.2.1
      have e98 := P9.out.1
      clear  RG P9
      have RG := RGn; clear RGn
      have P9 := P9n; clear P9n
      have P8 := P8n; clear P8n
      first
        | refine hK.out _ _ RG.out.1 (fun hHeld => ?_)
        | refine hK _ _ RG.out.1 (fun hHeld => ?_)
      clear hK K hHeld
      (try simp only [List.getElem_toArray, List.getElem_cons_succ, List.getElem_cons_zero, Act.put, List.setIfInBounds_toArray, List.set_cons_zero, List.set_cons_succ])
      generalize W2.alloc (.cells #[.int .i64 0, .int .i64 0] 63) = W3 at *
      generalize W2.heap.size = h8 at *
      have hne : h8 ≠ h9 := by omega
      have HW : Hid (FwW w w.heap.size h8 h9 0 0 0 0 W3) := ⟨P8.out, P9.out, hne, by omega, by omega, RG.out.2.2.2⟩
      have n8 : g ≠ h8 := by omega
      have n9 : g ≠ h9 := by omega
      obtain ⟨-, c80, c81, f80, f81⟩ := P8.out
      refine wpAnyH_ready (rs := [7]) (by kernel_rfl) (by simp) ?_; refine AllReadyH.cons rfl (fun K hK => ?_) AllReadyH.nil
      go_simp
      clear c80 c81 f80 f81
      first
        | refine hK.out _ _ (((RG.out.1).other n8).other n8) (fun hHeld => ?_)
        | refine hK _ _ (((RG.out.1).other n8).other n8) (fun hHeld => ?_)
      clear hK K hHeld
      (try simp only [List.getElem_toArray, List.getElem_cons_succ, List.getElem_cons_zero, Act.put, List.setIfInBounds_toArray, List.set_cons_zero, List.set_cons_succ])
      obtain ⟨-, c90, c91, f90, f91⟩ := pair_other (h := h8) (u := .int .i64 A) (v := .int .i64 B) P9.out (Ne.symm hne)
      refine wpAnyH_ready (rs := [8]) (by kernel_rfl) (by simp) ?_; refine AllReadyH.cons rfl (fun K hK => ?_) AllReadyH.nil
      go_simp
      clear c90 c91 f90 f91
      first
        | refine hK.out _ _ (((((RG.out.1).other n8).other n8).other n9).other n9) (fun hHeld => ?_)
        | refine hK _ _ (((((RG.out.1).other n8).other n8).other n9).other n9) (fun hHeld => ?_)
      clear hK K
      (try simp only [List.getElem_toArray, List.getElem_cons_succ, List.getElem_cons_zero, Act.put, List.setIfInBounds_toArray, List.set_cons_zero, List.set_cons_succ])
      have H0 := Lib.hid (HW.out.put A B X Y)
      clear HW P8 P9 RG n8 n9 hne
      generalize (((W3.setCell ⟨h8, 0, none⟩ (.int .i64 A)).setCell ⟨h8, 1, none⟩ (.int .i64 B)).setCell ⟨h9, 0, none⟩ (.int .i64 X)).setCell ⟨h9, 1, none⟩ (.int .i64 Y) = WL at *
      (refine wpAnyH_take (i := 9) (v := ?_) rfl (by kernel_rfl) (by kernel_rfl) (by kernel_rfl) (fun _ _ _ h => h) (Or.inl ⟨by kernel_rfl, ?_⟩) (by assumption) ?_; rotate_left; focus (intro w hSw; (try dsimp only at hSw); go_simp; try with_reducible rfl); (try simp only [List.getElem_toArray, List.getElem_cons_succ, List.getElem_cons_zero, Act.put, List.setIfInBounds_toArray, List.set_cons_zero, List.set_cons_succ]))
      clear hHeld
      refine wpAnyH_done (by kernel_rfl) ?_ _
      (try simp only [List.getElem_toArray, List.getElem_cons_succ, List.getElem_cons_zero, Act.put, List.setIfInBounds_toArray, List.set_cons_zero, List.set_cons_succ])
      clear HC
      go_wp2_with fail
      go_loopw [10] (fun i wr => ∃ (acc A B X Y : Int), i = .int .i64 acc ∧ Hid (FwI c F O acc A B X Y) ∧ Hid (FwW w w.heap.size h8 h9 A B X Y wr)) (fun i _ => (F + 1 - intOf i).toNat)
      case atStart => exact ⟨0, A, B, X, Y, rfl, HI0, H0⟩
      case round =>
        clear HI0 H0
        obtain ⟨acc, A, B, X, Y, rfl, HI, HW⟩ := hrel
        obtain ⟨a0, a7, b0, b7, ab, x0, x3, y0, y3, c0, cF⟩ := HI.out.bd hc
        have HWG := Lib.hid (fun W => winnerOfGames_any A B W)
        obtain ⟨p0, p1, p2, p3⟩ := HW.out.cells
        cases ho : overB A B
        · have hsd : sideS (winN A B) = ⟨#[]⟩ := by have := near_side HI.out.near; rw [ho] at this; exact this
          rw [hsd] at HWG
          have hnx := HI.out.next hc ho
          have hr4 : raceTo A B = race4 A B := race_eq A B
          rw [hr4] at hnx
          have hto : 1 ≤ race4 A B ∧ race4 A B ≤ 30 := by unfold race4; split <;> omega
          have HRB := Lib.hid (fun W => raceBehind_any A B W)
          have HFR := Lib.hid (fun W => fewestToRace_any (race4 A B) 2 X Y c W hto (by omega) x0 (by omega) y0 (by omega))
          rw [fewR_max] at HFR
          have hbn := FwI.bd hnx hc
          have hps := (few_step (to := race4 A B) (x := X) (y := Y) hc (by rw [← hr4]; obtain ⟨f, -, -, -, h4, -⟩ := HI.out; exact (h4 ho).2)).1
          have HNX := Lib.hid hnx
          have HPL := Lib.hid (fun W => plus_any A B c W a0 (by omega) b0 (by omega))
          clear hsd hnx hr4 hto ho HI
          generalize race4 A B = to at *
          generalize fewR to X Y c = R at *
          generalize A + upA c = A2 at *
          generalize B + upB c = B2 at *
          have hbr : acc + R ≤ F := hbn.2.2.2.2.2.2.2.2.2.2
          clear hbn
          have t1 : IntKind.i64.wrap (acc + R) = acc + R := IntWalk.i64_in _ (by omega)
          go_wp2_with fail
          refine (HWG.out _).mono ?_; rintro e w3 ⟨rfl, b3⟩
          have HW3 := Lib.hid (HW.out.keep b3); clear b3 HW p0 p1 p2 p3 HWG
          go_wp2_with fail
          have KS := Lib.hid (HW3.out.keep (Below.drew (Below.refl w3.heap.size w3))); clear HW3
          refine wp_region_held_drew (S := fun wi => wi.cell? ⟨h8, 0, none⟩ = some (.int .i64 A) ∧ wi.cell? ⟨h8, 1, none⟩ = some (.int .i64 B) ∧ wi.cell? ⟨h9, 0, none⟩ = some (.int .i64 X) ∧ wi.cell? ⟨h9, 1, none⟩ = some (.int .i64 Y)) (by kernel_rfl) KS.out.cells (fun hHeld => ?_)
          generalize w3.drew = W3 at *
          (refine wpAnyH_take (i := 0) (v := ?_) rfl (by kernel_rfl) (by kernel_rfl) (by kernel_rfl) (fun _ _ _ h => h) (Or.inl ⟨by kernel_rfl, ?_⟩) (by assumption) ?_; rotate_left; focus (intro w hSw; (try dsimp only at hSw); go_simp; try with_reducible rfl); (try simp only [List.getElem_toArray, List.getElem_cons_succ, List.getElem_cons_zero, Act.put, List.setIfInBounds_toArray, List.set_cons_zero, List.set_cons_succ])); (refine wpAnyH_take (i := 1) (v := ?_) rfl (by kernel_rfl) (by kernel_rfl) (by kernel_rfl) (fun _ _ _ h => h) (Or.inl ⟨by kernel_rfl, ?_⟩) (by assumption) ?_; rotate_left; focus (intro w hSw; (try dsimp only at hSw); go_simp; try with_reducible rfl); (try simp only [List.getElem_toArray, List.getElem_cons_succ, List.getElem_cons_zero, Act.put, List.setIfInBounds_toArray, List.set_cons_zero, List.set_cons_succ])); (refine wpAnyH_take (i := 3) (v := ?_) rfl (by kernel_rfl) (by kernel_rfl) (by kernel_rfl) (fun _ _ _ h => h) (Or.inl ⟨by kernel_rfl, ?_⟩) (by assumption) ?_; rotate_left; focus (intro w hSw; (try dsimp only at hSw); go_simp; try with_reducible rfl); (try simp only [List.getElem_toArray, List.getElem_cons_succ, List.getElem_cons_zero, Act.put, List.setIfInBounds_toArray, List.set_cons_zero, List.set_cons_succ])); (refine wpAnyH_take (i := 4) (v := ?_) rfl (by kernel_rfl) (by kernel_rfl) (by kernel_rfl) (fun _ _ _ h => h) (Or.inl ⟨by kernel_rfl, ?_⟩) (by assumption) ?_; rotate_left; focus (intro w hSw; (try dsimp only at hSw); go_simp; try with_reducible rfl); (try simp only [List.getElem_toArray, List.getElem_cons_succ, List.getElem_cons_zero, Act.put, List.setIfInBounds_toArray, List.set_cons_zero, List.set_cons_succ]))
          clear hHeld
          refine wpAnyH_ready (rs := [2]) (by kernel_rfl) (by simp) ?_; refine AllReadyH.cons rfl (fun K hK => ?_) AllReadyH.nil
          go_simp
          go_at_call 67
          refine (HRB.out _).mono ?_; rintro e w4 ⟨rfl, b4⟩
          have K4 := Lib.hid (KS.out.keep b4); clear b4 KS HRB
          go_wp2_with fail
          first
            | refine hK.out _ _ K4.out.cells (fun hHeld => ?_)
            | refine hK _ _ K4.out.cells (fun hHeld => ?_)
          clear hK K hHeld
          (try simp only [List.getElem_toArray, List.getElem_cons_succ, List.getElem_cons_zero, Act.put, List.setIfInBounds_toArray, List.set_cons_zero, List.set_cons_succ])
          refine wpAnyH_ready (rs := [5]) (by kernel_rfl) (by simp) ?_; refine AllReadyH.cons rfl (fun K hK => ?_) AllReadyH.nil
          go_simp
          go_at_call 66
          refine (HFR.out _).mono ?_; rintro e w5 ⟨rfl, b5⟩
          have K5 := Lib.hid (K4.out.keep b5); clear b5 K4 HFR
          go_wp2_with fail
          first
            | refine hK.out _ _ K5.out.cells (fun hHeld => ?_)
            | refine hK _ _ K5.out.cells (fun hHeld => ?_)
          clear hK K
          (try simp only [List.getElem_toArray, List.getElem_cons_succ, List.getElem_cons_zero, Act.put, List.setIfInBounds_toArray, List.set_cons_zero, List.set_cons_succ])
          (refine wpAnyH_take (i := 6) (v := ?_) rfl (by kernel_rfl) (by kernel_rfl) (by kernel_rfl) (fun _ _ _ h => h) (Or.inl ⟨by kernel_rfl, ?_⟩) (by assumption) ?_; rotate_left; focus (intro w hSw; (try dsimp only at hSw); go_simp; try with_reducible rfl); (try simp only [List.getElem_toArray, List.getElem_cons_succ, List.getElem_cons_zero, Act.put, List.setIfInBounds_toArray, List.set_cons_zero, List.set_cons_succ])); (refine wpAnyH_take (i := 7) (v := ?_) rfl (by kernel_rfl) (by kernel_rfl) (by kernel_rfl) (fun _ _ _ h => h) (Or.inl ⟨by kernel_rfl, ?_⟩) (by assumption) ?_; rotate_left; focus (intro w hSw; (try dsimp only at hSw); go_simp; try with_reducible rfl); (try simp only [List.getElem_toArray, List.getElem_cons_succ, List.getElem_cons_zero, Act.put, List.setIfInBounds_toArray, List.set_cons_zero, List.set_cons_succ]))
          clear hHeld
          refine wpAnyH_done (by kernel_rfl) ?_ _
          (try simp only [List.getElem_toArray, List.getElem_cons_succ, List.getElem_cons_zero, Act.put, List.setIfInBounds_toArray, List.set_cons_zero, List.set_cons_succ])
          obtain ⟨p0, p1, p2, p3⟩ := K5.out.cells
          go_wp2_with fail
          refine (HPL.out _).mono ?_; rintro e w6 ⟨rfl, b6⟩
          have K6 := Lib.hid (K5.out.keep b6); clear b6 K5 HPL p0 p1 p2 p3
          obtain ⟨-, p0, p1, f0, f1⟩ := K6.out.1
          obtain ⟨-, p2, p3, f2, f3⟩ := K6.out.2.1
          have hne := K6.out.2.2.1
          have hne' : ¬ h9 = h8 := fun e => hne e.symm
          have K7 := Lib.hid (K6.out.put A2 B2 0 0)
          go_wp2_with fail
          clear p0 p1 p2 p3 f0 f1 f2 f3
          go_roundw
          case rel => exact ⟨acc + R, A2, B2, 0, 0, by go_num, HNX, K7⟩
          case measure => simp [intOf]; omega
        · have hsd : sideS (winN A B) = winW A B := by have := near_side HI.out.near; rw [ho] at this; rw [this]; unfold winW; rw [ho]; rfl
          obtain ⟨hfin, hdec⟩ := HI.out.fin ho
          have hw2 : winW A B = ⟨#[97]⟩ ∨ winW A B = ⟨#[98]⟩ := by
            unfold winW; rw [ho]; simp only [if_true]
            split
            · exact .inl rfl
            · exact .inr rfl
          rw [hsd] at HWG
          have HD := Lib.hid (And.intro hfin hdec); clear hfin hdec hsd ho HI
          rcases hw2 with hw2 | hw2
          all_goals
            rw [hw2] at HWG HD
            clear hw2
            rcases hc with rfl | rfl
          all_goals
            go_wp2_with fail
            refine (HWG.out _).mono ?_; rintro e w3 ⟨rfl, b3⟩
            have HW3 := Lib.hid (HW.out.keep b3); clear b3 HW p0 p1 p2 p3
            obtain ⟨p0, p1, p2, p3⟩ := HW3.out.cells
            go_wp2_with fail
            refine (HWG.out _).mono ?_; rintro e w4 ⟨rfl, b4⟩
            have HW4 := Lib.hid (HW3.out.keep b4); clear b4 HW3 p0 p1 p2 p3
            go_wp2_with fail
            go_ret2
            first
              | exact ⟨by rw [← HD.out.2, ← HD.out.1]; rfl, HW4.out.2.2.2.2.2⟩
              | exact ⟨by rw [HZ.out (by rw [← HD.out.2]; decide), ← HD.out.2]; rfl, HW4.out.2.2.2.2.2⟩
  · skip
    go_simp
    have RGn := Lib.hid (RG.out.keep ((Below.refl _ _).alloc (Nat.le_refl _) (.cells #[.int .i64 0, .int .i64 0] 63)))
    have P8n := Lib.hid (Pair.new W0 0 0 63)
    have q8 := RG.out.2.2.2.size; have r8 := RG.out.2.1
    clear  RG
    have RG := RGn; clear RGn
    have P8 := P8n; clear P8n
    first
      | refine hK.out _ _ RG.out.1 (fun hHeld => ?_)
      | refine hK _ _ RG.out.1 (fun hHeld => ?_)
    clear hK K hHeld
    (try simp only [List.getElem_toArray, List.getElem_cons_succ, List.getElem_cons_zero, Act.put, List.setIfInBounds_toArray, List.set_cons_zero, List.set_cons_succ])
    generalize W0.alloc (.cells #[.int .i64 0, .int .i64 0] 63) = W1 at *
    generalize W0.heap.size = h8 at *
    refine wpAnyH_ready (rs := [2, 6]) (by kernel_rfl) (by simp) (AllReadyH.cons rfl (fun K hK => ?_) (AllReadyH.cons rfl (fun K hK => ?_) (AllReadyH.nil)))
    · skip
      go_simp
      go_at_call 54
      refine (HC.out _).mono ?_; rintro e W2 ⟨rfl, bd⟩
      have RGn := Lib.hid (RG.out.keep bd)
      have P8n := Lib.hid (P8.out.keep bd)
      clear bd RG P8
      have RG := RGn; clear RGn
      have P8 := P8n; clear P8n
      go_wp2_with fail
      first
        | refine hK.out _ _ RG.out.1 (fun hHeld => ?_)
        | refine hK _ _ RG.out.1 (fun hHeld => ?_)
      clear hK K hHeld
      (try simp only [List.getElem_toArray, List.getElem_cons_succ, List.getElem_cons_zero, Act.put, List.setIfInBounds_toArray, List.set_cons_zero, List.set_cons_succ])
      refine wpAnyH_ready (rs := [6]) (by kernel_rfl) (by simp) ?_; refine AllReadyH.cons rfl (fun K hK => ?_) AllReadyH.nil
      go_simp
      have RGn := Lib.hid (RG.out.keep ((Below.refl _ _).alloc (Nat.le_refl _) (.cells #[.int .i64 0, .int .i64 0] 63)))
      have P8n := Lib.hid (P8.out.keep ((Below.refl _ _).alloc (Nat.le_refl _) (.cells #[.int .i64 0, .int .i64 0] 63)))
      have P9n := Lib.hid (Pair.new W2 0 0 63)
      have q9 := RG.out.2.2.2.size; have r9 := RG.out.2.1
      have e89 := P8.out.1
      clear  RG P8
      have RG := RGn; clear RGn
      have P8 := P8n; clear P8n
      have P9 := P9n; clear P9n
      first
        | refine hK.out _ _ RG.out.1 (fun hHeld => ?_)
        | refine hK _ _ RG.out.1 (fun hHeld => ?_)
      clear hK K hHeld
      (try simp only [List.getElem_toArray, List.getElem_cons_succ, List.getElem_cons_zero, Act.put, List.setIfInBounds_toArray, List.set_cons_zero, List.set_cons_succ])
      generalize W2.alloc (.cells #[.int .i64 0, .int .i64 0] 63) = W3 at *
      generalize W2.heap.size = h9 at *
      have hne : h8 ≠ h9 := by omega
      have HW : Hid (FwW w w.heap.size h8 h9 0 0 0 0 W3) := ⟨P8.out, P9.out, hne, by omega, by omega, RG.out.2.2.2⟩
      have n8 : g ≠ h8 := by omega
      have n9 : g ≠ h9 := by omega
      obtain ⟨-, c80, c81, f80, f81⟩ := P8.out
      refine wpAnyH_ready (rs := [7]) (by kernel_rfl) (by simp) ?_; refine AllReadyH.cons rfl (fun K hK => ?_) AllReadyH.nil
      go_simp
      clear c80 c81 f80 f81
      first
        | refine hK.out _ _ (((RG.out.1).other n8).other n8) (fun hHeld => ?_)
        | refine hK _ _ (((RG.out.1).other n8).other n8) (fun hHeld => ?_)
      clear hK K hHeld
      (try simp only [List.getElem_toArray, List.getElem_cons_succ, List.getElem_cons_zero, Act.put, List.setIfInBounds_toArray, List.set_cons_zero, List.set_cons_succ])
      obtain ⟨-, c90, c91, f90, f91⟩ := pair_other (h := h8) (u := .int .i64 A) (v := .int .i64 B) P9.out (Ne.symm hne)
      refine wpAnyH_ready (rs := [8]) (by kernel_rfl) (by simp) ?_; refine AllReadyH.cons rfl (fun K hK => ?_) AllReadyH.nil
      go_simp
      clear c90 c91 f90 f91
      first
        | refine hK.out _ _ (((((RG.out.1).other n8).other n8).other n9).other n9) (fun hHeld => ?_)
        | refine hK _ _ (((((RG.out.1).other n8).other n8).other n9).other n9) (fun hHeld => ?_)
      clear hK K
      (try simp only [List.getElem_toArray, List.getElem_cons_succ, List.getElem_cons_zero, Act.put, List.setIfInBounds_toArray, List.set_cons_zero, List.set_cons_succ])
      have H0 := Lib.hid (HW.out.put A B X Y)
      clear HW P8 P9 RG n8 n9 hne
      generalize (((W3.setCell ⟨h8, 0, none⟩ (.int .i64 A)).setCell ⟨h8, 1, none⟩ (.int .i64 B)).setCell ⟨h9, 0, none⟩ (.int .i64 X)).setCell ⟨h9, 1, none⟩ (.int .i64 Y) = WL at *
      (refine wpAnyH_take (i := 9) (v := ?_) rfl (by kernel_rfl) (by kernel_rfl) (by kernel_rfl) (fun _ _ _ h => h) (Or.inl ⟨by kernel_rfl, ?_⟩) (by assumption) ?_; rotate_left; focus (intro w hSw; (try dsimp only at hSw); go_simp; try with_reducible rfl); (try simp only [List.getElem_toArray, List.getElem_cons_succ, List.getElem_cons_zero, Act.put, List.setIfInBounds_toArray, List.set_cons_zero, List.set_cons_succ]))
      clear hHeld
      refine wpAnyH_done (by kernel_rfl) ?_ _
      (try simp only [List.getElem_toArray, List.getElem_cons_succ, List.getElem_cons_zero, Act.put, List.setIfInBounds_toArray, List.set_cons_zero, List.set_cons_succ])
      clear HC
      go_wp2_with fail
      go_loopw [10] (fun i wr => ∃ (acc A B X Y : Int), i = .int .i64 acc ∧ Hid (FwI c F O acc A B X Y) ∧ Hid (FwW w w.heap.size h8 h9 A B X Y wr)) (fun i _ => (F + 1 - intOf i).toNat)
      case atStart => exact ⟨0, A, B, X, Y, rfl, HI0, H0⟩
      case round =>
        clear HI0 H0
        obtain ⟨acc, A, B, X, Y, rfl, HI, HW⟩ := hrel
        obtain ⟨a0, a7, b0, b7, ab, x0, x3, y0, y3, c0, cF⟩ := HI.out.bd hc
        have HWG := Lib.hid (fun W => winnerOfGames_any A B W)
        obtain ⟨p0, p1, p2, p3⟩ := HW.out.cells
        cases ho : overB A B
        · have hsd : sideS (winN A B) = ⟨#[]⟩ := by have := near_side HI.out.near; rw [ho] at this; exact this
          rw [hsd] at HWG
          have hnx := HI.out.next hc ho
          have hr4 : raceTo A B = race4 A B := race_eq A B
          rw [hr4] at hnx
          have hto : 1 ≤ race4 A B ∧ race4 A B ≤ 30 := by unfold race4; split <;> omega
          have HRB := Lib.hid (fun W => raceBehind_any A B W)
          have HFR := Lib.hid (fun W => fewestToRace_any (race4 A B) 2 X Y c W hto (by omega) x0 (by omega) y0 (by omega))
          rw [fewR_max] at HFR
          have hbn := FwI.bd hnx hc
          have hps := (few_step (to := race4 A B) (x := X) (y := Y) hc (by rw [← hr4]; obtain ⟨f, -, -, -, h4, -⟩ := HI.out; exact (h4 ho).2)).1
          have HNX := Lib.hid hnx
          have HPL := Lib.hid (fun W => plus_any A B c W a0 (by omega) b0 (by omega))
          clear hsd hnx hr4 hto ho HI
          generalize race4 A B = to at *
          generalize fewR to X Y c = R at *
          generalize A + upA c = A2 at *
          generalize B + upB c = B2 at *
          have hbr : acc + R ≤ F := hbn.2.2.2.2.2.2.2.2.2.2
          clear hbn
          have t1 : IntKind.i64.wrap (acc + R) = acc + R := IntWalk.i64_in _ (by omega)
          go_wp2_with fail
          refine (HWG.out _).mono ?_; rintro e w3 ⟨rfl, b3⟩
          have HW3 := Lib.hid (HW.out.keep b3); clear b3 HW p0 p1 p2 p3 HWG
          go_wp2_with fail
          have KS := Lib.hid (HW3.out.keep (Below.drew (Below.refl w3.heap.size w3))); clear HW3
          refine wp_region_held_drew (S := fun wi => wi.cell? ⟨h8, 0, none⟩ = some (.int .i64 A) ∧ wi.cell? ⟨h8, 1, none⟩ = some (.int .i64 B) ∧ wi.cell? ⟨h9, 0, none⟩ = some (.int .i64 X) ∧ wi.cell? ⟨h9, 1, none⟩ = some (.int .i64 Y)) (by kernel_rfl) KS.out.cells (fun hHeld => ?_)
          generalize w3.drew = W3 at *
          (refine wpAnyH_take (i := 0) (v := ?_) rfl (by kernel_rfl) (by kernel_rfl) (by kernel_rfl) (fun _ _ _ h => h) (Or.inl ⟨by kernel_rfl, ?_⟩) (by assumption) ?_; rotate_left; focus (intro w hSw; (try dsimp only at hSw); go_simp; try with_reducible rfl); (try simp only [List.getElem_toArray, List.getElem_cons_succ, List.getElem_cons_zero, Act.put, List.setIfInBounds_toArray, List.set_cons_zero, List.set_cons_succ])); (refine wpAnyH_take (i := 1) (v := ?_) rfl (by kernel_rfl) (by kernel_rfl) (by kernel_rfl) (fun _ _ _ h => h) (Or.inl ⟨by kernel_rfl, ?_⟩) (by assumption) ?_; rotate_left; focus (intro w hSw; (try dsimp only at hSw); go_simp; try with_reducible rfl); (try simp only [List.getElem_toArray, List.getElem_cons_succ, List.getElem_cons_zero, Act.put, List.setIfInBounds_toArray, List.set_cons_zero, List.set_cons_succ])); (refine wpAnyH_take (i := 3) (v := ?_) rfl (by kernel_rfl) (by kernel_rfl) (by kernel_rfl) (fun _ _ _ h => h) (Or.inl ⟨by kernel_rfl, ?_⟩) (by assumption) ?_; rotate_left; focus (intro w hSw; (try dsimp only at hSw); go_simp; try with_reducible rfl); (try simp only [List.getElem_toArray, List.getElem_cons_succ, List.getElem_cons_zero, Act.put, List.setIfInBounds_toArray, List.set_cons_zero, List.set_cons_succ])); (refine wpAnyH_take (i := 4) (v := ?_) rfl (by kernel_rfl) (by kernel_rfl) (by kernel_rfl) (fun _ _ _ h => h) (Or.inl ⟨by kernel_rfl, ?_⟩) (by assumption) ?_; rotate_left; focus (intro w hSw; (try dsimp only at hSw); go_simp; try with_reducible rfl); (try simp only [List.getElem_toArray, List.getElem_cons_succ, List.getElem_cons_zero, Act.put, List.setIfInBounds_toArray, List.set_cons_zero, List.set_cons_succ]))
          clear hHeld
          refine wpAnyH_ready (rs := [2]) (by kernel_rfl) (by simp) ?_; refine AllReadyH.cons rfl (fun K hK => ?_) AllReadyH.nil
          go_simp
          go_at_call 67
          refine (HRB.out _).mono ?_; rintro e w4 ⟨rfl, b4⟩
          have K4 := Lib.hid (KS.out.keep b4); clear b4 KS HRB
          go_wp2_with fail
          first
            | refine hK.out _ _ K4.out.cells (fun hHeld => ?_)
            | refine hK _ _ K4.out.cells (fun hHeld => ?_)
          clear hK K hHeld
          (try simp only [List.getElem_toArray, List.getElem_cons_succ, List.getElem_cons_zero, Act.put, List.setIfInBounds_toArray, List.set_cons_zero, List.set_cons_succ])
          refine wpAnyH_ready (rs := [5]) (by kernel_rfl) (by simp) ?_; refine AllReadyH.cons rfl (fun K hK => ?_) AllReadyH.nil
          go_simp
          go_at_call 66
          refine (HFR.out _).mono ?_; rintro e w5 ⟨rfl, b5⟩
          have K5 := Lib.hid (K4.out.keep b5); clear b5 K4 HFR
          go_wp2_with fail
          first
            | refine hK.out _ _ K5.out.cells (fun hHeld => ?_)
            | refine hK _ _ K5.out.cells (fun hHeld => ?_)
          clear hK K
          (try simp only [List.getElem_toArray, List.getElem_cons_succ, List.getElem_cons_zero, Act.put, List.setIfInBounds_toArray, List.set_cons_zero, List.set_cons_succ])
          (refine wpAnyH_take (i := 6) (v := ?_) rfl (by kernel_rfl) (by kernel_rfl) (by kernel_rfl) (fun _ _ _ h => h) (Or.inl ⟨by kernel_rfl, ?_⟩) (by assumption) ?_; rotate_left; focus (intro w hSw; (try dsimp only at hSw); go_simp; try with_reducible rfl); (try simp only [List.getElem_toArray, List.getElem_cons_succ, List.getElem_cons_zero, Act.put, List.setIfInBounds_toArray, List.set_cons_zero, List.set_cons_succ])); (refine wpAnyH_take (i := 7) (v := ?_) rfl (by kernel_rfl) (by kernel_rfl) (by kernel_rfl) (fun _ _ _ h => h) (Or.inl ⟨by kernel_rfl, ?_⟩) (by assumption) ?_; rotate_left; focus (intro w hSw; (try dsimp only at hSw); go_simp; try with_reducible rfl); (try simp only [List.getElem_toArray, List.getElem_cons_succ, List.getElem_cons_zero, Act.put, List.setIfInBounds_toArray, List.set_cons_zero, List.set_cons_succ]))
          clear hHeld
          refine wpAnyH_done (by kernel_rfl) ?_ _
          (try simp only [List.getElem_toArray, List.getElem_cons_succ, List.getElem_cons_zero, Act.put, List.setIfInBounds_toArray, List.set_cons_zero, List.set_cons_succ])
          obtain ⟨p0, p1, p2, p3⟩ := K5.out.cells
          go_wp2_with fail
          refine (HPL.out _).mono ?_; rintro e w6 ⟨rfl, b6⟩
          have K6 := Lib.hid (K5.out.keep b6); clear b6 K5 HPL p0 p1 p2 p3
          obtain ⟨-, p0, p1, f0, f1⟩ := K6.out.1
          obtain ⟨-, p2, p3, f2, f3⟩ := K6.out.2.1
          have hne := K6.out.2.2.1
          have hne' : ¬ h9 = h8 := fun e => hne e.symm
          have K7 := Lib.hid (K6.out.put A2 B2 0 0)
          go_wp2_with fail
          clear p0 p1 p2 p3 f0 f1 f2 f3
          go_roundw
          case rel => exact ⟨acc + R, A2, B2, 0, 0, by go_num, HNX, K7⟩
          case measure => simp [intOf]; omega
        · have hsd : sideS (winN A B) = winW A B := by have := near_side HI.out.near; rw [ho] at this; rw [this]; unfold winW; rw [ho]; rfl
          obtain ⟨hfin, hdec⟩ := HI.out.fin ho
          have hw2 : winW A B = ⟨#[97]⟩ ∨ winW A B = ⟨#[98]⟩ := by
            unfold winW; rw [ho]; simp only [if_true]
            split
            · exact .inl rfl
            · exact .inr rfl
          rw [hsd] at HWG
          have HD := Lib.hid (And.intro hfin hdec); clear hfin hdec hsd ho HI
          rcases hw2 with hw2 | hw2
          all_goals
            rw [hw2] at HWG HD
            clear hw2
            rcases hc with rfl | rfl
          all_goals
            go_wp2_with fail
            refine (HWG.out _).mono ?_; rintro e w3 ⟨rfl, b3⟩
            have HW3 := Lib.hid (HW.out.keep b3); clear b3 HW p0 p1 p2 p3
            obtain ⟨p0, p1, p2, p3⟩ := HW3.out.cells
            go_wp2_with fail
            refine (HWG.out _).mono ?_; rintro e w4 ⟨rfl, b4⟩
            have HW4 := Lib.hid (HW3.out.keep b4); clear b4 HW3 p0 p1 p2 p3
            go_wp2_with fail
            go_ret2
            first
              | exact ⟨by rw [← HD.out.2, ← HD.out.1]; rfl, HW4.out.2.2.2.2.2⟩
              | exact ⟨by rw [HZ.out (by rw [← HD.out.2]; decide), ← HD.out.2]; rfl, HW4.out.2.2.2.2.2⟩
    · skip
      go_simp
      have RGn := Lib.hid (RG.out.keep ((Below.refl _ _).alloc (Nat.le_refl _) (.cells #[.int .i64 0, .int .i64 0] 63)))
      have P8n := Lib.hid (P8.out.keep ((Below.refl _ _).alloc (Nat.le_refl _) (.cells #[.int .i64 0, .int .i64 0] 63)))
      have P9n := Lib.hid (Pair.new W1 0 0 63)
      have q9 := RG.out.2.2.2.size; have r9 := RG.out.2.1
      have e89 := P8.out.1
      clear  RG P8
      have RG := RGn; clear RGn
      have P8 := P8n; clear P8n
      have P9 := P9n; clear P9n
      first
        | refine hK.out _ _ RG.out.1 (fun hHeld => ?_)
        | refine hK _ _ RG.out.1 (fun hHeld => ?_)
      clear hK K hHeld
      (try simp only [List.getElem_toArray, List.getElem_cons_succ, List.getElem_cons_zero, Act.put, List.setIfInBounds_toArray, List.set_cons_zero, List.set_cons_succ])
      generalize W1.alloc (.cells #[.int .i64 0, .int .i64 0] 63) = W2 at *
      generalize W1.heap.size = h9 at *
      refine wpAnyH_ready (rs := [2]) (by kernel_rfl) (by simp) ?_; refine AllReadyH.cons rfl (fun K hK => ?_) AllReadyH.nil
      go_simp
      go_at_call 54
      refine (HC.out _).mono ?_; rintro e W3 ⟨rfl, bd⟩
      have RGn := Lib.hid (RG.out.keep bd)
      have P8n := Lib.hid (P8.out.keep bd)
      have P9n := Lib.hid (P9.out.keep bd)
      clear bd RG P8 P9
      have RG := RGn; clear RGn
      have P8 := P8n; clear P8n
      have P9 := P9n; clear P9n
      go_wp2_with fail
      first
        | refine hK.out _ _ RG.out.1 (fun hHeld => ?_)
        | refine hK _ _ RG.out.1 (fun hHeld => ?_)
      clear hK K hHeld
      (try simp only [List.getElem_toArray, List.getElem_cons_succ, List.getElem_cons_zero, Act.put, List.setIfInBounds_toArray, List.set_cons_zero, List.set_cons_succ])
      have hne : h8 ≠ h9 := by omega
      have HW : Hid (FwW w w.heap.size h8 h9 0 0 0 0 W3) := ⟨P8.out, P9.out, hne, by omega, by omega, RG.out.2.2.2⟩
      have n8 : g ≠ h8 := by omega
      have n9 : g ≠ h9 := by omega
      obtain ⟨-, c80, c81, f80, f81⟩ := P8.out
      refine wpAnyH_ready (rs := [7]) (by kernel_rfl) (by simp) ?_; refine AllReadyH.cons rfl (fun K hK => ?_) AllReadyH.nil
      go_simp
      clear c80 c81 f80 f81
      first
        | refine hK.out _ _ (((RG.out.1).other n8).other n8) (fun hHeld => ?_)
        | refine hK _ _ (((RG.out.1).other n8).other n8) (fun hHeld => ?_)
      clear hK K hHeld
      (try simp only [List.getElem_toArray, List.getElem_cons_succ, List.getElem_cons_zero, Act.put, List.setIfInBounds_toArray, List.set_cons_zero, List.set_cons_succ])
      obtain ⟨-, c90, c91, f90, f91⟩ := pair_other (h := h8) (u := .int .i64 A) (v := .int .i64 B) P9.out (Ne.symm hne)
      refine wpAnyH_ready (rs := [8]) (by kernel_rfl) (by simp) ?_; refine AllReadyH.cons rfl (fun K hK => ?_) AllReadyH.nil
      go_simp
      clear c90 c91 f90 f91
      first
        | refine hK.out _ _ (((((RG.out.1).other n8).other n8).other n9).other n9) (fun hHeld => ?_)
        | refine hK _ _ (((((RG.out.1).other n8).other n8).other n9).other n9) (fun hHeld => ?_)
      clear hK K
      (try simp only [List.getElem_toArray, List.getElem_cons_succ, List.getElem_cons_zero, Act.put, List.setIfInBounds_toArray, List.set_cons_zero, List.set_cons_succ])
      have H0 := Lib.hid (HW.out.put A B X Y)
      clear HW P8 P9 RG n8 n9 hne
      generalize (((W3.setCell ⟨h8, 0, none⟩ (.int .i64 A)).setCell ⟨h8, 1, none⟩ (.int .i64 B)).setCell ⟨h9, 0, none⟩ (.int .i64 X)).setCell ⟨h9, 1, none⟩ (.int .i64 Y) = WL at *
      (refine wpAnyH_take (i := 9) (v := ?_) rfl (by kernel_rfl) (by kernel_rfl) (by kernel_rfl) (fun _ _ _ h => h) (Or.inl ⟨by kernel_rfl, ?_⟩) (by assumption) ?_; rotate_left; focus (intro w hSw; (try dsimp only at hSw); go_simp; try with_reducible rfl); (try simp only [List.getElem_toArray, List.getElem_cons_succ, List.getElem_cons_zero, Act.put, List.setIfInBounds_toArray, List.set_cons_zero, List.set_cons_succ]))
      clear hHeld
      refine wpAnyH_done (by kernel_rfl) ?_ _
      (try simp only [List.getElem_toArray, List.getElem_cons_succ, List.getElem_cons_zero, Act.put, List.setIfInBounds_toArray, List.set_cons_zero, List.set_cons_succ])
      clear HC
      go_wp2_with fail
      go_loopw [10] (fun i wr => ∃ (acc A B X Y : Int), i = .int .i64 acc ∧ Hid (FwI c F O acc A B X Y) ∧ Hid (FwW w w.heap.size h8 h9 A B X Y wr)) (fun i _ => (F + 1 - intOf i).toNat)
      case atStart => exact ⟨0, A, B, X, Y, rfl, HI0, H0⟩
      case round =>
        clear HI0 H0
        obtain ⟨acc, A, B, X, Y, rfl, HI, HW⟩ := hrel
        obtain ⟨a0, a7, b0, b7, ab, x0, x3, y0, y3, c0, cF⟩ := HI.out.bd hc
        have HWG := Lib.hid (fun W => winnerOfGames_any A B W)
        obtain ⟨p0, p1, p2, p3⟩ := HW.out.cells
        cases ho : overB A B
        · have hsd : sideS (winN A B) = ⟨#[]⟩ := by have := near_side HI.out.near; rw [ho] at this; exact this
          rw [hsd] at HWG
          have hnx := HI.out.next hc ho
          have hr4 : raceTo A B = race4 A B := race_eq A B
          rw [hr4] at hnx
          have hto : 1 ≤ race4 A B ∧ race4 A B ≤ 30 := by unfold race4; split <;> omega
          have HRB := Lib.hid (fun W => raceBehind_any A B W)
          have HFR := Lib.hid (fun W => fewestToRace_any (race4 A B) 2 X Y c W hto (by omega) x0 (by omega) y0 (by omega))
          rw [fewR_max] at HFR
          have hbn := FwI.bd hnx hc
          have hps := (few_step (to := race4 A B) (x := X) (y := Y) hc (by rw [← hr4]; obtain ⟨f, -, -, -, h4, -⟩ := HI.out; exact (h4 ho).2)).1
          have HNX := Lib.hid hnx
          have HPL := Lib.hid (fun W => plus_any A B c W a0 (by omega) b0 (by omega))
          clear hsd hnx hr4 hto ho HI
          generalize race4 A B = to at *
          generalize fewR to X Y c = R at *
          generalize A + upA c = A2 at *
          generalize B + upB c = B2 at *
          have hbr : acc + R ≤ F := hbn.2.2.2.2.2.2.2.2.2.2
          clear hbn
          have t1 : IntKind.i64.wrap (acc + R) = acc + R := IntWalk.i64_in _ (by omega)
          go_wp2_with fail
          refine (HWG.out _).mono ?_; rintro e w3 ⟨rfl, b3⟩
          have HW3 := Lib.hid (HW.out.keep b3); clear b3 HW p0 p1 p2 p3 HWG
          go_wp2_with fail
          have KS := Lib.hid (HW3.out.keep (Below.drew (Below.refl w3.heap.size w3))); clear HW3
          refine wp_region_held_drew (S := fun wi => wi.cell? ⟨h8, 0, none⟩ = some (.int .i64 A) ∧ wi.cell? ⟨h8, 1, none⟩ = some (.int .i64 B) ∧ wi.cell? ⟨h9, 0, none⟩ = some (.int .i64 X) ∧ wi.cell? ⟨h9, 1, none⟩ = some (.int .i64 Y)) (by kernel_rfl) KS.out.cells (fun hHeld => ?_)
          generalize w3.drew = W3 at *
          (refine wpAnyH_take (i := 0) (v := ?_) rfl (by kernel_rfl) (by kernel_rfl) (by kernel_rfl) (fun _ _ _ h => h) (Or.inl ⟨by kernel_rfl, ?_⟩) (by assumption) ?_; rotate_left; focus (intro w hSw; (try dsimp only at hSw); go_simp; try with_reducible rfl); (try simp only [List.getElem_toArray, List.getElem_cons_succ, List.getElem_cons_zero, Act.put, List.setIfInBounds_toArray, List.set_cons_zero, List.set_cons_succ])); (refine wpAnyH_take (i := 1) (v := ?_) rfl (by kernel_rfl) (by kernel_rfl) (by kernel_rfl) (fun _ _ _ h => h) (Or.inl ⟨by kernel_rfl, ?_⟩) (by assumption) ?_; rotate_left; focus (intro w hSw; (try dsimp only at hSw); go_simp; try with_reducible rfl); (try simp only [List.getElem_toArray, List.getElem_cons_succ, List.getElem_cons_zero, Act.put, List.setIfInBounds_toArray, List.set_cons_zero, List.set_cons_succ])); (refine wpAnyH_take (i := 3) (v := ?_) rfl (by kernel_rfl) (by kernel_rfl) (by kernel_rfl) (fun _ _ _ h => h) (Or.inl ⟨by kernel_rfl, ?_⟩) (by assumption) ?_; rotate_left; focus (intro w hSw; (try dsimp only at hSw); go_simp; try with_reducible rfl); (try simp only [List.getElem_toArray, List.getElem_cons_succ, List.getElem_cons_zero, Act.put, List.setIfInBounds_toArray, List.set_cons_zero, List.set_cons_succ])); (refine wpAnyH_take (i := 4) (v := ?_) rfl (by kernel_rfl) (by kernel_rfl) (by kernel_rfl) (fun _ _ _ h => h) (Or.inl ⟨by kernel_rfl, ?_⟩) (by assumption) ?_; rotate_left; focus (intro w hSw; (try dsimp only at hSw); go_simp; try with_reducible rfl); (try simp only [List.getElem_toArray, List.getElem_cons_succ, List.getElem_cons_zero, Act.put, List.setIfInBounds_toArray, List.set_cons_zero, List.set_cons_succ]))
          clear hHeld
          refine wpAnyH_ready (rs := [2]) (by kernel_rfl) (by simp) ?_; refine AllReadyH.cons rfl (fun K hK => ?_) AllReadyH.nil
          go_simp
          go_at_call 67
          refine (HRB.out _).mono ?_; rintro e w4 ⟨rfl, b4⟩
          have K4 := Lib.hid (KS.out.keep b4); clear b4 KS HRB
          go_wp2_with fail
          first
            | refine hK.out _ _ K4.out.cells (fun hHeld => ?_)
            | refine hK _ _ K4.out.cells (fun hHeld => ?_)
          clear hK K hHeld
          (try simp only [List.getElem_toArray, List.getElem_cons_succ, List.getElem_cons_zero, Act.put, List.setIfInBounds_toArray, List.set_cons_zero, List.set_cons_succ])
          refine wpAnyH_ready (rs := [5]) (by kernel_rfl) (by simp) ?_; refine AllReadyH.cons rfl (fun K hK => ?_) AllReadyH.nil
          go_simp
          go_at_call 66
          refine (HFR.out _).mono ?_; rintro e w5 ⟨rfl, b5⟩
          have K5 := Lib.hid (K4.out.keep b5); clear b5 K4 HFR
          go_wp2_with fail
          first
            | refine hK.out _ _ K5.out.cells (fun hHeld => ?_)
            | refine hK _ _ K5.out.cells (fun hHeld => ?_)
          clear hK K
          (try simp only [List.getElem_toArray, List.getElem_cons_succ, List.getElem_cons_zero, Act.put, List.setIfInBounds_toArray, List.set_cons_zero, List.set_cons_succ])
          (refine wpAnyH_take (i := 6) (v := ?_) rfl (by kernel_rfl) (by kernel_rfl) (by kernel_rfl) (fun _ _ _ h => h) (Or.inl ⟨by kernel_rfl, ?_⟩) (by assumption) ?_; rotate_left; focus (intro w hSw; (try dsimp only at hSw); go_simp; try with_reducible rfl); (try simp only [List.getElem_toArray, List.getElem_cons_succ, List.getElem_cons_zero, Act.put, List.setIfInBounds_toArray, List.set_cons_zero, List.set_cons_succ])); (refine wpAnyH_take (i := 7) (v := ?_) rfl (by kernel_rfl) (by kernel_rfl) (by kernel_rfl) (fun _ _ _ h => h) (Or.inl ⟨by kernel_rfl, ?_⟩) (by assumption) ?_; rotate_left; focus (intro w hSw; (try dsimp only at hSw); go_simp; try with_reducible rfl); (try simp only [List.getElem_toArray, List.getElem_cons_succ, List.getElem_cons_zero, Act.put, List.setIfInBounds_toArray, List.set_cons_zero, List.set_cons_succ]))
          clear hHeld
          refine wpAnyH_done (by kernel_rfl) ?_ _
          (try simp only [List.getElem_toArray, List.getElem_cons_succ, List.getElem_cons_zero, Act.put, List.setIfInBounds_toArray, List.set_cons_zero, List.set_cons_succ])
          obtain ⟨p0, p1, p2, p3⟩ := K5.out.cells
          go_wp2_with fail
          refine (HPL.out _).mono ?_; rintro e w6 ⟨rfl, b6⟩
          have K6 := Lib.hid (K5.out.keep b6); clear b6 K5 HPL p0 p1 p2 p3
          obtain ⟨-, p0, p1, f0, f1⟩ := K6.out.1
          obtain ⟨-, p2, p3, f2, f3⟩ := K6.out.2.1
          have hne := K6.out.2.2.1
          have hne' : ¬ h9 = h8 := fun e => hne e.symm
          have K7 := Lib.hid (K6.out.put A2 B2 0 0)
          go_wp2_with fail
          clear p0 p1 p2 p3 f0 f1 f2 f3
          go_roundw
          case rel => exact ⟨acc + R, A2, B2, 0, 0, by go_num, HNX, K7⟩
          case measure => simp [intOf]; omega
        · have hsd : sideS (winN A B) = winW A B := by have := near_side HI.out.near; rw [ho] at this; rw [this]; unfold winW; rw [ho]; rfl
          obtain ⟨hfin, hdec⟩ := HI.out.fin ho
          have hw2 : winW A B = ⟨#[97]⟩ ∨ winW A B = ⟨#[98]⟩ := by
            unfold winW; rw [ho]; simp only [if_true]
            split
            · exact .inl rfl
            · exact .inr rfl
          rw [hsd] at HWG
          have HD := Lib.hid (And.intro hfin hdec); clear hfin hdec hsd ho HI
          rcases hw2 with hw2 | hw2
          all_goals
            rw [hw2] at HWG HD
            clear hw2
            rcases hc with rfl | rfl
          all_goals
            go_wp2_with fail
            refine (HWG.out _).mono ?_; rintro e w3 ⟨rfl, b3⟩
            have HW3 := Lib.hid (HW.out.keep b3); clear b3 HW p0 p1 p2 p3
            obtain ⟨p0, p1, p2, p3⟩ := HW3.out.cells
            go_wp2_with fail
            refine (HWG.out _).mono ?_; rintro e w4 ⟨rfl, b4⟩
            have HW4 := Lib.hid (HW3.out.keep b4); clear b4 HW3 p0 p1 p2 p3
            go_wp2_with fail
            go_ret2
            first
              | exact ⟨by rw [← HD.out.2, ← HD.out.1]; rfl, HW4.out.2.2.2.2.2⟩
              | exact ⟨by rw [HZ.out (by rw [← HD.out.2]; decide), ← HD.out.2]; rfl, HW4.out.2.2.2.2.2⟩
  · skip
    go_simp
    have RGn := Lib.hid (RG.out.keep ((Below.refl _ _).alloc (Nat.le_refl _) (.cells #[.int .i64 0, .int .i64 0] 63)))
    have P9n := Lib.hid (Pair.new W0 0 0 63)
    have q9 := RG.out.2.2.2.size; have r9 := RG.out.2.1
    clear  RG
    have RG := RGn; clear RGn
    have P9 := P9n; clear P9n
    first
      | refine hK.out _ _ RG.out.1 (fun hHeld => ?_)
      | refine hK _ _ RG.out.1 (fun hHeld => ?_)
    clear hK K hHeld
    (try simp only [List.getElem_toArray, List.getElem_cons_succ, List.getElem_cons_zero, Act.put, List.setIfInBounds_toArray, List.set_cons_zero, List.set_cons_succ])
    generalize W0.alloc (.cells #[.int .i64 0, .int .i64 0] 63) = W1 at *
    generalize W0.heap.size = h9 at *
    refine wpAnyH_ready (rs := [2, 5]) (by kernel_rfl) (by simp) (AllReadyH.cons rfl (fun K hK => ?_) (AllReadyH.cons rfl (fun K hK => ?_) (AllReadyH.nil)))
    · skip
      go_simp
      go_at_call 54
      refine (HC.out _).mono ?_; rintro e W2 ⟨rfl, bd⟩
      have RGn := Lib.hid (RG.out.keep bd)
      have P9n := Lib.hid (P9.out.keep bd)
      clear bd RG P9
      have RG := RGn; clear RGn
      have P9 := P9n; clear P9n
      go_wp2_with fail
      first
        | refine hK.out _ _ RG.out.1 (fun hHeld => ?_)
        | refine hK _ _ RG.out.1 (fun hHeld => ?_)
      clear hK K hHeld
      (try simp only [List.getElem_toArray, List.getElem_cons_succ, List.getElem_cons_zero, Act.put, List.setIfInBounds_toArray, List.set_cons_zero, List.set_cons_succ])
      refine wpAnyH_ready (rs := [5]) (by kernel_rfl) (by simp) ?_; refine AllReadyH.cons rfl (fun K hK => ?_) AllReadyH.nil
      go_simp
      have RGn := Lib.hid (RG.out.keep ((Below.refl _ _).alloc (Nat.le_refl _) (.cells #[.int .i64 0, .int .i64 0] 63)))
      have P9n := Lib.hid (P9.out.keep ((Below.refl _ _).alloc (Nat.le_refl _) (.cells #[.int .i64 0, .int .i64 0] 63)))
      have P8n := Lib.hid (Pair.new W2 0 0 63)
      have q8 := RG.out.2.2.2.size; have r8 := RG.out.2.1
      have e98 := P9.out.1
      clear  RG P9
      have RG := RGn; clear RGn
      have P9 := P9n; clear P9n
      have P8 := P8n; clear P8n
      first
        | refine hK.out _ _ RG.out.1 (fun hHeld => ?_)
        | refine hK _ _ RG.out.1 (fun hHeld => ?_)
      clear hK K hHeld
      (try simp only [List.getElem_toArray, List.getElem_cons_succ, List.getElem_cons_zero, Act.put, List.setIfInBounds_toArray, List.set_cons_zero, List.set_cons_succ])
      generalize W2.alloc (.cells #[.int .i64 0, .int .i64 0] 63) = W3 at *
      generalize W2.heap.size = h8 at *
      have hne : h8 ≠ h9 := by omega
      have HW : Hid (FwW w w.heap.size h8 h9 0 0 0 0 W3) := ⟨P8.out, P9.out, hne, by omega, by omega, RG.out.2.2.2⟩
      have n8 : g ≠ h8 := by omega
      have n9 : g ≠ h9 := by omega
      obtain ⟨-, c80, c81, f80, f81⟩ := P8.out
      refine wpAnyH_ready (rs := [7]) (by kernel_rfl) (by simp) ?_; refine AllReadyH.cons rfl (fun K hK => ?_) AllReadyH.nil
      go_simp
      clear c80 c81 f80 f81
      first
        | refine hK.out _ _ (((RG.out.1).other n8).other n8) (fun hHeld => ?_)
        | refine hK _ _ (((RG.out.1).other n8).other n8) (fun hHeld => ?_)
      clear hK K hHeld
      (try simp only [List.getElem_toArray, List.getElem_cons_succ, List.getElem_cons_zero, Act.put, List.setIfInBounds_toArray, List.set_cons_zero, List.set_cons_succ])
      obtain ⟨-, c90, c91, f90, f91⟩ := pair_other (h := h8) (u := .int .i64 A) (v := .int .i64 B) P9.out (Ne.symm hne)
      refine wpAnyH_ready (rs := [8]) (by kernel_rfl) (by simp) ?_; refine AllReadyH.cons rfl (fun K hK => ?_) AllReadyH.nil
      go_simp
      clear c90 c91 f90 f91
      first
        | refine hK.out _ _ (((((RG.out.1).other n8).other n8).other n9).other n9) (fun hHeld => ?_)
        | refine hK _ _ (((((RG.out.1).other n8).other n8).other n9).other n9) (fun hHeld => ?_)
      clear hK K
      (try simp only [List.getElem_toArray, List.getElem_cons_succ, List.getElem_cons_zero, Act.put, List.setIfInBounds_toArray, List.set_cons_zero, List.set_cons_succ])
      have H0 := Lib.hid (HW.out.put A B X Y)
      clear HW P8 P9 RG n8 n9 hne
      generalize (((W3.setCell ⟨h8, 0, none⟩ (.int .i64 A)).setCell ⟨h8, 1, none⟩ (.int .i64 B)).setCell ⟨h9, 0, none⟩ (.int .i64 X)).setCell ⟨h9, 1, none⟩ (.int .i64 Y) = WL at *
      (refine wpAnyH_take (i := 9) (v := ?_) rfl (by kernel_rfl) (by kernel_rfl) (by kernel_rfl) (fun _ _ _ h => h) (Or.inl ⟨by kernel_rfl, ?_⟩) (by assumption) ?_; rotate_left; focus (intro w hSw; (try dsimp only at hSw); go_simp; try with_reducible rfl); (try simp only [List.getElem_toArray, List.getElem_cons_succ, List.getElem_cons_zero, Act.put, List.setIfInBounds_toArray, List.set_cons_zero, List.set_cons_succ]))
      clear hHeld
      refine wpAnyH_done (by kernel_rfl) ?_ _
      (try simp only [List.getElem_toArray, List.getElem_cons_succ, List.getElem_cons_zero, Act.put, List.setIfInBounds_toArray, List.set_cons_zero, List.set_cons_succ])
      clear HC
      go_wp2_with fail
      go_loopw [10] (fun i wr => ∃ (acc A B X Y : Int), i = .int .i64 acc ∧ Hid (FwI c F O acc A B X Y) ∧ Hid (FwW w w.heap.size h8 h9 A B X Y wr)) (fun i _ => (F + 1 - intOf i).toNat)
      case atStart => exact ⟨0, A, B, X, Y, rfl, HI0, H0⟩
      case round =>
        clear HI0 H0
        obtain ⟨acc, A, B, X, Y, rfl, HI, HW⟩ := hrel
        obtain ⟨a0, a7, b0, b7, ab, x0, x3, y0, y3, c0, cF⟩ := HI.out.bd hc
        have HWG := Lib.hid (fun W => winnerOfGames_any A B W)
        obtain ⟨p0, p1, p2, p3⟩ := HW.out.cells
        cases ho : overB A B
        · have hsd : sideS (winN A B) = ⟨#[]⟩ := by have := near_side HI.out.near; rw [ho] at this; exact this
          rw [hsd] at HWG
          have hnx := HI.out.next hc ho
          have hr4 : raceTo A B = race4 A B := race_eq A B
          rw [hr4] at hnx
          have hto : 1 ≤ race4 A B ∧ race4 A B ≤ 30 := by unfold race4; split <;> omega
          have HRB := Lib.hid (fun W => raceBehind_any A B W)
          have HFR := Lib.hid (fun W => fewestToRace_any (race4 A B) 2 X Y c W hto (by omega) x0 (by omega) y0 (by omega))
          rw [fewR_max] at HFR
          have hbn := FwI.bd hnx hc
          have hps := (few_step (to := race4 A B) (x := X) (y := Y) hc (by rw [← hr4]; obtain ⟨f, -, -, -, h4, -⟩ := HI.out; exact (h4 ho).2)).1
          have HNX := Lib.hid hnx
          have HPL := Lib.hid (fun W => plus_any A B c W a0 (by omega) b0 (by omega))
          clear hsd hnx hr4 hto ho HI
          generalize race4 A B = to at *
          generalize fewR to X Y c = R at *
          generalize A + upA c = A2 at *
          generalize B + upB c = B2 at *
          have hbr : acc + R ≤ F := hbn.2.2.2.2.2.2.2.2.2.2
          clear hbn
          have t1 : IntKind.i64.wrap (acc + R) = acc + R := IntWalk.i64_in _ (by omega)
          go_wp2_with fail
          refine (HWG.out _).mono ?_; rintro e w3 ⟨rfl, b3⟩
          have HW3 := Lib.hid (HW.out.keep b3); clear b3 HW p0 p1 p2 p3 HWG
          go_wp2_with fail
          have KS := Lib.hid (HW3.out.keep (Below.drew (Below.refl w3.heap.size w3))); clear HW3
          refine wp_region_held_drew (S := fun wi => wi.cell? ⟨h8, 0, none⟩ = some (.int .i64 A) ∧ wi.cell? ⟨h8, 1, none⟩ = some (.int .i64 B) ∧ wi.cell? ⟨h9, 0, none⟩ = some (.int .i64 X) ∧ wi.cell? ⟨h9, 1, none⟩ = some (.int .i64 Y)) (by kernel_rfl) KS.out.cells (fun hHeld => ?_)
          generalize w3.drew = W3 at *
          (refine wpAnyH_take (i := 0) (v := ?_) rfl (by kernel_rfl) (by kernel_rfl) (by kernel_rfl) (fun _ _ _ h => h) (Or.inl ⟨by kernel_rfl, ?_⟩) (by assumption) ?_; rotate_left; focus (intro w hSw; (try dsimp only at hSw); go_simp; try with_reducible rfl); (try simp only [List.getElem_toArray, List.getElem_cons_succ, List.getElem_cons_zero, Act.put, List.setIfInBounds_toArray, List.set_cons_zero, List.set_cons_succ])); (refine wpAnyH_take (i := 1) (v := ?_) rfl (by kernel_rfl) (by kernel_rfl) (by kernel_rfl) (fun _ _ _ h => h) (Or.inl ⟨by kernel_rfl, ?_⟩) (by assumption) ?_; rotate_left; focus (intro w hSw; (try dsimp only at hSw); go_simp; try with_reducible rfl); (try simp only [List.getElem_toArray, List.getElem_cons_succ, List.getElem_cons_zero, Act.put, List.setIfInBounds_toArray, List.set_cons_zero, List.set_cons_succ])); (refine wpAnyH_take (i := 3) (v := ?_) rfl (by kernel_rfl) (by kernel_rfl) (by kernel_rfl) (fun _ _ _ h => h) (Or.inl ⟨by kernel_rfl, ?_⟩) (by assumption) ?_; rotate_left; focus (intro w hSw; (try dsimp only at hSw); go_simp; try with_reducible rfl); (try simp only [List.getElem_toArray, List.getElem_cons_succ, List.getElem_cons_zero, Act.put, List.setIfInBounds_toArray, List.set_cons_zero, List.set_cons_succ])); (refine wpAnyH_take (i := 4) (v := ?_) rfl (by kernel_rfl) (by kernel_rfl) (by kernel_rfl) (fun _ _ _ h => h) (Or.inl ⟨by kernel_rfl, ?_⟩) (by assumption) ?_; rotate_left; focus (intro w hSw; (try dsimp only at hSw); go_simp; try with_reducible rfl); (try simp only [List.getElem_toArray, List.getElem_cons_succ, List.getElem_cons_zero, Act.put, List.setIfInBounds_toArray, List.set_cons_zero, List.set_cons_succ]))
          clear hHeld
          refine wpAnyH_ready (rs := [2]) (by kernel_rfl) (by simp) ?_; refine AllReadyH.cons rfl (fun K hK => ?_) AllReadyH.nil
          go_simp
          go_at_call 67
          refine (HRB.out _).mono ?_; rintro e w4 ⟨rfl, b4⟩
          have K4 := Lib.hid (KS.out.keep b4); clear b4 KS HRB
          go_wp2_with fail
          first
            | refine hK.out _ _ K4.out.cells (fun hHeld => ?_)
            | refine hK _ _ K4.out.cells (fun hHeld => ?_)
          clear hK K hHeld
          (try simp only [List.getElem_toArray, List.getElem_cons_succ, List.getElem_cons_zero, Act.put, List.setIfInBounds_toArray, List.set_cons_zero, List.set_cons_succ])
          refine wpAnyH_ready (rs := [5]) (by kernel_rfl) (by simp) ?_; refine AllReadyH.cons rfl (fun K hK => ?_) AllReadyH.nil
          go_simp
          go_at_call 66
          refine (HFR.out _).mono ?_; rintro e w5 ⟨rfl, b5⟩
          have K5 := Lib.hid (K4.out.keep b5); clear b5 K4 HFR
          go_wp2_with fail
          first
            | refine hK.out _ _ K5.out.cells (fun hHeld => ?_)
            | refine hK _ _ K5.out.cells (fun hHeld => ?_)
          clear hK K
          (try simp only [List.getElem_toArray, List.getElem_cons_succ, List.getElem_cons_zero, Act.put, List.setIfInBounds_toArray, List.set_cons_zero, List.set_cons_succ])
          (refine wpAnyH_take (i := 6) (v := ?_) rfl (by kernel_rfl) (by kernel_rfl) (by kernel_rfl) (fun _ _ _ h => h) (Or.inl ⟨by kernel_rfl, ?_⟩) (by assumption) ?_; rotate_left; focus (intro w hSw; (try dsimp only at hSw); go_simp; try with_reducible rfl); (try simp only [List.getElem_toArray, List.getElem_cons_succ, List.getElem_cons_zero, Act.put, List.setIfInBounds_toArray, List.set_cons_zero, List.set_cons_succ])); (refine wpAnyH_take (i := 7) (v := ?_) rfl (by kernel_rfl) (by kernel_rfl) (by kernel_rfl) (fun _ _ _ h => h) (Or.inl ⟨by kernel_rfl, ?_⟩) (by assumption) ?_; rotate_left; focus (intro w hSw; (try dsimp only at hSw); go_simp; try with_reducible rfl); (try simp only [List.getElem_toArray, List.getElem_cons_succ, List.getElem_cons_zero, Act.put, List.setIfInBounds_toArray, List.set_cons_zero, List.set_cons_succ]))
          clear hHeld
          refine wpAnyH_done (by kernel_rfl) ?_ _
          (try simp only [List.getElem_toArray, List.getElem_cons_succ, List.getElem_cons_zero, Act.put, List.setIfInBounds_toArray, List.set_cons_zero, List.set_cons_succ])
          obtain ⟨p0, p1, p2, p3⟩ := K5.out.cells
          go_wp2_with fail
          refine (HPL.out _).mono ?_; rintro e w6 ⟨rfl, b6⟩
          have K6 := Lib.hid (K5.out.keep b6); clear b6 K5 HPL p0 p1 p2 p3
          obtain ⟨-, p0, p1, f0, f1⟩ := K6.out.1
          obtain ⟨-, p2, p3, f2, f3⟩ := K6.out.2.1
          have hne := K6.out.2.2.1
          have hne' : ¬ h9 = h8 := fun e => hne e.symm
          have K7 := Lib.hid (K6.out.put A2 B2 0 0)
          go_wp2_with fail
          clear p0 p1 p2 p3 f0 f1 f2 f3
          go_roundw
          case rel => exact ⟨acc + R, A2, B2, 0, 0, by go_num, HNX, K7⟩
          case measure => simp [intOf]; omega
        · have hsd : sideS (winN A B) = winW A B := by have := near_side HI.out.near; rw [ho] at this; rw [this]; unfold winW; rw [ho]; rfl
          obtain ⟨hfin, hdec⟩ := HI.out.fin ho
          have hw2 : winW A B = ⟨#[97]⟩ ∨ winW A B = ⟨#[98]⟩ := by
            unfold winW; rw [ho]; simp only [if_true]
            split
            · exact .inl rfl
            · exact .inr rfl
          rw [hsd] at HWG
          have HD := Lib.hid (And.intro hfin hdec); clear hfin hdec hsd ho HI
          rcases hw2 with hw2 | hw2
          all_goals
            rw [hw2] at HWG HD
            clear hw2
            rcases hc with rfl | rfl
          all_goals
            go_wp2_with fail
            refine (HWG.out _).mono ?_; rintro e w3 ⟨rfl, b3⟩
            have HW3 := Lib.hid (HW.out.keep b3); clear b3 HW p0 p1 p2 p3
            obtain ⟨p0, p1, p2, p3⟩ := HW3.out.cells
            go_wp2_with fail
            refine (HWG.out _).mono ?_; rintro e w4 ⟨rfl, b4⟩
            have HW4 := Lib.hid (HW3.out.keep b4); clear b4 HW3 p0 p1 p2 p3
            go_wp2_with fail
            go_ret2
            first
              | exact ⟨by rw [← HD.out.2, ← HD.out.1]; rfl, HW4.out.2.2.2.2.2⟩
              | exact ⟨by rw [HZ.out (by rw [← HD.out.2]; decide), ← HD.out.2]; rfl, HW4.out.2.2.2.2.2⟩
    · skip
      go_simp
      have RGn := Lib.hid (RG.out.keep ((Below.refl _ _).alloc (Nat.le_refl _) (.cells #[.int .i64 0, .int .i64 0] 63)))
      have P9n := Lib.hid (P9.out.keep ((Below.refl _ _).alloc (Nat.le_refl _) (.cells #[.int .i64 0, .int .i64 0] 63)))
      have P8n := Lib.hid (Pair.new W1 0 0 63)
      have q8 := RG.out.2.2.2.size; have r8 := RG.out.2.1
      have e98 := P9.out.1
      clear  RG P9
      have RG := RGn; clear RGn
      have P9 := P9n; clear P9n
      have P8 := P8n; clear P8n
      first
        | refine hK.out _ _ RG.out.1 (fun hHeld => ?_)
        | refine hK _ _ RG.out.1 (fun hHeld => ?_)
      clear hK K hHeld
      (try simp only [List.getElem_toArray, List.getElem_cons_succ, List.getElem_cons_zero, Act.put, List.setIfInBounds_toArray, List.set_cons_zero, List.set_cons_succ])
      generalize W1.alloc (.cells #[.int .i64 0, .int .i64 0] 63) = W2 at *
      generalize W1.heap.size = h8 at *
      refine wpAnyH_ready (rs := [2]) (by kernel_rfl) (by simp) ?_; refine AllReadyH.cons rfl (fun K hK => ?_) AllReadyH.nil
      go_simp
      go_at_call 54
      refine (HC.out _).mono ?_; rintro e W3 ⟨rfl, bd⟩
      have RGn := Lib.hid (RG.out.keep bd)
      have P8n := Lib.hid (P8.out.keep bd)
      have P9n := Lib.hid (P9.out.keep bd)
      clear bd RG P8 P9
      have RG := RGn; clear RGn
      have P8 := P8n; clear P8n
      have P9 := P9n; clear P9n
      go_wp2_with fail
      first
        | refine hK.out _ _ RG.out.1 (fun hHeld => ?_)
        | refine hK _ _ RG.out.1 (fun hHeld => ?_)
      clear hK K hHeld
      (try simp only [List.getElem_toArray, List.getElem_cons_succ, List.getElem_cons_zero, Act.put, List.setIfInBounds_toArray, List.set_cons_zero, List.set_cons_succ])
      have hne : h8 ≠ h9 := by omega
      have HW : Hid (FwW w w.heap.size h8 h9 0 0 0 0 W3) := ⟨P8.out, P9.out, hne, by omega, by omega, RG.out.2.2.2⟩
      have n8 : g ≠ h8 := by omega
      have n9 : g ≠ h9 := by omega
      obtain ⟨-, c80, c81, f80, f81⟩ := P8.out
      refine wpAnyH_ready (rs := [7]) (by kernel_rfl) (by simp) ?_; refine AllReadyH.cons rfl (fun K hK => ?_) AllReadyH.nil
      go_simp
      clear c80 c81 f80 f81
      first
        | refine hK.out _ _ (((RG.out.1).other n8).other n8) (fun hHeld => ?_)
        | refine hK _ _ (((RG.out.1).other n8).other n8) (fun hHeld => ?_)
      clear hK K hHeld
      (try simp only [List.getElem_toArray, List.getElem_cons_succ, List.getElem_cons_zero, Act.put, List.setIfInBounds_toArray, List.set_cons_zero, List.set_cons_succ])
      obtain ⟨-, c90, c91, f90, f91⟩ := pair_other (h := h8) (u := .int .i64 A) (v := .int .i64 B) P9.out (Ne.symm hne)
      refine wpAnyH_ready (rs := [8]) (by kernel_rfl) (by simp) ?_; refine AllReadyH.cons rfl (fun K hK => ?_) AllReadyH.nil
      go_simp
      clear c90 c91 f90 f91
      first
        | refine hK.out _ _ (((((RG.out.1).other n8).other n8).other n9).other n9) (fun hHeld => ?_)
        | refine hK _ _ (((((RG.out.1).other n8).other n8).other n9).other n9) (fun hHeld => ?_)
      clear hK K
      (try simp only [List.getElem_toArray, List.getElem_cons_succ, List.getElem_cons_zero, Act.put, List.setIfInBounds_toArray, List.set_cons_zero, List.set_cons_succ])
      have H0 := Lib.hid (HW.out.put A B X Y)
      clear HW P8 P9 RG n8 n9 hne
      generalize (((W3.setCell ⟨h8, 0, none⟩ (.int .i64 A)).setCell ⟨h8, 1, none⟩ (.int .i64 B)).setCell ⟨h9, 0, none⟩ (.int .i64 X)).setCell ⟨h9, 1, none⟩ (.int .i64 Y) = WL at *
      (refine wpAnyH_take (i := 9) (v := ?_) rfl (by kernel_rfl) (by kernel_rfl) (by kernel_rfl) (fun _ _ _ h => h) (Or.inl ⟨by kernel_rfl, ?_⟩) (by assumption) ?_; rotate_left; focus (intro w hSw; (try dsimp only at hSw); go_simp; try with_reducible rfl); (try simp only [List.getElem_toArray, List.getElem_cons_succ, List.getElem_cons_zero, Act.put, List.setIfInBounds_toArray, List.set_cons_zero, List.set_cons_succ]))
      clear hHeld
      refine wpAnyH_done (by kernel_rfl) ?_ _
      (try simp only [List.getElem_toArray, List.getElem_cons_succ, List.getElem_cons_zero, Act.put, List.setIfInBounds_toArray, List.set_cons_zero, List.set_cons_succ])
      clear HC
      go_wp2_with fail
      go_loopw [10] (fun i wr => ∃ (acc A B X Y : Int), i = .int .i64 acc ∧ Hid (FwI c F O acc A B X Y) ∧ Hid (FwW w w.heap.size h8 h9 A B X Y wr)) (fun i _ => (F + 1 - intOf i).toNat)
      case atStart => exact ⟨0, A, B, X, Y, rfl, HI0, H0⟩
      case round =>
        clear HI0 H0
        obtain ⟨acc, A, B, X, Y, rfl, HI, HW⟩ := hrel
        obtain ⟨a0, a7, b0, b7, ab, x0, x3, y0, y3, c0, cF⟩ := HI.out.bd hc
        have HWG := Lib.hid (fun W => winnerOfGames_any A B W)
        obtain ⟨p0, p1, p2, p3⟩ := HW.out.cells
        cases ho : overB A B
        · have hsd : sideS (winN A B) = ⟨#[]⟩ := by have := near_side HI.out.near; rw [ho] at this; exact this
          rw [hsd] at HWG
          have hnx := HI.out.next hc ho
          have hr4 : raceTo A B = race4 A B := race_eq A B
          rw [hr4] at hnx
          have hto : 1 ≤ race4 A B ∧ race4 A B ≤ 30 := by unfold race4; split <;> omega
          have HRB := Lib.hid (fun W => raceBehind_any A B W)
          have HFR := Lib.hid (fun W => fewestToRace_any (race4 A B) 2 X Y c W hto (by omega) x0 (by omega) y0 (by omega))
          rw [fewR_max] at HFR
          have hbn := FwI.bd hnx hc
          have hps := (few_step (to := race4 A B) (x := X) (y := Y) hc (by rw [← hr4]; obtain ⟨f, -, -, -, h4, -⟩ := HI.out; exact (h4 ho).2)).1
          have HNX := Lib.hid hnx
          have HPL := Lib.hid (fun W => plus_any A B c W a0 (by omega) b0 (by omega))
          clear hsd hnx hr4 hto ho HI
          generalize race4 A B = to at *
          generalize fewR to X Y c = R at *
          generalize A + upA c = A2 at *
          generalize B + upB c = B2 at *
          have hbr : acc + R ≤ F := hbn.2.2.2.2.2.2.2.2.2.2
          clear hbn
          have t1 : IntKind.i64.wrap (acc + R) = acc + R := IntWalk.i64_in _ (by omega)
          go_wp2_with fail
          refine (HWG.out _).mono ?_; rintro e w3 ⟨rfl, b3⟩
          have HW3 := Lib.hid (HW.out.keep b3); clear b3 HW p0 p1 p2 p3 HWG
          go_wp2_with fail
          have KS := Lib.hid (HW3.out.keep (Below.drew (Below.refl w3.heap.size w3))); clear HW3
          refine wp_region_held_drew (S := fun wi => wi.cell? ⟨h8, 0, none⟩ = some (.int .i64 A) ∧ wi.cell? ⟨h8, 1, none⟩ = some (.int .i64 B) ∧ wi.cell? ⟨h9, 0, none⟩ = some (.int .i64 X) ∧ wi.cell? ⟨h9, 1, none⟩ = some (.int .i64 Y)) (by kernel_rfl) KS.out.cells (fun hHeld => ?_)
          generalize w3.drew = W3 at *
          (refine wpAnyH_take (i := 0) (v := ?_) rfl (by kernel_rfl) (by kernel_rfl) (by kernel_rfl) (fun _ _ _ h => h) (Or.inl ⟨by kernel_rfl, ?_⟩) (by assumption) ?_; rotate_left; focus (intro w hSw; (try dsimp only at hSw); go_simp; try with_reducible rfl); (try simp only [List.getElem_toArray, List.getElem_cons_succ, List.getElem_cons_zero, Act.put, List.setIfInBounds_toArray, List.set_cons_zero, List.set_cons_succ])); (refine wpAnyH_take (i := 1) (v := ?_) rfl (by kernel_rfl) (by kernel_rfl) (by kernel_rfl) (fun _ _ _ h => h) (Or.inl ⟨by kernel_rfl, ?_⟩) (by assumption) ?_; rotate_left; focus (intro w hSw; (try dsimp only at hSw); go_simp; try with_reducible rfl); (try simp only [List.getElem_toArray, List.getElem_cons_succ, List.getElem_cons_zero, Act.put, List.setIfInBounds_toArray, List.set_cons_zero, List.set_cons_succ])); (refine wpAnyH_take (i := 3) (v := ?_) rfl (by kernel_rfl) (by kernel_rfl) (by kernel_rfl) (fun _ _ _ h => h) (Or.inl ⟨by kernel_rfl, ?_⟩) (by assumption) ?_; rotate_left; focus (intro w hSw; (try dsimp only at hSw); go_simp; try with_reducible rfl); (try simp only [List.getElem_toArray, List.getElem_cons_succ, List.getElem_cons_zero, Act.put, List.setIfInBounds_toArray, List.set_cons_zero, List.set_cons_succ])); (refine wpAnyH_take (i := 4) (v := ?_) rfl (by kernel_rfl) (by kernel_rfl) (by kernel_rfl) (fun _ _ _ h => h) (Or.inl ⟨by kernel_rfl, ?_⟩) (by assumption) ?_; rotate_left; focus (intro w hSw; (try dsimp only at hSw); go_simp; try with_reducible rfl); (try simp only [List.getElem_toArray, List.getElem_cons_succ, List.getElem_cons_zero, Act.put, List.setIfInBounds_toArray, List.set_cons_zero, List.set_cons_succ]))
          clear hHeld
          refine wpAnyH_ready (rs := [2]) (by kernel_rfl) (by simp) ?_; refine AllReadyH.cons rfl (fun K hK => ?_) AllReadyH.nil
          go_simp
          go_at_call 67
          refine (HRB.out _).mono ?_; rintro e w4 ⟨rfl, b4⟩
          have K4 := Lib.hid (KS.out.keep b4); clear b4 KS HRB
          go_wp2_with fail
          first
            | refine hK.out _ _ K4.out.cells (fun hHeld => ?_)
            | refine hK _ _ K4.out.cells (fun hHeld => ?_)
          clear hK K hHeld
          (try simp only [List.getElem_toArray, List.getElem_cons_succ, List.getElem_cons_zero, Act.put, List.setIfInBounds_toArray, List.set_cons_zero, List.set_cons_succ])
          refine wpAnyH_ready (rs := [5]) (by kernel_rfl) (by simp) ?_; refine AllReadyH.cons rfl (fun K hK => ?_) AllReadyH.nil
          go_simp
          go_at_call 66
          refine (HFR.out _).mono ?_; rintro e w5 ⟨rfl, b5⟩
          have K5 := Lib.hid (K4.out.keep b5); clear b5 K4 HFR
          go_wp2_with fail
          first
            | refine hK.out _ _ K5.out.cells (fun hHeld => ?_)
            | refine hK _ _ K5.out.cells (fun hHeld => ?_)
          clear hK K
          (try simp only [List.getElem_toArray, List.getElem_cons_succ, List.getElem_cons_zero, Act.put, List.setIfInBounds_toArray, List.set_cons_zero, List.set_cons_succ])
          (refine wpAnyH_take (i := 6) (v := ?_) rfl (by kernel_rfl) (by kernel_rfl) (by kernel_rfl) (fun _ _ _ h => h) (Or.inl ⟨by kernel_rfl, ?_⟩) (by assumption) ?_; rotate_left; focus (intro w hSw; (try dsimp only at hSw); go_simp; try with_reducible rfl); (try simp only [List.getElem_toArray, List.getElem_cons_succ, List.getElem_cons_zero, Act.put, List.setIfInBounds_toArray, List.set_cons_zero, List.set_cons_succ])); (refine wpAnyH_take (i := 7) (v := ?_) rfl (by kernel_rfl) (by kernel_rfl) (by kernel_rfl) (fun _ _ _ h => h) (Or.inl ⟨by kernel_rfl, ?_⟩) (by assumption) ?_; rotate_left; focus (intro w hSw; (try dsimp only at hSw); go_simp; try with_reducible rfl); (try simp only [List.getElem_toArray, List.getElem_cons_succ, List.getElem_cons_zero, Act.put, List.setIfInBounds_toArray, List.set_cons_zero, List.set_cons_succ]))
          clear hHeld
          refine wpAnyH_done (by kernel_rfl) ?_ _
          (try simp only [List.getElem_toArray, List.getElem_cons_succ, List.getElem_cons_zero, Act.put, List.setIfInBounds_toArray, List.set_cons_zero, List.set_cons_succ])
          obtain ⟨p0, p1, p2, p3⟩ := K5.out.cells
          go_wp2_with fail
          refine (HPL.out _).mono ?_; rintro e w6 ⟨rfl, b6⟩
          have K6 := Lib.hid (K5.out.keep b6); clear b6 K5 HPL p0 p1 p2 p3
          obtain ⟨-, p0, p1, f0, f1⟩ := K6.out.1
          obtain ⟨-, p2, p3, f2, f3⟩ := K6.out.2.1
          have hne := K6.out.2.2.1
          have hne' : ¬ h9 = h8 := fun e => hne e.symm
          have K7 := Lib.hid (K6.out.put A2 B2 0 0)
          go_wp2_with fail
          clear p0 p1 p2 p3 f0 f1 f2 f3
          go_roundw
          case rel => exact ⟨acc + R, A2, B2, 0, 0, by go_num, HNX, K7⟩
          case measure => simp [intOf]; omega
        · have hsd : sideS (winN A B) = winW A B := by have := near_side HI.out.near; rw [ho] at this; rw [this]; unfold winW; rw [ho]; rfl
          obtain ⟨hfin, hdec⟩ := HI.out.fin ho
          have hw2 : winW A B = ⟨#[97]⟩ ∨ winW A B = ⟨#[98]⟩ := by
            unfold winW; rw [ho]; simp only [if_true]
            split
            · exact .inl rfl
            · exact .inr rfl
          rw [hsd] at HWG
          have HD := Lib.hid (And.intro hfin hdec); clear hfin hdec hsd ho HI
          rcases hw2 with hw2 | hw2
          all_goals
            rw [hw2] at HWG HD
            clear hw2
            rcases hc with rfl | rfl
          all_goals
            go_wp2_with fail
            refine (HWG.out _).mono ?_; rintro e w3 ⟨rfl, b3⟩
            have HW3 := Lib.hid (HW.out.keep b3); clear b3 HW p0 p1 p2 p3
            obtain ⟨p0, p1, p2, p3⟩ := HW3.out.cells
            go_wp2_with fail
            refine (HWG.out _).mono ?_; rintro e w4 ⟨rfl, b4⟩
            have HW4 := Lib.hid (HW3.out.keep b4); clear b4 HW3 p0 p1 p2 p3
            go_wp2_with fail
            go_ret2
            first
              | exact ⟨by rw [← HD.out.2, ← HD.out.1]; rfl, HW4.out.2.2.2.2.2⟩
              | exact ⟨by rw [HZ.out (by rw [← HD.out.2]; decide), ← HD.out.2]; rfl, HW4.out.2.2.2.2.2⟩

end Go.Proofs.YtbgdngfjeikheabDoor
