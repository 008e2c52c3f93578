/-
  Tennis: SetStands: the model and the program.
-/
import Derived.Test.YtbgdngfjeikheabDoorTnSetA
import Derived.Test.YtbgdngfjeikheabDoorTnTieI
import Derived.Test.YtbgdngfjeikheabDoorTnFewB
import Derived.Deep.RegionHeld3
namespace Go.Proofs.YtbgdngfjeikheabDoor
open Go.RowKit
set_option linter.unusedVariables false
set_option linter.unusedSimpArgs false

/-- What the walk asks: the two errors and the handle, and the table of powers of ten. -/
structure SetDoor (w : World) (p0 p1 : Addr) : Prop where
  laid : Laid w p0 p1
  tens : Tens w
theorem SetDoor.keep {w w' : World} {p0 p1 : Addr} (h : SetDoor w p0 p1) (hb : Below w.heap.size w w') : SetDoor w' p0 p1 := ⟨h.laid.keep hb, h.tens.keep hb⟩

def SetC (g : Nat) (t : ByteArray) (x y : Int) (wi : World) : Prop := wi.cell? ⟨g, 0, none⟩ = some (.string t) ∧ wi.cell? ⟨g, 1, none⟩ = some (.int .i64 x) ∧ wi.cell? ⟨g, 2, none⟩ = some (.int .i64 y)
theorem SetC.keep {g : Nat} {t : ByteArray} {x y : Int} {w w' : World} (h : SetC g t x y w) (hg : g < w.heap.size) (hb : Below w.heap.size w w') : SetC g t x y w' :=
  ⟨by rw [hb.cell (p := ⟨g, 0, none⟩) hg]; exact h.1, by rw [hb.cell (p := ⟨g, 1, none⟩) hg]; exact h.2.1, by rw [hb.cell (p := ⟨g, 2, none⟩) hg]; exact h.2.2⟩

def stA (s : ByteArray) : Int := if goodB s then cntA (gamesL s) else 0
def stB (s : ByteArray) : Int := if goodB s then cntB (gamesL s) else 0
def stT (s : ByteArray) : ByteArray := if goodB s then ⟨(standsS (wayS s)).toArray⟩ else ⟨#[]⟩
theorem st_bad {s : ByteArray} (h : goodB s = false) : stA s = 0 ∧ stB s = 0 ∧ stT s = ⟨#[]⟩ := by simp [stA, stB, stT, h]
theorem st_good {s : ByteArray} (h : goodB s = true) : stA s = cntA (gamesL s) ∧ stB s = cntB (gamesL s) ∧ stT s = ⟨(standsS (wayS s)).toArray⟩ := by simp [stA, stB, stT, h]

set_option maxHeartbeats 1600000 in
theorem specSetStands_any (s : ByteArray) (w : World) (hs : (s.size : Int) ≤ 1000000000000) :
    Calls Tryd.prog 21 #[.string s] w fun e w' => e = .returned (.tuple #[.int .i64 (stA s), .int .i64 (stB s), .string (stT s), .bool (goodB s)]) ∧ Below w.heap.size w w' := by
  have HI := Lib.hid (fun W => tnGood_any s W hs)
  cases hg : goodB s
  · rw [(st_bad hg).1, (st_bad hg).2.1, (st_bad hg).2.2]
    rw [hg] at HI
    clear hg
    go_enter Tryd.func21, Tryd.ntmps21
    go_wp2_with fail
    refine (HI.out _).mono ?_; rintro e w1 ⟨rfl, b1⟩
    have HB1 := Lib.hid b1; clear b1
    go_wp2_with fail
    refine bodyPost_ret (v := .tuple #[.int .i64 0, .int .i64 0, .string ⟨#[]⟩, .bool false]) (by simp [results, Tryd.results21, go_sem]) rfl ⟨rfl, HB1.out⟩
  · rw [(st_good hg).1, (st_good hg).2.1, (st_good hg).2.2]
    have HST := Lib.hid (fun W => tnSet_good s W hg)
    have HWN := Lib.hid (fun W => wonG_any s W)
    rw [hg] at HI
    clear hg
    generalize standsS (wayS s) = TL at *
    generalize cntA (gamesL s) = A at *
    generalize cntB (gamesL s) = B at *
    generalize gamesL s = G at *
    go_enter Tryd.func21, Tryd.ntmps21
    go_wp2_with fail
    refine (HI.out _).mono ?_; rintro e w1 ⟨rfl, b1⟩
    have HB1 := Lib.hid b1; clear b1
    go_wp2_with fail
    refine (HST.out _).mono ?_; rintro e w2 ⟨rfl, b2⟩
    have HB2 := Lib.hid (HB1.out.trans (b2.mono HB1.out.size)); clear b2
    go_wp2_with fail
    refine (HWN.out _).mono ?_; rintro e w3 ⟨rfl, rfl⟩
    go_wp2_with fail
    refine bodyPost_ret (v := .tuple #[.int .i64 A, .int .i64 B, .string ⟨TL.toArray⟩, .bool true]) (by simp [results, Tryd.results21, go_sem]) rfl ⟨rfl, HB2.out⟩

set_option maxHeartbeats 6400000 in
set_option maxRecDepth 100000 in
theorem implSst_any (s : ByteArray) (G : List UInt8) (A B x y : Int) (TL : List UInt8) (p0 p1 : Addr) (w : World)
    (HP : Hid (∀ w, Laid w p0 p1 → Calls Tryd.prog 56 #[.string s] w fun e w' => e = .returned (.tuple #[.agg #[.string ⟨G.toArray⟩, .int .i64 x, .int .i64 y], .bool true]) ∧ Below w.heap.size w w'))
    (HC : Hid (∀ w, Calls Tryd.prog 54 #[.string ⟨G.toArray⟩] w fun e w' => e = .returned (.agg #[.int .i64 A, .int .i64 B]) ∧ Below w.heap.size w w'))
    (hcase : (∃ c, sideS (winN A B) = ⟨#[c]⟩ ∧ TL = []) ∨ (sideS (winN A B) = ⟨#[]⟩ ∧ ((bothSix A B = true ∧ Hid (∀ W, Tens W → Calls Tryd.prog 53 #[.agg #[.int .i64 x, .int .i64 y]] W fun e w' => e = .returned (.string ⟨TL.toArray⟩) ∧ Below W.heap.size W w')) ∨ (bothSix A B = false ∧ Hid (∀ W, Calls Tryd.prog 61 #[.agg #[.int .i64 x, .int .i64 y]] W fun e w' => e = .returned (.string ⟨TL.toArray⟩) ∧ Below W.heap.size W w')))))
    (L : SetDoor w p0 p1) :
    Calls Tryd.prog 22 #[.string s] w fun e w' => e = .returned (.tuple #[.int .i64 A, .int .i64 B, .string ⟨TL.toArray⟩, .bool true]) ∧ Below w.heap.size w w' := by
  have HL := Lib.hid L; clear L
  have HWG := Lib.hid (fun W => winnerOfGames_any A B W)
  have HTN := Lib.hid (fun W => isTieNext_any A B W)
  go_enter Tryd.func22, Tryd.ntmps22
  go_wp2_with fail
  refine (HP.out _ HL.out.laid).mono ?_; rintro e w1 ⟨rfl, b1⟩
  have hs1 : SetC w1.heap.size ⟨G.toArray⟩ x y (w1.alloc (.cells #[.string ⟨G.toArray⟩, .int .i64 x, .int .i64 y] 66)) := ⟨cell_of_row _ _ 0 _ _ _ (heap_alloc_last w1 _), cell_of_row _ _ 1 _ _ _ (heap_alloc_last w1 _), cell_of_row _ _ 2 _ _ _ (heap_alloc_last w1 _)⟩
  have hb1 := b1.alloc b1.size (.cells #[.string ⟨G.toArray⟩, .int .i64 x, .int .i64 y] 66)
  have hg1 : w1.heap.size < (w1.alloc (.cells #[.string ⟨G.toArray⟩, .int .i64 x, .int .i64 y] 66)).heap.size := by simp
  have RG0 := Lib.hid (And.intro hs1 (And.intro hg1 (And.intro hb1 (HL.out.tens.keep hb1))))
  clear hs1 hb1 hg1 b1 HP
  go_wp2_with fail
  refine (HC.out _).mono ?_; rintro e w2 ⟨rfl, b2⟩
  have RG2 := Lib.hid (And.intro (RG0.out.1.keep RG0.out.2.1 b2) (And.intro (Nat.lt_of_lt_of_le RG0.out.2.1 b2.size) (And.intro (RG0.out.2.2.1.trans (b2.mono RG0.out.2.2.1.size)) (RG0.out.2.2.2.keep b2)))); clear b2 RG0 HC
  have hbn := (Below.refl w2.heap.size w2).alloc (Nat.le_refl _) (.cells #[.int .i64 A, .int .i64 B] 63)
  have RG3 := Lib.hid (And.intro (RG2.out.1.keep RG2.out.2.1 hbn) (And.intro (Nat.lt_of_lt_of_le RG2.out.2.1 hbn.size) (And.intro (RG2.out.2.2.1.trans (hbn.mono RG2.out.2.2.1.size)) (And.intro (RG2.out.2.2.2.keep hbn) (Pair.new w2 A B 63)))))
  clear hbn RG2
  generalize w1.heap.size = g at *
  obtain ⟨q0, q1⟩ := And.intro RG3.out.2.2.2.2.2.1 RG3.out.2.2.2.2.2.2.1
  go_wp2_with fail
  refine (HWG.out _).mono ?_; rintro e w4 ⟨rfl, b4⟩
  clear q0 q1
  have RG4 := Lib.hid (And.intro (RG3.out.1.keep RG3.out.2.1 b4) (And.intro (Nat.lt_of_lt_of_le RG3.out.2.1 b4.size) (And.intro (RG3.out.2.2.1.trans (b4.mono RG3.out.2.2.1.size)) (And.intro (RG3.out.2.2.2.1.keep b4) (RG3.out.2.2.2.2.keep b4))))); clear b4 RG3 HWG
  generalize w2.heap.size = h at *
  obtain ⟨q0, q1⟩ := And.intro RG4.out.2.2.2.2.2.1 RG4.out.2.2.2.2.2.2.1
  rcases hcase with ⟨c, hsd, rfl⟩ | ⟨hsd, hc⟩
  · rw [hsd]
    clear hsd HTN
    go_wp2_with fail
    go_quiet (fail)
    go_wp2
    refine bodyPost_ret (v := .tuple #[.int .i64 A, .int .i64 B, .string ⟨#[]⟩, .bool true]) (by simp [results, Tryd.results22, go_sem]) rfl ⟨rfl, below_drewN RG4.out.2.2.1 _⟩
  · rw [hsd]
    clear hsd
    go_wp2_with fail
    refine (HTN.out _).mono ?_; rintro e w5 ⟨rfl, b5⟩
    clear q0 q1
    have K5 := Lib.hid (And.intro (RG4.out.1.keep RG4.out.2.1 b5) (And.intro (RG4.out.2.2.2.2.keep b5) (And.intro (RG4.out.2.2.1.trans (b5.mono RG4.out.2.2.1.size)) (And.intro (Nat.lt_of_lt_of_le RG4.out.2.1 b5.size) (RG4.out.2.2.2.1.keep b5))))); clear b5 RG4 HTN
    rcases hc with ⟨h6, HT⟩ | ⟨h6, HT⟩
    · rw [h6]
      clear h6
      go_wp2_with fail
      have KD : Hid (SetC g ⟨G.toArray⟩ x y w5.drew ∧ Pair w5.drew h A B ∧ Below w.heap.size w w5.drew ∧ w.heap.size ≤ w5.drew.heap.size) := Lib.hid ⟨K5.out.1.keep K5.out.2.2.2.1 (Below.drew (Below.refl _ _)), K5.out.2.1.keep (Below.drew (Below.refl _ _)), K5.out.2.2.1.trans (Below.drew (Below.refl _ _) |>.mono K5.out.2.2.1.size), by have := K5.out.2.2.1.size; simpa using this⟩
      have HTN := Lib.hid (K5.out.2.2.2.2.keep (Below.drew (Below.refl _ _)))
      clear K5
      refine wp_region_held_drew (S := fun wi => wi.cell? ⟨g, 0, none⟩ = some (.string ⟨G.toArray⟩) ∧ wi.cell? ⟨g, 1, none⟩ = some (.int .i64 x) ∧ wi.cell? ⟨g, 2, none⟩ = some (.int .i64 y) ∧ wi.cell? ⟨h, 0, none⟩ = some (.int .i64 A) ∧ wi.cell? ⟨h, 1, none⟩ = some (.int .i64 B)) (by kernel_rfl) ⟨KD.out.1.1, KD.out.1.2.1, KD.out.1.2.2, KD.out.2.1.2.1, KD.out.2.1.2.2.1⟩ (fun hHeld => ?_)
      generalize w5.drew = W5 at *
      (refine wpAnyH_take (i := 0) (v := ?_) rfl (by kernel_rfl) (by kernel_rfl) (by kernel_rfl) (fun _ _ _ h => h) (Or.inl ⟨by kernel_rfl, ?_⟩) (by assumption) ?_; rotate_left; focus (intro w hSw; (try dsimp only at hSw); go_simp; try with_reducible rfl); (try simp only [List.getElem_toArray, List.getElem_cons_succ, List.getElem_cons_zero, Act.put, List.setIfInBounds_toArray, List.set_cons_zero, List.set_cons_succ])); (refine wpAnyH_take (i := 1) (v := ?_) rfl (by kernel_rfl) (by kernel_rfl) (by kernel_rfl) (fun _ _ _ h => h) (Or.inl ⟨by kernel_rfl, ?_⟩) (by assumption) ?_; rotate_left; focus (intro w hSw; (try dsimp only at hSw); go_simp; try with_reducible rfl); (try simp only [List.getElem_toArray, List.getElem_cons_succ, List.getElem_cons_zero, Act.put, List.setIfInBounds_toArray, List.set_cons_zero, List.set_cons_succ])); (refine wpAnyH_take (i := 2) (v := ?_) rfl (by kernel_rfl) (by kernel_rfl) (by kernel_rfl) (fun _ _ _ h => h) (Or.inl ⟨by kernel_rfl, ?_⟩) (by assumption) ?_; rotate_left; focus (intro w hSw; (try dsimp only at hSw); go_simp; try with_reducible rfl); (try simp only [List.getElem_toArray, List.getElem_cons_succ, List.getElem_cons_zero, Act.put, List.setIfInBounds_toArray, List.set_cons_zero, List.set_cons_succ])); (refine wpAnyH_take (i := 3) (v := ?_) rfl (by kernel_rfl) (by kernel_rfl) (by kernel_rfl) (fun _ _ _ h => h) (Or.inl ⟨by kernel_rfl, ?_⟩) (by assumption) ?_; rotate_left; focus (intro w hSw; (try dsimp only at hSw); go_simp; try with_reducible rfl); (try simp only [List.getElem_toArray, List.getElem_cons_succ, List.getElem_cons_zero, Act.put, List.setIfInBounds_toArray, List.set_cons_zero, List.set_cons_succ])); (refine wpAnyH_take (i := 4) (v := ?_) rfl (by kernel_rfl) (by kernel_rfl) (by kernel_rfl) (fun _ _ _ h => h) (Or.inl ⟨by kernel_rfl, ?_⟩) (by assumption) ?_; rotate_left; focus (intro w hSw; (try dsimp only at hSw); go_simp; try with_reducible rfl); (try simp only [List.getElem_toArray, List.getElem_cons_succ, List.getElem_cons_zero, Act.put, List.setIfInBounds_toArray, List.set_cons_zero, List.set_cons_succ])); (refine wpAnyH_take (i := 5) (v := ?_) rfl (by kernel_rfl) (by kernel_rfl) (by kernel_rfl) (fun _ _ _ h => h) (Or.inl ⟨by kernel_rfl, ?_⟩) (by assumption) ?_; rotate_left; focus (intro w hSw; (try dsimp only at hSw); go_simp; try with_reducible rfl); (try simp only [List.getElem_toArray, List.getElem_cons_succ, List.getElem_cons_zero, Act.put, List.setIfInBounds_toArray, List.set_cons_zero, List.set_cons_succ]))
      clear hHeld
      refine wpAnyH_ready (rs := [6]) (by kernel_rfl) (by simp) ?_; refine AllReadyH.cons rfl (fun K hK => ?_) AllReadyH.nil
      go_simp
      go_at_call 53
      refine (HT.out _ HTN.out).mono ?_; rintro e w6 ⟨rfl, b6⟩
      have hgl : g < W5.heap.size := by
        have := World.block_lt_of_cell? W5 _ KD.out.1.1
        exact this
      have K6 := Lib.hid (And.intro (KD.out.1.keep hgl b6) (And.intro (KD.out.2.1.keep b6) (KD.out.2.2.1.trans (b6.mono KD.out.2.2.2)))); clear b6 KD HTN hgl
      go_wp2_with fail
      first
        | refine hK.out _ _ ⟨K6.out.1.1, K6.out.1.2.1, K6.out.1.2.2, K6.out.2.1.2.1, K6.out.2.1.2.2.1⟩ (fun hHeld => ?_)
        | refine hK _ _ ⟨K6.out.1.1, K6.out.1.2.1, K6.out.1.2.2, K6.out.2.1.2.1, K6.out.2.1.2.2.1⟩ (fun hHeld => ?_)
      clear hK K
      (try simp only [List.getElem_toArray, List.getElem_cons_succ, List.getElem_cons_zero, Act.put, List.setIfInBounds_toArray, List.set_cons_zero, List.set_cons_succ])
      (refine wpAnyH_take (i := 7) (v := ?_) rfl (by kernel_rfl) (by kernel_rfl) (by kernel_rfl) (fun _ _ _ h => h) (Or.inl ⟨by kernel_rfl, ?_⟩) (by assumption) ?_; rotate_left; focus (intro w hSw; (try dsimp only at hSw); go_simp; try with_reducible rfl); (try simp only [List.getElem_toArray, List.getElem_cons_succ, List.getElem_cons_zero, Act.put, List.setIfInBounds_toArray, List.set_cons_zero, List.set_cons_succ])); (refine wpAnyH_take (i := 8) (v := ?_) rfl (by kernel_rfl) (by kernel_rfl) (by kernel_rfl) (fun _ _ _ h => h) (Or.inl ⟨by kernel_rfl, ?_⟩) (by assumption) ?_; rotate_left; focus (intro w hSw; (try dsimp only at hSw); go_simp; try with_reducible rfl); (try simp only [List.getElem_toArray, List.getElem_cons_succ, List.getElem_cons_zero, Act.put, List.setIfInBounds_toArray, List.set_cons_zero, List.set_cons_succ])); (refine wpAnyH_take (i := 9) (v := ?_) rfl (by kernel_rfl) (by kernel_rfl) (by kernel_rfl) (fun _ _ _ h => h) (Or.inl ⟨by kernel_rfl, ?_⟩) (by assumption) ?_; rotate_left; focus (intro w hSw; (try dsimp only at hSw); go_simp; try with_reducible rfl); (try simp only [List.getElem_toArray, List.getElem_cons_succ, List.getElem_cons_zero, Act.put, List.setIfInBounds_toArray, List.set_cons_zero, List.set_cons_succ])); (refine wpAnyH_take (i := 10) (v := ?_) rfl (by kernel_rfl) (by kernel_rfl) (by kernel_rfl) (fun _ _ _ h => h) (Or.inl ⟨by kernel_rfl, ?_⟩) (by assumption) ?_; rotate_left; focus (intro w hSw; (try dsimp only at hSw); go_simp; try with_reducible rfl); (try simp only [List.getElem_toArray, List.getElem_cons_succ, List.getElem_cons_zero, Act.put, List.setIfInBounds_toArray, List.set_cons_zero, List.set_cons_succ]))
      clear hHeld
      refine wpAnyH_done (by kernel_rfl) ?_ _
      (try simp only [List.getElem_toArray, List.getElem_cons_succ, List.getElem_cons_zero, Act.put, List.setIfInBounds_toArray, List.set_cons_zero, List.set_cons_succ])
      go_wp2_with fail
      refine bodyPost_ret (v := .tuple #[.int .i64 A, .int .i64 B, .string ⟨TL.toArray⟩, .bool true]) (by simp [results, Tryd.results22, go_sem]) rfl ⟨rfl, K6.out.2.2⟩
    · rw [h6]
      clear h6
      go_wp2_with fail
      have KD : Hid (SetC g ⟨G.toArray⟩ x y w5.drew ∧ Pair w5.drew h A B ∧ Below w.heap.size w w5.drew ∧ w.heap.size ≤ w5.drew.heap.size) := Lib.hid ⟨K5.out.1.keep K5.out.2.2.2.1 (Below.drew (Below.refl _ _)), K5.out.2.1.keep (Below.drew (Below.refl _ _)), K5.out.2.2.1.trans (Below.drew (Below.refl _ _) |>.mono K5.out.2.2.1.size), by have := K5.out.2.2.1.size; simpa using this⟩
      have HTN := Lib.hid (K5.out.2.2.2.2.keep (Below.drew (Below.refl _ _)))
      clear K5
      refine wp_region_held_drew (S := fun wi => wi.cell? ⟨g, 0, none⟩ = some (.string ⟨G.toArray⟩) ∧ wi.cell? ⟨g, 1, none⟩ = some (.int .i64 x) ∧ wi.cell? ⟨g, 2, none⟩ = some (.int .i64 y) ∧ wi.cell? ⟨h, 0, none⟩ = some (.int .i64 A) ∧ wi.cell? ⟨h, 1, none⟩ = some (.int .i64 B)) (by kernel_rfl) ⟨KD.out.1.1, KD.out.1.2.1, KD.out.1.2.2, KD.out.2.1.2.1, KD.out.2.1.2.2.1⟩ (fun hHeld => ?_)
      generalize w5.drew = W5 at *
      (refine wpAnyH_take (i := 0) (v := ?_) rfl (by kernel_rfl) (by kernel_rfl) (by kernel_rfl) (fun _ _ _ h => h) (Or.inl ⟨by kernel_rfl, ?_⟩) (by assumption) ?_; rotate_left; focus (intro w hSw; (try dsimp only at hSw); go_simp; try with_reducible rfl); (try simp only [List.getElem_toArray, List.getElem_cons_succ, List.getElem_cons_zero, Act.put, List.setIfInBounds_toArray, List.set_cons_zero, List.set_cons_succ])); (refine wpAnyH_take (i := 1) (v := ?_) rfl (by kernel_rfl) (by kernel_rfl) (by kernel_rfl) (fun _ _ _ h => h) (Or.inl ⟨by kernel_rfl, ?_⟩) (by assumption) ?_; rotate_left; focus (intro w hSw; (try dsimp only at hSw); go_simp; try with_reducible rfl); (try simp only [List.getElem_toArray, List.getElem_cons_succ, List.getElem_cons_zero, Act.put, List.setIfInBounds_toArray, List.set_cons_zero, List.set_cons_succ])); (refine wpAnyH_take (i := 2) (v := ?_) rfl (by kernel_rfl) (by kernel_rfl) (by kernel_rfl) (fun _ _ _ h => h) (Or.inl ⟨by kernel_rfl, ?_⟩) (by assumption) ?_; rotate_left; focus (intro w hSw; (try dsimp only at hSw); go_simp; try with_reducible rfl); (try simp only [List.getElem_toArray, List.getElem_cons_succ, List.getElem_cons_zero, Act.put, List.setIfInBounds_toArray, List.set_cons_zero, List.set_cons_succ])); (refine wpAnyH_take (i := 3) (v := ?_) rfl (by kernel_rfl) (by kernel_rfl) (by kernel_rfl) (fun _ _ _ h => h) (Or.inl ⟨by kernel_rfl, ?_⟩) (by assumption) ?_; rotate_left; focus (intro w hSw; (try dsimp only at hSw); go_simp; try with_reducible rfl); (try simp only [List.getElem_toArray, List.getElem_cons_succ, List.getElem_cons_zero, Act.put, List.setIfInBounds_toArray, List.set_cons_zero, List.set_cons_succ])); (refine wpAnyH_take (i := 4) (v := ?_) rfl (by kernel_rfl) (by kernel_rfl) (by kernel_rfl) (fun _ _ _ h => h) (Or.inl ⟨by kernel_rfl, ?_⟩) (by assumption) ?_; rotate_left; focus (intro w hSw; (try dsimp only at hSw); go_simp; try with_reducible rfl); (try simp only [List.getElem_toArray, List.getElem_cons_succ, List.getElem_cons_zero, Act.put, List.setIfInBounds_toArray, List.set_cons_zero, List.set_cons_succ])); (refine wpAnyH_take (i := 5) (v := ?_) rfl (by kernel_rfl) (by kernel_rfl) (by kernel_rfl) (fun _ _ _ h => h) (Or.inl ⟨by kernel_rfl, ?_⟩) (by assumption) ?_; rotate_left; focus (intro w hSw; (try dsimp only at hSw); go_simp; try with_reducible rfl); (try simp only [List.getElem_toArray, List.getElem_cons_succ, List.getElem_cons_zero, Act.put, List.setIfInBounds_toArray, List.set_cons_zero, List.set_cons_succ]))
      clear hHeld
      refine wpAnyH_ready (rs := [6]) (by kernel_rfl) (by simp) ?_; refine AllReadyH.cons rfl (fun K hK => ?_) AllReadyH.nil
      go_simp
      go_at_call 61
      refine (HT.out _).mono ?_; rintro e w6 ⟨rfl, b6⟩
      have hgl : g < W5.heap.size := by
        have := World.block_lt_of_cell? W5 _ KD.out.1.1
        exact this
      have K6 := Lib.hid (And.intro (KD.out.1.keep hgl b6) (And.intro (KD.out.2.1.keep b6) (KD.out.2.2.1.trans (b6.mono KD.out.2.2.2)))); clear b6 KD HTN hgl
      go_wp2_with fail
      first
        | refine hK.out _ _ ⟨K6.out.1.1, K6.out.1.2.1, K6.out.1.2.2, K6.out.2.1.2.1, K6.out.2.1.2.2.1⟩ (fun hHeld => ?_)
        | refine hK _ _ ⟨K6.out.1.1, K6.out.1.2.1, K6.out.1.2.2, K6.out.2.1.2.1, K6.out.2.1.2.2.1⟩ (fun hHeld => ?_)
      clear hK K
      (try simp only [List.getElem_toArray, List.getElem_cons_succ, List.getElem_cons_zero, Act.put, List.setIfInBounds_toArray, List.set_cons_zero, List.set_cons_succ])
      (refine wpAnyH_take (i := 7) (v := ?_) rfl (by kernel_rfl) (by kernel_rfl) (by kernel_rfl) (fun _ _ _ h => h) (Or.inl ⟨by kernel_rfl, ?_⟩) (by assumption) ?_; rotate_left; focus (intro w hSw; (try dsimp only at hSw); go_simp; try with_reducible rfl); (try simp only [List.getElem_toArray, List.getElem_cons_succ, List.getElem_cons_zero, Act.put, List.setIfInBounds_toArray, List.set_cons_zero, List.set_cons_succ])); (refine wpAnyH_take (i := 8) (v := ?_) rfl (by kernel_rfl) (by kernel_rfl) (by kernel_rfl) (fun _ _ _ h => h) (Or.inl ⟨by kernel_rfl, ?_⟩) (by assumption) ?_; rotate_left; focus (intro w hSw; (try dsimp only at hSw); go_simp; try with_reducible rfl); (try simp only [List.getElem_toArray, List.getElem_cons_succ, List.getElem_cons_zero, Act.put, List.setIfInBounds_toArray, List.set_cons_zero, List.set_cons_succ])); (refine wpAnyH_take (i := 9) (v := ?_) rfl (by kernel_rfl) (by kernel_rfl) (by kernel_rfl) (fun _ _ _ h => h) (Or.inl ⟨by kernel_rfl, ?_⟩) (by assumption) ?_; rotate_left; focus (intro w hSw; (try dsimp only at hSw); go_simp; try with_reducible rfl); (try simp only [List.getElem_toArray, List.getElem_cons_succ, List.getElem_cons_zero, Act.put, List.setIfInBounds_toArray, List.set_cons_zero, List.set_cons_succ])); (refine wpAnyH_take (i := 10) (v := ?_) rfl (by kernel_rfl) (by kernel_rfl) (by kernel_rfl) (fun _ _ _ h => h) (Or.inl ⟨by kernel_rfl, ?_⟩) (by assumption) ?_; rotate_left; focus (intro w hSw; (try dsimp only at hSw); go_simp; try with_reducible rfl); (try simp only [List.getElem_toArray, List.getElem_cons_succ, List.getElem_cons_zero, Act.put, List.setIfInBounds_toArray, List.set_cons_zero, List.set_cons_succ]))
      clear hHeld
      refine wpAnyH_done (by kernel_rfl) ?_ _
      (try simp only [List.getElem_toArray, List.getElem_cons_succ, List.getElem_cons_zero, Act.put, List.setIfInBounds_toArray, List.set_cons_zero, List.set_cons_succ])
      go_wp2_with fail
      refine bodyPost_ret (v := .tuple #[.int .i64 A, .int .i64 B, .string ⟨TL.toArray⟩, .bool true]) (by simp [results, Tryd.results22, go_sem]) rfl ⟨rfl, K6.out.2.2⟩

set_option maxHeartbeats 1600000 in
theorem implSetStands_any (s : ByteArray) (p0 p1 : Addr) (w : World) (hs : (s.size : Int) ≤ 1000000000000) (L : SetDoor w p0 p1) :
    Calls Tryd.prog 22 #[.string s] w fun e w' => e = .returned (.tuple #[.int .i64 (stA s), .int .i64 (stB s), .string (stT s), .bool (goodB s)]) ∧ Below w.heap.size w w' := by
  cases hg : goodB s
  · rw [(st_bad hg).1, (st_bad hg).2.1, (st_bad hg).2.2]
    have HP := Lib.hid (playSet_bad s p0 p1 w hs L.laid hg)
    clear hg L
    go_enter Tryd.func22, Tryd.ntmps22
    go_wp2_with fail
    refine HP.out.mono ?_; rintro e w1 ⟨rfl, b1⟩
    have HB1 := Lib.hid (b1.alloc b1.size (.cells #[.string ⟨#[]⟩, .int .i64 0, .int .i64 0] 66)); clear b1
    go_wp2_with fail
    refine bodyPost_ret (v := .tuple #[.int .i64 0, .int .i64 0, .string ⟨#[]⟩, .bool false]) (by simp [results, Tryd.results22, go_sem]) rfl ⟨rfl, HB1.out⟩
  · rw [(st_good hg).1, (st_good hg).2.1, (st_good hg).2.2]
    have hlen := good_len hg
    obtain ⟨inr, inl, ino, i1, i2, i3, i4⟩ := games_inv s
    have hns := near_side inr
    refine implSst_any s (gamesL s) _ _ _ _ _ p0 p1 w (Lib.hid (fun w L => playSet_good s p0 p1 w L hg)) (Lib.hid (fun w => sidesG_any s w)) ?_ L
    cases hx : (wayS s).2.2 with
    | none =>
      rw [hx] at ino
      have hst : standsS (wayS s) = [] := by unfold standsS; rw [hx]
      refine .inl ?_
      rw [ino] at hns
      simp only [Option.isNone, if_true] at hns
      split at hns
      · exact ⟨97, hns, hst⟩
      · exact ⟨98, hns, hst⟩
    | some p =>
      obtain ⟨x, y⟩ := p
      rw [hx] at ino
      have hnx : nextS (wayS s) = (x, y) := by unfold nextS; rw [hx]; rfl
      have hwy : wayS s = (gamesL s, (wayS s).2.1, some (x, y)) := by
        have : wayS s = ((wayS s).1, (wayS s).2.1, (wayS s).2.2) := rfl
        rw [hx] at this; exact this
      have h0 : wayN s 97 0 = (gamesL s, (wayS s).2.1, some (x, y)) := by rw [wayN_0]; exact hwy
      have hrace := (wayN_step h0).1.race
      rw [hnx] at i1 i2 i3 i4 ⊢
      simp only at i1 i2 i3 i4 ⊢
      have hst : standsS (wayS s) = if cntA (gamesL s) = 6 ∧ cntB (gamesL s) = 6 then tieL x.toNat y.toNat false else standL x y := by
        unfold standsS; rw [hx]; rfl
      rw [ino] at hns
      refine .inr ⟨hns, ?_⟩
      rw [hst]
      by_cases h6 : cntA (gamesL s) = 6 ∧ cntB (gamesL s) = 6
      · rw [if_pos h6]
        refine .inl ⟨by unfold bothSix; rw [h6.1, h6.2]; rfl, fun W hT => ?_⟩
        have hr7 : wonN 7 x y = 0 := by rw [show raceTo (cntA (gamesL s)) (cntB (gamesL s)) = 7 from by unfold raceTo; rw [if_pos h6]] at hrace; exact hrace
        have := tieStand_any x.toNat y.toNat W (by omega) (by omega) hT
        rw [show ((x.toNat : Nat) : Int) = x from by omega, show ((y.toNat : Nat) : Int) = y from by omega, hr7] at this
        exact this
      · rw [if_neg h6]
        refine .inr ⟨by unfold bothSix; rw [Bool.eq_false_iff]; intro e; simp at e; exact h6 e, fun W => ?_⟩
        exact gameStand_any x y W ⟨i1, i3, by omega, by omega⟩

end Go.Proofs.YtbgdngfjeikheabDoor
