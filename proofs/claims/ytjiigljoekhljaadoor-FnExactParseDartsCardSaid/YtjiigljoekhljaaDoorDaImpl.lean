/-
  A dart out of its text, as the program finds it: the first of the list of all darts.
-/
import Derived.Test.YtjiigljoekhljaaDoorDaAll
import Derived.Test.YtjiigljoekhljaaDoorWkDartText
namespace Go.Proofs.YtjiigljoekhljaaDoor
open Go.RowKit
set_option linter.unusedVariables false

def okD (d : Int × Int) : Bool := decide (0 ≤ d.1) && decide (d.1 < 100) && (decide (d.2 = 1) || decide (d.2 = 2) || decide (d.2 = 3)) && goodB d.1 d.2
theorem allD_len : allD.length = 62 := by decide +kernel
theorem allD_ok : ∀ d ∈ allD, okD d = true := by decide +kernel

def txt (d : Int × Int) : ByteArray := ⟨(textD d.1.toNat d.2).toArray⟩
def dartW (d : Int × Int) : Value := .agg #[.int .i64 d.1, .int .i64 d.2]
def picked (s : ByteArray) (l : List (Int × Int)) : Value :=
  match l.find? (fun d => (txt d).toList == s.toList) with
  | some d => .tuple #[dartW d, .bool true]
  | none => .tuple #[dartW (0, 0), .bool false]

theorem text_of (d : Int × Int) (hd : okD d = true) (w : World) :
    Calls Tryd.prog 87 #[.agg #[.int .i64 d.1, .int .i64 d.2]] w fun e w' => e = .returned (.tuple #[.string (txt d), .bool true]) ∧ Below w.heap.size w w' := by
  obtain ⟨x, y⟩ := d
  simp [okD] at hd
  obtain ⟨⟨⟨h0, h1⟩, h2⟩, h3⟩ := hd
  obtain ⟨n, rfl⟩ := Int.eq_ofNat_of_zero_le h0
  exact ExDartText.impl_good n (by omega) y (by omega) h3 w

theorem put_two {Y : World} {g : Nat} {x y a b : Value} (h0 : Y.cell? ⟨g, 0, none⟩ = some a) (h1 : Y.cell? ⟨g, 1, none⟩ = some b) :
    ((Y.setCell ⟨g, 0, none⟩ x).setCell ⟨g, 1, none⟩ y).cell? ⟨g, 0, none⟩ = some x ∧ ((Y.setCell ⟨g, 0, none⟩ x).setCell ⟨g, 1, none⟩ y).cell? ⟨g, 1, none⟩ = some y := by
  refine ⟨?_, ?_⟩
  · rw [World.cell?_setCell_other _ _ _ _ (by intro e; injection e; omega)]; exact World.cell?_setCell_same _ _ _ h0
  · have h2 := World.cell?_setCell_other (w := Y) (a := ⟨g, 0, none⟩) (b := ⟨g, 1, none⟩) (v := x) (by intro e; injection e; omega)
    exact World.cell?_setCell_same _ _ _ (h2.trans h1)

set_option maxHeartbeats 1600000 in
set_option maxRecDepth 100000 in
theorem implParse_any (s : ByteArray) (w : World) :
    Calls Tryd.prog 45 #[.string s] w fun e w' => e = .returned (picked s allD) ∧ Below w.heap.size w w' := by
  go_enter Tryd.func45, Tryd.ntmps45
  go_wp2_with fail
  refine (allDarts_any _).mono ?_; rintro e w1 ⟨v, rfl, hown, hbel⟩
  obtain ⟨a, c, rfl, hrd, -, -, -⟩ := Reads.own hown
  clear hown
  rw [allD_len]
  obtain ⟨b, off, hba, hlt, hc⟩ := dcells_of_reads hrd (by rw [allD_len]; decide)
  subst hba
  rw [allD_len] at hc
  clear hrd
  have hz0 : w1.cell? ⟨w.heap.size, 0, none⟩ = some (.int .i64 0) := by
    rw [hbel.cell (p := ⟨w.heap.size, 0, none⟩) (by simp)]; exact cell_of_row _ _ 0 _ _ _ (heap_alloc_last w _)
  have hz1 : w1.cell? ⟨w.heap.size, 1, none⟩ = some (.int .i64 0) := by
    rw [hbel.cell (p := ⟨w.heap.size, 1, none⟩) (by simp)]; exact cell_of_row _ _ 1 _ _ _ (heap_alloc_last w _)
  have hfz : w1.frozen? ⟨w.heap.size, 0, none⟩ = false := by
    rw [hbel.frozen (p := ⟨w.heap.size, 0, none⟩) (by simp)]; exact frozen_of_row _ _ _ _ _ (heap_alloc_last w _)
  have hfz1 : w1.frozen? ⟨w.heap.size, 1, none⟩ = false := by
    rw [hbel.frozen (p := ⟨w.heap.size, 1, none⟩) (by simp)]; exact frozen_of_row _ _ _ _ _ (heap_alloc_last w _)
  have hsz := hbel.size
  simp at hsz
  have hbw : Below w.heap.size w w1 := ((Below.refl _ _).alloc (Nat.le_refl _) _).trans (hbel.mono (by simp))
  clear hbel
  have HZ := Lib.hid (And.intro hz0 (And.intro hz1 (And.intro hfz hfz1))); clear hz0 hz1 hfz hfz1
  have HC := Lib.hid hc; clear hc
  have HW := Lib.hid hbw; clear hbw
  go_wp2_with fail
  go_loopw [10] (fun i wr => ∃ k : Nat, i = .int .i64 k ∧ k ≤ 62 ∧ Hid (picked s (allD.drop k) = picked s allD ∧ Below w1.heap.size w1 wr)) (fun i _ => 62 - (intOf i).toNat)
  case atStart => exact ⟨0, rfl, Nat.zero_le _, Lib.hid ⟨rfl, Below.refl _ _⟩⟩
  case round =>
    obtain ⟨k, rfl, hk, hH⟩ := hrel
    by_cases hlt2 : k < 62
    · have hb : (k : Int) < 62 := by omega
      have hok : okD (allD.getD k (0, 0)) = true := by
        have : k < allD.length := by rw [allD_len]; exact hlt2
        rw [List.getD_eq_getElem?_getD, List.getElem?_eq_getElem this]
        exact allD_ok _ (List.getElem_mem this)
      have hdrop : allD.drop k = allD.getD k (0, 0) :: allD.drop (k + 1) := by
        have : k < allD.length := by rw [allD_len]; exact hlt2
        rw [List.drop_eq_getElem_cons this, List.getD_eq_getElem?_getD, List.getElem?_eq_getElem this]; rfl
      obtain ⟨c0, c1⟩ := HC.out k hlt2
      have bd := hH.out.2
      have c0 := (bd.cell (p := ⟨b, off + k * 2, none⟩) hlt).trans c0
      have c1 := (bd.cell (p := ⟨b, off + k * 2 + 1, none⟩) hlt).trans c1
      have hpk := hH.out.1
      rw [hdrop] at hpk
      clear hdrop
      generalize allD.getD k (0, 0) = d at *
      have ht := text_of d hok
      have HT := Lib.hid ht; clear ht hok
      have HP := Lib.hid hpk; clear hpk
      have HBD := Lib.hid bd; clear bd
      have hsz2 := HBD.out.size
      clear hH
      obtain ⟨x, y⟩ := d
      go_wp2_with fail
      refine (HT.out _).mono ?_; rintro e w2 ⟨rfl, b2⟩
      have hps : picked s ((x, y) :: allD.drop (k + 1)) = if ((txt (x, y)).toList == s.toList) = true then .tuple #[dartW (x, y), .bool true] else picked s (allD.drop (k + 1)) := by
        unfold picked; rw [List.find?_cons]; cases h : (txt (x, y)).toList == s.toList <;> simp
      generalize txt (x, y) = T at *
      have hbw2 : Below w1.heap.size w1 w2 := (HBD.out.alloc HBD.out.size _).trans (b2.mono (by simp; omega))
      by_cases hTs : (T.toList == s.toList) = true
      · rw [if_pos hTs] at hps
        have HQ := Lib.hid (hps.symm.trans HP.out); clear hps HP
        have e0 : w2.cell? ⟨wr.heap.size, 0, none⟩ = some (.int .i64 x) := by
          rw [b2.cell (p := ⟨wr.heap.size, 0, none⟩) (by simp)]; exact cell_of_row _ _ 0 _ _ _ (heap_alloc_last wr _)
        have e1 : w2.cell? ⟨wr.heap.size, 1, none⟩ = some (.int .i64 y) := by
          rw [b2.cell (p := ⟨wr.heap.size, 1, none⟩) (by simp)]; exact cell_of_row _ _ 1 _ _ _ (heap_alloc_last wr _)
        obtain ⟨z0, z1, z2, z3⟩ := HZ.out
        have z0 := (hbw2.cell (p := ⟨w.heap.size, 0, none⟩) (by simp; omega)).trans z0
        have z1 := (hbw2.cell (p := ⟨w.heap.size, 1, none⟩) (by simp; omega)).trans z1
        have z2 := (hbw2.frozen (p := ⟨w.heap.size, 0, none⟩) (by simp; omega)).trans z2
        have z3 := (hbw2.frozen (p := ⟨w.heap.size, 1, none⟩) (by simp; omega)).trans z3
        have HWW := Lib.hid (HW.out.trans (hbw2.mono (by omega))); clear hbw2 b2
        go_wp2_with fail
        obtain ⟨q0, q1⟩ := put_two (x := .int .i64 x) (y := .int .i64 y) z0 z1
        refine bodyPost_ret (v := .tuple #[dartW (x, y), .bool true]) (by simp [results, Tryd.results45, go_sem, q0, q1, dartW]) rfl ⟨by rw [HQ.out], (HWW.out.setCell (p := ⟨w.heap.size, 0, none⟩) (Nat.le_refl _) _).setCell (p := ⟨w.heap.size, 1, none⟩) (Nat.le_refl _) _⟩
      · rw [if_neg hTs] at hps
        have hTf : (T.toList == s.toList) = false := by simpa using hTs
        have HQ := Lib.hid (hps.symm.trans HP.out); clear hps HP hTs
        have HWW := Lib.hid hbw2; clear hbw2 b2
        go_wp2
        go_roundw
        case rel => exact ⟨k + 1, by go_num, by omega, Lib.hid ⟨HQ.out, HWW.out⟩⟩
        case measure => simp [intOf]; omega
    · have hk62 : k = 62 := by omega
      subst hk62
      have hf : picked s (allD.drop 62) = .tuple #[dartW (0, 0), .bool false] := by
        rw [List.drop_of_length_le (by rw [allD_len]; decide)]; rfl
      have HQ := Lib.hid (hf.symm.trans hH.out.1)
      obtain ⟨z0, z1, z2, z3⟩ := HZ.out
      have hbw2 := hH.out.2
      have z0 := (hbw2.cell (p := ⟨w.heap.size, 0, none⟩) (by simp; omega)).trans z0
      have z1 := (hbw2.cell (p := ⟨w.heap.size, 1, none⟩) (by simp; omega)).trans z1
      have z2 := (hbw2.frozen (p := ⟨w.heap.size, 0, none⟩) (by simp; omega)).trans z2
      have z3 := (hbw2.frozen (p := ⟨w.heap.size, 1, none⟩) (by simp; omega)).trans z3
      have HWW := Lib.hid (HW.out.trans (hbw2.mono (by omega))); clear hbw2 hf hH
      go_wp2_with fail
      obtain ⟨q0, q1⟩ := put_two (x := .int .i64 0) (y := .int .i64 0) z0 z1
      refine bodyPost_ret (v := .tuple #[dartW (0, 0), .bool false]) (by simp [results, Tryd.results45, go_sem, q0, q1, dartW]) rfl ⟨by rw [HQ.out], (HWW.out.setCell (p := ⟨w.heap.size, 0, none⟩) (Nat.le_refl _) _).setCell (p := ⟨w.heap.size, 1, none⟩) (Nat.le_refl _) _⟩
end Go.Proofs.YtjiigljoekhljaaDoor
