/-
  Goals: what a letter scores: the program's.
-/
import Derived.Test.YtgkkjlpfkoplhaaDoorGoAsk
import Derived.Test.YtgkkjlpfkoplhaaDoorGoGmM
import Derived.Test.YtgkkjlpfkoplhaaDoorShelf
import Derived.Laws.Runes
import Derived.WalkSmall
namespace Go.Proofs.YtgkkjlpfkoplhaaDoor
open Go.RowKit
set_option linter.unusedVariables false
set_option linter.unusedSimpArgs false

def optP : Option (Int × Int) → Int × Int
  | none => (0, 0)
  | some x => x
def sideV (x : Int × Int) : Value := .agg #[.int .i64 x.1, .int .i64 x.2]

theorem letters1 (n : Nat) (hn : n ≤ 5) (W : World) : (Instr.slice 9 (.string ⟨#[97, 98, 99, 100, 101]⟩) none (some (.int .i64 (n : Int))) none).run Tryd.prog W = .ok (.string ⟨(firstL.take n).toArray⟩) W := by
  rw [run_slice_string_to_if W _ _ _ _ Tryd.underlying9, if_pos (by simp [ByteArray.size]; omega)]
  rcases (by omega : n = 0 ∨ n = 1 ∨ n = 2 ∨ n = 3 ∨ n = 4 ∨ n = 5) with rfl | rfl | rfl | rfl | rfl | rfl <;> rfl
theorem letters2 (n : Nat) (hn : n ≤ 5) (W : World) : (Instr.slice 9 (.string ⟨#[65, 66, 67, 68, 69]⟩) none (some (.int .i64 (n : Int))) none).run Tryd.prog W = .ok (.string ⟨(secondL.take n).toArray⟩) W := by
  rw [run_slice_string_to_if W _ _ _ _ Tryd.underlying9, if_pos (by simp [ByteArray.size]; omega)]
  rcases (by omega : n = 0 ∨ n = 1 ∨ n = 2 ∨ n = 3 ∨ n = 4 ∨ n = 5) with rfl | rfl | rfl | rfl | rfl | rfl <;> rfl

theorem below_new (w : World) (o : Obj) : Below w.heap.size w (w.alloc o) := (Below.refl _ _).alloc (Nat.le_refl _) _
theorem two_new (w : World) (x y : Value) (t : TypeId) : (w.alloc (.cells #[x, y] t)).cell? ⟨w.heap.size, 0, none⟩ = some x ∧ (w.alloc (.cells #[x, y] t)).cell? ⟨w.heap.size, 1, none⟩ = some y :=
  ⟨cell_of_row _ _ 0 _ _ _ (heap_alloc_last w _), cell_of_row _ _ 1 _ _ _ (heap_alloc_last w _)⟩

set_option maxHeartbeats 1600000 in
theorem goalOf_any (ks : List Int) (hg : goodK ks = true) (c : UInt8) (a : Option Addr) (cc : Nat) (w : World) (h : Reads w a (ints ks)) :
    Calls Tryd.prog 64 #[.slice a ks.length cc, .int .u8 (c.toNat : Int)] w fun e w' => e = .returned (.tuple #[sideV (optP (goalG ks c)), .bool (goalG ks c).isSome]) ∧ Below w.heap.size w w' := by
  obtain ⟨l1, l2⟩ := good_len hg
  have hk := good_mem hg
  have hs1 := letters1 ks.length l2
  have hs2 := letters2 ks.length l2
  have hi1 := idx1 l2 c
  have hi2 := idx2 l2 c
  have hcc : ((c.toNat : Int)).toNat.toUInt8 = c := by simp
  have hb1 : ∀ W : World, Calls Tryd.prog 69 #[.string ⟨(firstL.take ks.length).toArray⟩, .int .u8 (c.toNat : Int)] W fun e w' => e = .returned (.int .i64 (Lib.indexByte (firstL.take ks.length) c)) ∧ W = w' := fun W =>
    (Tryd.strings_IndexByte _ _ W).mono (by rintro e w' ⟨rfl, hw⟩; exact ⟨by rw [hcc], hw.symm⟩)
  have hb2 : ∀ W : World, Calls Tryd.prog 69 #[.string ⟨(secondL.take ks.length).toArray⟩, .int .u8 (c.toNat : Int)] W fun e w' => e = .returned (.int .i64 (Lib.indexByte (secondL.take ks.length) c)) ∧ W = w' := fun W =>
    (Tryd.strings_IndexByte _ _ W).mono (by rintro e w' ⟨rfl, hw⟩; exact ⟨by rw [hcc], hw.symm⟩)
  obtain ⟨b, off, rfl, hlt, hc⟩ := cells_of_reads h (by omega)
  have HB1 := Lib.hid hb1; clear hb1
  have HB2 := Lib.hid hb2; clear hb2 hcc
  generalize (firstL.take ks.length).toArray = f1 at *
  generalize (secondL.take ks.length).toArray = f2 at *
  generalize Lib.indexByte (firstL.take ks.length) c = i1 at *
  generalize Lib.indexByte (secondL.take ks.length) c = i2 at *
  by_cases q1 : 97 ≤ c.toNat ∧ c.toNat < 97 + ks.length
  · rw [if_pos q1] at hi1
    have hgo : goalG ks c = some (ks.getD (c.toNat - 97) 0, 0) := by unfold goalG; rw [if_pos q1]
    have HGO := Lib.hid hgo; clear hgo hs2 hi2
    obtain ⟨j, hj⟩ : ∃ j, c.toNat - 97 = j := ⟨_, rfl⟩
    rw [hj] at hi1 HGO
    subst hi1
    have hjl : j < ks.length := by omega
    have c0 := hc j hjl
    have b0 : (j : Int) < (ks.length : Int) := by omega
    have cnew : ∀ x, (w.alloc x).cell? ⟨b, off + j, none⟩ = some (.int .i64 (ks.getD j 0)) := fun x => by rw [(below_new w x).cell (p := ⟨b, off + j, none⟩) hlt]; exact c0
    clear hc q1 hj
    generalize ks.getD j 0 = x at *
    generalize (c.toNat : Int) = cn at *
    go_enter Tryd.func64, Tryd.ntmps64
    go_wp2_with fail
    refine (HB1.out _).mono ?_; rintro e w1 ⟨rfl, rfl⟩
    go_wp2_with fail
    obtain ⟨r0, r1⟩ := two_new w (.int .i64 x) (.int .i64 0) 103
    refine bodyPost_ret (v := .tuple #[.agg #[.int .i64 x, .int .i64 0], .bool true]) (by simp [results, Tryd.results64, go_sem, r0, r1]) rfl ⟨by rw [HGO.out]; rfl, below_new _ _⟩
  · rw [if_neg q1] at hi1
    subst hi1
    by_cases q2 : 65 ≤ c.toNat ∧ c.toNat < 65 + ks.length
    · rw [if_pos q2] at hi2
      have hgo : goalG ks c = some (0, ks.getD (c.toNat - 65) 0) := by unfold goalG; rw [if_neg q1, if_pos q2]
      have HGO := Lib.hid hgo; clear hgo
      obtain ⟨j, hj⟩ : ∃ j, c.toNat - 65 = j := ⟨_, rfl⟩
      rw [hj] at hi2 HGO
      subst hi2
      have hjl : j < ks.length := by omega
      have c0 := hc j hjl
      have b0 : (j : Int) < (ks.length : Int) := by omega
      have cnew : ∀ x, (w.alloc x).cell? ⟨b, off + j, none⟩ = some (.int .i64 (ks.getD j 0)) := fun x => by rw [(below_new w x).cell (p := ⟨b, off + j, none⟩) hlt]; exact c0
      clear hc q1 q2 hj
      generalize ks.getD j 0 = x at *
      generalize (c.toNat : Int) = cn at *
      go_enter Tryd.func64, Tryd.ntmps64
      go_wp2_with fail
      refine (HB1.out _).mono ?_; rintro e w1 ⟨rfl, rfl⟩
      go_wp2_with fail
      refine (HB2.out _).mono ?_; rintro e w1 ⟨rfl, rfl⟩
      go_wp2_with fail
      obtain ⟨r0, r1⟩ := two_new w (.int .i64 0) (.int .i64 x) 103
      refine bodyPost_ret (v := .tuple #[.agg #[.int .i64 0, .int .i64 x], .bool true]) (by simp [results, Tryd.results64, go_sem, r0, r1]) rfl ⟨by rw [HGO.out]; rfl, below_new _ _⟩
    · rw [if_neg q2] at hi2
      subst hi2
      have hgo : goalG ks c = none := by unfold goalG; rw [if_neg q1, if_neg q2]
      have HGO := Lib.hid hgo; clear hgo q1 q2 hc
      generalize (c.toNat : Int) = cn at *
      go_enter Tryd.func64, Tryd.ntmps64
      go_wp2_with fail
      refine (HB1.out _).mono ?_; rintro e w1 ⟨rfl, rfl⟩
      go_wp2_with fail
      refine (HB2.out _).mono ?_; rintro e w1 ⟨rfl, rfl⟩
      go_wp2_with fail
      obtain ⟨r0, r1⟩ := two_new w (.int .i64 0) (.int .i64 0) 103
      refine bodyPost_ret (v := .tuple #[.agg #[.int .i64 0, .int .i64 0], .bool false]) (by simp [results, Tryd.results64, go_sem, r0, r1]) rfl ⟨by rw [HGO.out]; rfl, below_new _ _⟩
end Go.Proofs.YtgkkjlpfkoplhaaDoor
