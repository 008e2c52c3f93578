/-
  Races: the model's small tests: races, points, who has won, plays.
-/
import Derived.Test.YtbgdngfjeikheaaDoorRaMath
import Derived.IntWalk
import Derived.WalkSmall
import Derived.Deep.WholeRow
namespace Go.Proofs.YtbgdngfjeikheaaDoor
open Go.RowKit
set_option linter.unusedVariables false
set_option linter.unusedSimpArgs false

/-- A block of the call's own that holds two numbers. -/
def Pair (w : World) (g : Nat) (a b : Int) : Prop :=
  g < w.heap.size ∧ w.cell? ⟨g, 0, none⟩ = some (.int .i64 a) ∧ w.cell? ⟨g, 1, none⟩ = some (.int .i64 b) ∧ w.frozen? ⟨g, 0, none⟩ = false ∧ w.frozen? ⟨g, 1, none⟩ = false
theorem Pair.keep {w w' : World} {g : Nat} {a b : Int} (h : Pair w g a b) (hb : Below w.heap.size w w') : Pair w' g a b := by
  obtain ⟨h1, h2, h3, h4, h5⟩ := h
  exact ⟨Nat.lt_of_lt_of_le h1 hb.size, by rw [hb.cell (p := ⟨g, 0, none⟩) h1]; exact h2, by rw [hb.cell (p := ⟨g, 1, none⟩) h1]; exact h3, by rw [hb.frozen (p := ⟨g, 0, none⟩) h1]; exact h4, by rw [hb.frozen (p := ⟨g, 1, none⟩) h1]; exact h5⟩
theorem Pair.new (w : World) (a b : Int) (T : TypeId) : Pair (w.alloc (.cells #[.int .i64 a, .int .i64 b] T)) w.heap.size a b :=
  ⟨by simp, cell_of_row _ _ 0 _ _ _ (heap_alloc_last w _), cell_of_row _ _ 1 _ _ _ (heap_alloc_last w _), frozen_of_row _ _ 0 _ _ (heap_alloc_last w _), frozen_of_row _ _ 1 _ _ (heap_alloc_last w _)⟩
theorem Pair.put {w : World} {g : Nat} {a b : Int} (h : Pair w g a b) (c d : Int) : Pair ((w.setCell ⟨g, 0, none⟩ (.int .i64 c)).setCell ⟨g, 1, none⟩ (.int .i64 d)) g c d := by
  obtain ⟨h1, h2, h3, h4, h5⟩ := h
  have ne : ∀ v, (w.setCell ⟨g, 0, none⟩ v).cell? ⟨g, 1, none⟩ = w.cell? ⟨g, 1, none⟩ := fun v => World.cell?_setCell_other _ _ _ _ (by intro e; injection e; omega)
  refine ⟨by simpa using h1, ?_, ?_, by simp only [World.frozen?_setCell]; exact h4, by simp only [World.frozen?_setCell]; exact h5⟩
  · rw [World.cell?_setCell_other _ _ _ _ (by intro e; injection e; omega)]
    exact World.cell?_setCell_same _ _ _ h2
  · exact World.cell?_setCell_same _ _ _ (by rw [ne]; exact h3)

set_option maxHeartbeats 400000 in
theorem l1In_any (n a b : Int) (w : World) :
    Calls Tryd.prog 51 #[.int .i64 n, .int .i64 a, .int .i64 b] w fun e w' => e = .returned (.bool (inR n a b)) ∧ w = w' := by
  by_cases h1 : a ≤ n <;> by_cases h2 : n ≤ b
  all_goals
    go_enter Tryd.func51, Tryd.ntmps51
    go_wp2
    go_ret
    exact ⟨ret_bool (by simp [inR, *]), rfl⟩

set_option maxHeartbeats 1600000 in
theorem raWon_any (tq ld a b : Int) (w : World) (ha : 0 ≤ a) (ha' : a ≤ 1000000000000) (hb : 0 ≤ b) (hb' : b ≤ 1000000000000) :
    Calls Tryd.prog 177 #[.agg #[.int .i64 tq, .int .i64 ld], .int .i64 a, .int .i64 b] w fun e w' => e = .returned (.int .i64 (wonI tq ld a b)) ∧ Below w.heap.size w w' := by
  have hw : wonI tq ld a b = if tq ≤ a ∧ ld ≤ a - b then 1 else if tq ≤ b ∧ ld ≤ b - a then -1 else 0 := rfl
  have HW := Lib.hid hw; clear hw
  have t1 : IntKind.i64.wrap (a - b) = a - b := IntWalk.i64_in _ (by omega)
  have t2 : IntKind.i64.wrap (b - a) = b - a := IntWalk.i64_in _ (by omega)
  by_cases q1 : tq ≤ a
  · by_cases q2 : ld ≤ a - b
    · go_enter Tryd.func177, Tryd.ntmps177
      go_wp2
      go_ret
      exact ⟨ret_int (by rw [HW.out, if_pos ⟨q1, q2⟩]), (Below.refl _ _).alloc (Nat.le_refl _) _⟩
    · by_cases q3 : tq ≤ b
      · by_cases q4 : ld ≤ b - a
        · go_enter Tryd.func177, Tryd.ntmps177
          go_wp2
          go_ret
          exact ⟨ret_int (by rw [HW.out, if_neg (by omega), if_pos ⟨q3, q4⟩]), (Below.refl _ _).alloc (Nat.le_refl _) _⟩
        · go_enter Tryd.func177, Tryd.ntmps177
          go_wp2
          go_ret
          exact ⟨ret_int (by rw [HW.out, if_neg (by omega), if_neg (by omega)]), (Below.refl _ _).alloc (Nat.le_refl _) _⟩
      · go_enter Tryd.func177, Tryd.ntmps177
        go_wp2
        go_ret
        exact ⟨ret_int (by rw [HW.out, if_neg (by omega), if_neg (by omega)]), (Below.refl _ _).alloc (Nat.le_refl _) _⟩
  · by_cases q3 : tq ≤ b
    · by_cases q4 : ld ≤ b - a
      · go_enter Tryd.func177, Tryd.ntmps177
        go_wp2
        go_ret
        exact ⟨ret_int (by rw [HW.out, if_neg (by omega), if_pos ⟨q3, q4⟩]), (Below.refl _ _).alloc (Nat.le_refl _) _⟩
      · go_enter Tryd.func177, Tryd.ntmps177
        go_wp2
        go_ret
        exact ⟨ret_int (by rw [HW.out, if_neg (by omega), if_neg (by omega)]), (Below.refl _ _).alloc (Nat.le_refl _) _⟩
    · go_enter Tryd.func177, Tryd.ntmps177
      go_wp2
      go_ret
      exact ⟨ret_int (by rw [HW.out, if_neg (by omega), if_neg (by omega)]), (Below.refl _ _).alloc (Nat.le_refl _) _⟩

set_option maxHeartbeats 800000 in
theorem raPoints_any (s : ByteArray) (w : World) (hs : (s.size : Int) ≤ 1000000000000) :
    Calls Tryd.prog 103 #[.string s] w fun e w' => e = .returned (.bool (ptsB s)) ∧ w = w' := by
  by_cases hm : (100 : Int) < (s.size : Int)
  · have hp : ptsB s = false := by unfold ptsB; rw [len_list]; simp; intro h; omega
    rw [hp]; clear hp
    go_enter Tryd.func103, Tryd.ntmps103
    go_wp2
    go_ret
    exact ⟨rfl, rfl⟩
  · have hp : ptsB s = abL s.data.toList := by unfold ptsB; rw [len_list]; simp; intro _; omega
    rw [hp]; clear hp
    go_enter Tryd.func103, Tryd.ntmps103
    go_wp2
    go_loop [3] (fun i => ∃ k : Nat, k ≤ s.size ∧ i = .int .i64 k ∧ abL (s.data.toList.drop k) = abL s.data.toList) (fun i => s.size - (intOf i).toNat)
    case atStart => exact ⟨0, Nat.zero_le _, rfl, rfl⟩
    case round =>
      obtain ⟨k, hk, rfl, ht⟩ := hrel
      by_cases hlt : k < s.size
      · rw [drop_cons s k hlt] at ht
        by_cases hc : s[k] = 97
        · have e : ((s[k].toNat : Int) != 97) = false := by rw [n97]; simp [hc]
          have ht' : abL (s.data.toList.drop (k + 1)) = abL s.data.toList := by rw [← ht]; simp [abL, hc]
          have HT := Lib.hid ht'; clear ht ht' hc
          go_wp2
          go_round
          case rel => exact ⟨k + 1, by omega, by go_num, HT.out⟩
          case measure => simp [intOf]; omega
        · have e1 : ((s[k].toNat : Int) != 97) = true := by rw [n97]; simpa using hc
          by_cases hd : s[k] = 98
          · have e : ((s[k].toNat : Int) != 98) = false := by rw [n98]; simp [hd]
            have ht' : abL (s.data.toList.drop (k + 1)) = abL s.data.toList := by rw [← ht]; simp [abL, hd]
            have HT := Lib.hid ht'; clear ht ht' hc hd
            go_wp2
            go_round
            case rel => exact ⟨k + 1, by omega, by go_num, HT.out⟩
            case measure => simp [intOf]; omega
          · have e2 : ((s[k].toNat : Int) != 98) = true := by rw [n98]; simpa using hd
            have ht' : abL s.data.toList = false := by rw [← ht]; simp [abL, hc, hd]
            have HT := Lib.hid ht'; clear ht ht' hc hd
            go_wp2
            go_ret
            exact ⟨ret_bool HT.out.symm, rfl⟩
      · obtain rfl : k = s.size := by omega
        rw [drop_all] at ht
        have HT := Lib.hid ht; clear ht
        go_wp2
        go_ret
        exact ⟨ret_bool HT.out, rfl⟩

end Go.Proofs.YtbgdngfjeikheaaDoor
