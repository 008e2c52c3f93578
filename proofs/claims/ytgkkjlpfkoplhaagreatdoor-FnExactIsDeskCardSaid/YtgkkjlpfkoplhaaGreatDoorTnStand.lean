/-
  Tennis: how a game stands: plain facts, and the model's text.
-/
import Derived.Test.YtgkkjlpfkoplhaaGreatDoorTnStr
import Derived.IntWalk
import Derived.WalkSmall
import Derived.Deep.WholeRow
namespace Go.Proofs.YtgkkjlpfkoplhaaGreatDoor
open Go.RowKit
set_option linter.unusedVariables false
set_option linter.unusedSimpArgs false

def nmL (k : Nat) : List UInt8 := if k = 0 then [48] else if k = 1 then [49, 53] else if k = 2 then [51, 48] else [52, 48]
theorem nmL_len (k : Nat) : (nmL k).length ≤ 2 := by unfold nmL; split <;> (try split) <;> (try split) <;> simp
def namesC : Array Value := #[.string ⟨#[48]⟩, .string ⟨#[49, 53]⟩, .string ⟨#[51, 48]⟩, .string ⟨#[52, 48]⟩]
theorem namesC_get (k : Nat) (h : k < 4) : namesC[k]? = some (.string ⟨(nmL k).toArray⟩) := by
  match k, h with
  | 0, _ => rfl
  | 1, _ => rfl
  | 2, _ => rfl
  | 3, _ => rfl
def standL (a b : Int) : List UInt8 :=
  if wonN 4 a b = 1 then [97] else if wonN 4 a b = 2 then [98] else if min a b < 3 then nmL a.toNat ++ [58] ++ nmL b.toNat
  else if b < a then [65] else if a < b then [66] else [61]
def okStand (a b : Int) : Prop := 0 ≤ a ∧ 0 ≤ b ∧ a ≤ 1000000000000 ∧ b ≤ 1000000000000

theorem won_1 {to a b : Int} : wonN to a b = 1 ↔ to ≤ a ∧ 2 ≤ a - b := by
  unfold wonN; by_cases h : to ≤ a ∧ 2 ≤ a - b
  · simp [h]
  · rw [if_neg h]; split <;> simp [h]
theorem won_2 {to a b : Int} : wonN to a b = 2 ↔ ¬ (to ≤ a ∧ 2 ≤ a - b) ∧ (to ≤ b ∧ 2 ≤ b - a) := by
  unfold wonN; by_cases h : to ≤ a ∧ 2 ≤ a - b
  · simp [h]
  · rw [if_neg h]; by_cases h2 : to ≤ b ∧ 2 ≤ b - a <;> simp [h, h2]

set_option maxHeartbeats 3200000 in
theorem tnStands_any (a b : Int) (w : World) (ok : okStand a b) :
    Calls Tryz.prog 58 #[.int .i64 a, .int .i64 b] w fun e w' => e = .returned (.string ⟨(standL a b).toArray⟩) ∧ Below w.heap.size w w' := by
  obtain ⟨a0, b0, a9, b9⟩ := ok
  have hmx := maxI_eq a b
  by_cases p : 4 ≤ a ∧ b + 2 ≤ a
  · have hv : standL a b = [97] := by rw [standL, if_pos (won_1.2 (by omega))]
    rw [hv]; clear hv
    have m : 4 ≤ maxI a b := by omega
    have p1 := p.2
    clear hmx p
    go_enter Tryz.func58, Tryz.ntmps58
    go_wp2_with fail
    refine (l1Most_any _ _ _).mono ?_; rintro e w1 ⟨rfl, rfl⟩
    go_wp2_with fail
    go_ret
    exact ⟨rfl, Below.refl _ _⟩
  by_cases q : 4 ≤ b ∧ a + 2 ≤ b
  · have hv : standL a b = [98] := by rw [standL, if_neg (fun e => p (by have := won_1.1 e; omega)), if_pos (won_2.2 (by omega))]
    rw [hv]; clear hv
    have m : 4 ≤ maxI a b := by omega
    have p1 : decide (b + 2 ≤ a) = false := by simp; omega
    have q1 := q.2
    clear hmx p q
    go_enter Tryz.func58, Tryz.ntmps58
    go_wp2_with fail
    refine (l1Most_any _ _ _).mono ?_; rintro e w1 ⟨rfl, rfl⟩
    go_wp2_with fail
    refine (l1Most_any _ _ _).mono ?_; rintro e w1 ⟨rfl, rfl⟩
    go_wp2_with fail
    go_ret
    exact ⟨rfl, Below.refl _ _⟩
  have hw1 : ¬ wonN 4 a b = 1 := fun e => p (by have := won_1.1 e; omega)
  have hw2 : ¬ wonN 4 a b = 2 := fun e => q (by have := won_2.1 e; omega)
  have hv : standL a b = if min a b < 3 then nmL a.toNat ++ [58] ++ nmL b.toNat else if b < a then [65] else if a < b then [66] else [61] := by rw [standL, if_neg hw1, if_neg hw2]
  clear hw1 hw2
  have hcase : (maxI a b < 4 ∨ (4 ≤ maxI a b ∧ a < b + 2 ∧ b < a + 2)) := by omega
  by_cases r : min a b < 3
  · rw [if_pos r] at hv
    have HV := Lib.hid hv; clear hv
    obtain ⟨x, rfl⟩ : ∃ x : Nat, a = x := ⟨a.toNat, by omega⟩
    obtain ⟨y, rfl⟩ : ∃ y : Nat, b = y := ⟨b.toNat, by omega⟩
    have hm : maxI x y < 4 := by omega
    have x4 : x < 4 := by omega
    have y4 : y < 4 := by omega
    have tt : (((x : Nat) : Int)).toNat = x ∧ (((y : Nat) : Int)).toNat = y := ⟨by omega, by omega⟩
    rw [tt.1, tt.2] at HV
    have m : decide (4 ≤ maxI x y) = false := by simp; omega
    by_cases x3 : x < 3
    · by_cases y3 : y < 3
      · have f1 : decide ((3 : Int) ≤ x) = false := by simp; omega
        have f2 : decide ((3 : Int) ≤ y) = false := by simp; omega
        have hl1 := nmL_len x
        have hl2 := nmL_len y
        have c1 : ∀ w : World, (w.alloc (.cells #[.string ⟨#[48]⟩, .string ⟨#[49, 53]⟩, .string ⟨#[51, 48]⟩, .string ⟨#[52, 48]⟩] 9)).cell? ⟨w.heap.size, x, none⟩ = some (.string ⟨(nmL x).toArray⟩) := fun w => by
          exact (cell_of_row _ _ _ namesC _ _ (heap_alloc_last w _)).trans (namesC_get x x4)
        have c2 : ∀ w : World, (w.alloc (.cells #[.string ⟨#[48]⟩, .string ⟨#[49, 53]⟩, .string ⟨#[51, 48]⟩, .string ⟨#[52, 48]⟩] 9)).cell? ⟨w.heap.size, y, none⟩ = some (.string ⟨(nmL y).toArray⟩) := fun w => by
          exact (cell_of_row _ _ _ namesC _ _ (heap_alloc_last w _)).trans (namesC_get y y4)
        generalize nmL x = n1 at *
        generalize nmL y = n2 at *
        have d1 : ∀ W : World, (Op.stringOp .add ⟨n1.toArray⟩ ⟨#[58]⟩).run Tryz.prog W = .ok (.string ⟨(n1 ++ [58]).toArray⟩) W := fun W => run_string_add_lists W n1 [58] (by omega) (by simp)
        have d2 : ∀ W : World, (Op.stringOp .add ⟨(n1 ++ [58]).toArray⟩ ⟨n2.toArray⟩).run Tryz.prog W = .ok (.string ⟨(n1 ++ [58] ++ n2).toArray⟩) W := fun W => run_string_add_lists W (n1 ++ [58]) n2 (by simp; omega) (by omega)
        have i1 : (x : Int) < 4 := by omega
        have i2 : (y : Int) < 4 := by omega
        generalize n1 ++ [58] = n3 at *
        clear hcase r hm hmx p q tt hl1 hl2
        go_enter Tryz.func58, Tryz.ntmps58
        go_wp2_with (go_at_call 75; refine (l1Most_any _ _ _).mono ?_; rintro e w1 ⟨rfl, rfl⟩)
        go_quiet (fail)
        go_wp2
        go_ret
        exact ⟨by rw [HV.out]; rfl, below_drewN ((Below.refl _ _).alloc (Nat.le_refl _) _) _⟩
      · have f1 : decide ((3 : Int) ≤ x) = false := by simp; omega
        have f2 : (3 : Int) ≤ y := by omega
        have f3 : decide ((y : Int) < x) = false := by simp; omega
        have hl1 := nmL_len x
        have hl2 := nmL_len y
        have c1 : ∀ w : World, (w.alloc (.cells #[.string ⟨#[48]⟩, .string ⟨#[49, 53]⟩, .string ⟨#[51, 48]⟩, .string ⟨#[52, 48]⟩] 9)).cell? ⟨w.heap.size, x, none⟩ = some (.string ⟨(nmL x).toArray⟩) := fun w => by
          exact (cell_of_row _ _ _ namesC _ _ (heap_alloc_last w _)).trans (namesC_get x x4)
        have c2 : ∀ w : World, (w.alloc (.cells #[.string ⟨#[48]⟩, .string ⟨#[49, 53]⟩, .string ⟨#[51, 48]⟩, .string ⟨#[52, 48]⟩] 9)).cell? ⟨w.heap.size, y, none⟩ = some (.string ⟨(nmL y).toArray⟩) := fun w => by
          exact (cell_of_row _ _ _ namesC _ _ (heap_alloc_last w _)).trans (namesC_get y y4)
        generalize nmL x = n1 at *
        generalize nmL y = n2 at *
        have d1 : ∀ W : World, (Op.stringOp .add ⟨n1.toArray⟩ ⟨#[58]⟩).run Tryz.prog W = .ok (.string ⟨(n1 ++ [58]).toArray⟩) W := fun W => run_string_add_lists W n1 [58] (by omega) (by simp)
        have d2 : ∀ W : World, (Op.stringOp .add ⟨(n1 ++ [58]).toArray⟩ ⟨n2.toArray⟩).run Tryz.prog W = .ok (.string ⟨(n1 ++ [58] ++ n2).toArray⟩) W := fun W => run_string_add_lists W (n1 ++ [58]) n2 (by simp; omega) (by omega)
        have i1 : (x : Int) < 4 := by omega
        have i2 : (y : Int) < 4 := by omega
        generalize n1 ++ [58] = n3 at *
        clear hcase r hm hmx p q tt hl1 hl2
        go_enter Tryz.func58, Tryz.ntmps58
        go_wp2_with (go_at_call 75; refine (l1Most_any _ _ _).mono ?_; rintro e w1 ⟨rfl, rfl⟩)
        go_quiet (fail)
        go_wp2
        go_ret
        exact ⟨by rw [HV.out]; rfl, below_drewN ((Below.refl _ _).alloc (Nat.le_refl _) _) _⟩
    · have f1 : (3 : Int) ≤ x := by omega
      have f2 : (((x : Int)) == (y : Int)) = false := by simp; omega
      have f3 : decide ((3 : Int) ≤ y) = false := by simp; omega
      have f4 : decide ((x : Int) < y) = false := by simp; omega
      have hl1 := nmL_len x
      have hl2 := nmL_len y
      have c1 : ∀ w : World, (w.alloc (.cells #[.string ⟨#[48]⟩, .string ⟨#[49, 53]⟩, .string ⟨#[51, 48]⟩, .string ⟨#[52, 48]⟩] 9)).cell? ⟨w.heap.size, x, none⟩ = some (.string ⟨(nmL x).toArray⟩) := fun w => by
        exact (cell_of_row _ _ _ namesC _ _ (heap_alloc_last w _)).trans (namesC_get x x4)
      have c2 : ∀ w : World, (w.alloc (.cells #[.string ⟨#[48]⟩, .string ⟨#[49, 53]⟩, .string ⟨#[51, 48]⟩, .string ⟨#[52, 48]⟩] 9)).cell? ⟨w.heap.size, y, none⟩ = some (.string ⟨(nmL y).toArray⟩) := fun w => by
        exact (cell_of_row _ _ _ namesC _ _ (heap_alloc_last w _)).trans (namesC_get y y4)
      generalize nmL x = n1 at *
      generalize nmL y = n2 at *
      have d1 : ∀ W : World, (Op.stringOp .add ⟨n1.toArray⟩ ⟨#[58]⟩).run Tryz.prog W = .ok (.string ⟨(n1 ++ [58]).toArray⟩) W := fun W => run_string_add_lists W n1 [58] (by omega) (by simp)
      have d2 : ∀ W : World, (Op.stringOp .add ⟨(n1 ++ [58]).toArray⟩ ⟨n2.toArray⟩).run Tryz.prog W = .ok (.string ⟨(n1 ++ [58] ++ n2).toArray⟩) W := fun W => run_string_add_lists W (n1 ++ [58]) n2 (by simp; omega) (by omega)
      have i1 : (x : Int) < 4 := by omega
      have i2 : (y : Int) < 4 := by omega
      generalize n1 ++ [58] = n3 at *
      clear hcase r hm hmx p q tt hl1 hl2
      go_enter Tryz.func58, Tryz.ntmps58
      go_wp2_with (go_at_call 75; refine (l1Most_any _ _ _).mono ?_; rintro e w1 ⟨rfl, rfl⟩)
      go_quiet (fail)
      go_wp2
      go_ret
      exact ⟨by rw [HV.out]; rfl, below_drewN ((Below.refl _ _).alloc (Nat.le_refl _) _) _⟩
  · rw [if_neg r] at hv
    have a3 : 3 ≤ a := by omega
    have b3 : 3 ≤ b := by omega
    rcases Int.lt_trichotomy a b with h | h | h
    · rw [if_neg (by omega), if_pos h] at hv
      have HV := Lib.hid hv; clear hv
      have f1 : (a == b) = false := by simp; omega
      have f2 : decide (b < a) = false := by simp; omega
      have f3 : decide (b + 2 ≤ a) = false := by simp; omega
      have f4 : decide (a + 2 ≤ b) = false := by simp; omega
      have m : 4 ≤ maxI a b := by omega
      clear hcase r hmx p q
      go_enter Tryz.func58, Tryz.ntmps58
      go_wp2_with (go_at_call 75; refine (l1Most_any _ _ _).mono ?_; rintro e w1 ⟨rfl, rfl⟩)
      go_ret
      exact ⟨by rw [HV.out]; rfl, Below.refl _ _⟩
    · subst h
      rw [if_neg (by omega), if_neg (by omega)] at hv
      have HV := Lib.hid hv; clear hv
      have f3 : decide (a + 2 ≤ a) = false := by simp; omega
      clear r p q
      by_cases m : 4 ≤ maxI a a
      · clear hcase hmx
        go_enter Tryz.func58, Tryz.ntmps58
        go_wp2_with (go_at_call 75; refine (l1Most_any _ _ _).mono ?_; rintro e w1 ⟨rfl, rfl⟩)
        go_ret
        exact ⟨by rw [HV.out]; rfl, Below.refl _ _⟩
      · have m' : decide (4 ≤ maxI a a) = false := by simpa using m
        clear hcase hmx m
        go_enter Tryz.func58, Tryz.ntmps58
        go_wp2_with (go_at_call 75; refine (l1Most_any _ _ _).mono ?_; rintro e w1 ⟨rfl, rfl⟩)
        go_ret
        exact ⟨by rw [HV.out]; rfl, Below.refl _ _⟩
    · rw [if_pos h] at hv
      have HV := Lib.hid hv; clear hv
      have f1 : (a == b) = false := by simp; omega
      have f3 : decide (b + 2 ≤ a) = false := by simp; omega
      have f4 : decide (a + 2 ≤ b) = false := by simp; omega
      have m : 4 ≤ maxI a b := by omega
      clear hcase r hmx p q
      go_enter Tryz.func58, Tryz.ntmps58
      go_wp2_with (go_at_call 75; refine (l1Most_any _ _ _).mono ?_; rintro e w1 ⟨rfl, rfl⟩)
      go_ret
      exact ⟨by rw [HV.out]; rfl, Below.refl _ _⟩

end Go.Proofs.YtgkkjlpfkoplhaaGreatDoor
