/-
  All darts, as the program lists them: plain seats.
-/
import Derived.Test.YtaplkciomagmiaaDartGood
import Derived.Test.YtaplkciomagmiaaDaSlice
import Derived.OwnWalk
import Derived.Maps.AppendAt
import Derived.WalkSmall
import Derived.LoopTactic
import Derived.Deep.WholeRow
import Derived.Test.YtaplkciomagmiaaSliceInt
namespace Go.Proofs.Ytaplkciomagmiaa
open Go.RowKit
set_option linter.unusedVariables false

theorem owns_below {B : Nat} {e : TypeId} {k : Nat} {v : Value} {n : Nat} {xs : List Value} {w w' : World} (h : w.ownsRow B e k v n xs) (hb : Below w.heap.size w w') : w'.ownsRow B e k v n xs := by
  obtain ⟨h1, h2⟩ := h
  refine ⟨h1, ?_⟩
  rcases h2 with h2 | ⟨g, cap, cur, hv, hg, hh, r⟩
  · exact Or.inl h2
  · exact Or.inr ⟨g, cap, cur, hv, hg, by rw [hb.block g (Array.getElem?_eq_some_iff.1 hh).1]; exact hh, r⟩

def stepD (s t : Nat) : List (Int × Int) := if s % t = 0 ∧ goodB ((s / t : Nat) : Int) t = true then [(((s / t : Nat) : Int), (t : Int))] else []
def inner (s : Nat) : Nat → List (Int × Int)
  | 0 => []
  | t + 1 => stepD s (t + 1) ++ inner s t
def outer : Nat → List (Int × Int)
  | 0 => []
  | s + 1 => inner (s + 1) 3 ++ outer s
def allD : List (Int × Int) := outer 60
theorem stepD_le (s t : Nat) : (stepD s t).length ≤ 1 := by unfold stepD; split <;> simp

def OutAt (w : World) (k : Nat) (v : Value) (wr : World) : Prop :=
  ∃ xs : List (Int × Int), xs ++ outer k = allD ∧ xs.length + 3 * k ≤ 180 ∧ wr.ownsRow w.heap.size 55 2 v xs.length (darts xs) ∧ Below w.heap.size w wr
def InAt (w : World) (s j : Nat) (v : Value) (wr : World) : Prop :=
  ∃ xs : List (Int × Int), xs ++ (inner (s + 1) j ++ outer s) = allD ∧ xs.length + 3 * s + j ≤ 180 ∧ wr.ownsRow w.heap.size 55 2 v xs.length (darts xs) ∧ Below w.heap.size w wr

theorem infoD : (Try.prog.info? 55).map (fun i => (i.zero, i.size, i.bytes)) = some (some (.agg #[.int .i64 0, .int .i64 0]), 2, 16) := by kernel_rfl

set_option maxHeartbeats 6400000 in
set_option maxRecDepth 100000 in
theorem allDarts_any (w : World) :
    Calls Try.prog 52 #[] w fun e w' => ∃ v, e = .returned v ∧ w'.ownsRow w.heap.size 55 2 v allD.length (darts allD) ∧ Below w.heap.size w w' := by
  have hO0 : OutAt w 60 (.slice none 0 0) w := ⟨[], rfl, by simp, ⟨rfl, .inl ⟨rfl, rfl⟩⟩, Below.refl _ _⟩
  have HO0 := Lib.hid hO0; clear hO0
  go_enter Try.func52, Try.ntmps52
  go_wp2
  go_loopw [1, 2, 3, 4] (fun v s _ _ wr => ∃ k : Nat, s = .int .i64 k ∧ k ≤ 60 ∧ Hid (OutAt w k v wr)) (fun _ s _ _ _ => (intOf s).toNat)
  case atStart => exact ⟨60, rfl, by omega, HO0⟩
  case round =>
    clear HO0
    obtain ⟨k, rfl, hk, hH⟩ := hrel
    cases k with
    | zero =>
      obtain ⟨xs, hx, _, hown, hbel⟩ := hH.out
      clear hH
      rw [show outer 0 = [] from rfl, List.append_nil] at hx
      subst hx
      have HH := Lib.hid (And.intro hown hbel); clear hown hbel
      go_wp2
      go_ret
      exact ⟨_, rfl, HH.out.1, HH.out.2⟩
    | succ k =>
      have hge : (1 : Int) ≤ (k : Int) + 1 := by omega
      rw [show (((k + 1 : Nat)) : Int) = (k : Int) + 1 from rfl]
      go_wp2
      go_loopw [1, 3, 4] (fun v t _ wr => ∃ j : Nat, t = .int .i64 j ∧ j ≤ 3 ∧ Hid (InAt w k j v wr)) (fun _ t _ _ => (intOf t).toNat)
      case atStart =>
        obtain ⟨xs, hx, hlen, hown, hbel⟩ := hH.out
        exact ⟨3, rfl, by omega, Lib.hid ⟨xs, hx, by omega, hown, hbel⟩⟩
      case round =>
        clear hH
        obtain ⟨j, rfl, hj, hI⟩ := hrel
        obtain ⟨xs, hx, hlen, hown, hbel⟩ := hI.out
        clear hI
        cases j with
        | zero =>
          rw [show inner (k + 1) 0 = [] from rfl, List.nil_append] at hx
          have HH := Lib.hid (And.intro hx (And.intro hlen (And.intro hown hbel))); clear hx hlen hown hbel
          go_wp2
          go_roundw
          case rel => exact ⟨k, by go_num, by omega, Lib.hid ⟨_, HH.out.1, by have := HH.out.2.1; omega, HH.out.2.2.1, HH.out.2.2.2⟩⟩
          case measure => simp [intOf]
        | succ j =>
          have hge2 : (1 : Int) ≤ (j : Int) + 1 := by omega
          have hin : inner (k + 1) (j + 1) = stepD (k + 1) (j + 1) ++ inner (k + 1) j := rfl
          have hq : ((k : Int) + 1).tdiv ((j : Int) + 1) = (((k + 1) / (j + 1) : Nat) : Int) := by rw [Int.tdiv_eq_ediv_of_nonneg (by omega)]; push_cast; rfl
          have hrm : ((k : Int) + 1).tmod ((j : Int) + 1) = (((k + 1) % (j + 1) : Nat) : Int) := by rw [Int.tmod_eq_emod_of_nonneg (by omega)]; push_cast; rfl
          have hst : stepD (k + 1) (j + 1) = if (k + 1) % (j + 1) = 0 ∧ goodB (((k + 1) / (j + 1) : Nat) : Int) ((j + 1 : Nat) : Int) = true then [((((k + 1) / (j + 1) : Nat) : Int), ((j + 1 : Nat) : Int))] else [] := rfl
          have hqb : (((k + 1) / (j + 1) : Nat) : Int) ≤ 61 := by have := Nat.div_le_self (k + 1) (j + 1); omega
          have hq0 : (0 : Int) ≤ (((k + 1) / (j + 1) : Nat) : Int) := Int.natCast_nonneg _
          have hj0 : ((j : Int) + 1 == 0) = false := by simp; omega
          generalize hqq : (((k + 1) / (j + 1) : Nat) : Int) = q at *
          generalize hrr : (k + 1) % (j + 1) = r at *
          rw [hin] at hx
          clear hin
          rw [show (((j + 1 : Nat)) : Int) = (j : Int) + 1 from rfl] at hst
          by_cases hr : r = 0
          · subst hr
            simp only [true_and] at hst
            obtain ⟨i0, hi, hz0, hz1, hz2⟩ := info_parts infoD
            have HI := Lib.hid (And.intro hi (And.intro hz0 (And.intro hz1 hz2))); clear hi hz0 hz1 hz2
            cases hgd : goodB q ((j : Int) + 1)
            · rw [hgd] at hst
              simp only [Bool.false_eq_true, if_false] at hst
              rw [hst, List.nil_append] at hx
              have HG := Lib.hid hgd
              have HH := Lib.hid (And.intro hx (And.intro hlen (And.intro hown hbel))); clear hx hlen hown hbel hst hgd
              go_wp2_with fail
              refine (isDart_any _ _ _).mono ?_; rintro e w2 ⟨rfl, b2⟩
              rw [HG.out]
              have hown2 := owns_below (HH.out.2.2.1.alloc _) b2
              have hbel2 := (HH.out.2.2.2.alloc HH.out.2.2.2.size _).trans (b2.mono (by have := HH.out.2.2.2.size; simp; omega))
              have H2 := Lib.hid (And.intro hown2 hbel2); clear hown2 hbel2 b2
              go_wp2
              go_roundw
              case rel => exact ⟨j, by go_num, by omega, Lib.hid ⟨_, HH.out.1, by have := HH.out.2.1; omega, H2.out.1, H2.out.2⟩⟩
              case measure => simp [intOf]
            · rw [hgd] at hst
              simp only [if_true] at hst
              rw [hst, List.cons_append, List.nil_append] at hx
              have HG := Lib.hid hgd
              have hn60 : xs.length ≤ 180 := by omega
              have HH := Lib.hid (And.intro hx (And.intro hlen (And.intro hown hbel))); clear hx hlen hown hbel hst hgd
              go_wp2_with fail
              refine (isDart_any _ _ _).mono ?_; rintro e w2 ⟨rfl, b2⟩
              rw [HG.out]
              have hown2 := owns_below (HH.out.2.2.1.alloc _) b2
              have hbel2 := (HH.out.2.2.2.alloc HH.out.2.2.2.size _).trans (b2.mono (by have := HH.out.2.2.2.size; simp; omega))
              have c0 : w2.cell? ⟨wr.heap.size, 0, none⟩ = some (.int .i64 q) := by
                rw [b2.cell (p := ⟨wr.heap.size, 0, none⟩) (by simp)]; exact cell_of_row _ _ 0 _ _ _ (heap_alloc_last wr _)
              have c1 : w2.cell? ⟨wr.heap.size, 1, none⟩ = some (.int .i64 ((j : Int) + 1)) := by
                rw [b2.cell (p := ⟨wr.heap.size, 1, none⟩) (by simp)]; exact cell_of_row _ _ 1 _ _ _ (heap_alloc_last wr _)
              have hbase := hbel2.size
              have hcells := cell_two_new w2 (.int .i64 q) (.int .i64 ((j : Int) + 1)) 55
              have HC := Lib.hid hcells; clear hcells
              have H2 := Lib.hid (And.intro hown2 hbel2); clear hown2 hbel2 b2
              go_wp2_with (at_builtin; refine wpList_append_own_at _ rfl _ _ 33 rfl w.heap.size 55 i0 (.agg #[.int .i64 0, .int .i64 0]) 2 16 Try.underlying33 HI.out.1 HI.out.2.1 HI.out.2.2.1 HI.out.2.2.2 rfl (by decide) _ _ _ rfl (H2.out.1.alloc _) ⟨w2.heap.size, 0, none⟩ 1 1 [.int .i64 q, .int .i64 ((j : Int) + 1)] rfl rfl HC.out ?_ ?_ ?_ ?_ ?_)
              · intro u hu; simp at hu; rcases hu with rfl | rfl <;> rfl
              · unfold maxLen; omega
              · omega
              · simp; omega
              intro v' w3 hown3 hgrow _ _
              have hbel3 : Below w.heap.size w w3 := (H2.out.2.alloc H2.out.2.size _).grown hgrow (by simp; omega) (fun g hg => by
                obtain ⟨_, h | ⟨g', cap, cur, hv, hb', _⟩⟩ := H2.out.1
                · rw [h.1] at hg; cases hg
                · rw [hv] at hg; simp [Value.ownBlock] at hg; omega)
              have hown4 : w3.ownsRow w.heap.size 55 2 v' (xs ++ [(q, (j : Int) + 1)]).length (darts (xs ++ [(q, (j : Int) + 1)])) := by
                rw [darts_append, List.length_append]; exact hown3
              have H3 := Lib.hid (And.intro hown4 hbel3); clear hown3 hgrow hown4 hbel3
              go_wp2
              go_roundw
              case rel => exact ⟨j, by go_num, by omega, Lib.hid ⟨_, by have := HH.out.1; simpa using this, by have := HH.out.2.1; simp; omega, H3.out.1, H3.out.2⟩⟩
              case measure => simp [intOf]
          · have hst2 : stepD (k + 1) (j + 1) = [] := by rw [hst, if_neg (fun h => hr h.1)]
            rw [hst2, List.nil_append] at hx
            have hr2 : ((r : Int) == 0) = false := by simp; omega
            have HH := Lib.hid (And.intro hx (And.intro hlen (And.intro hown hbel))); clear hx hlen hown hbel hst hst2
            go_wp2
            go_roundw
            case rel => exact ⟨j, by go_num, by omega, Lib.hid ⟨_, HH.out.1, by have := HH.out.2.1; omega, HH.out.2.2.1.alloc _, HH.out.2.2.2.alloc HH.out.2.2.2.size _⟩⟩
            case measure => simp [intOf]

set_option maxHeartbeats 6400000 in
set_option maxRecDepth 100000 in
theorem daAll_any (w : World) :
    Calls Try.prog 63 #[] w fun e w' => ∃ v, e = .returned v ∧ w'.ownsRow w.heap.size 55 2 v allD.length (darts allD) ∧ Below w.heap.size w w' := by
  have hO0 : OutAt w 60 (.slice none 0 0) w := ⟨[], rfl, by simp, ⟨rfl, .inl ⟨rfl, rfl⟩⟩, Below.refl _ _⟩
  have HO0 := Lib.hid hO0; clear hO0
  go_enter Try.func63, Try.ntmps63
  go_wp2
  go_loopw [1, 2, 3, 4] (fun v s _ _ wr => ∃ k : Nat, s = .int .i64 k ∧ k ≤ 60 ∧ Hid (OutAt w k v wr)) (fun _ s _ _ _ => (intOf s).toNat)
  case atStart => exact ⟨60, rfl, by omega, HO0⟩
  case round =>
    clear HO0
    obtain ⟨k, rfl, hk, hH⟩ := hrel
    cases k with
    | zero =>
      obtain ⟨xs, hx, _, hown, hbel⟩ := hH.out
      clear hH
      rw [show outer 0 = [] from rfl, List.append_nil] at hx
      subst hx
      have HH := Lib.hid (And.intro hown hbel); clear hown hbel
      go_wp2
      go_ret
      exact ⟨_, rfl, HH.out.1, HH.out.2⟩
    | succ k =>
      have hge : (0 : Int) < (k : Int) + 1 := by omega
      rw [show (((k + 1 : Nat)) : Int) = (k : Int) + 1 from rfl]
      go_wp2
      go_loopw [1, 3, 4] (fun v t _ wr => ∃ j : Nat, t = .int .i64 j ∧ j ≤ 3 ∧ Hid (InAt w k j v wr)) (fun _ t _ _ => (intOf t).toNat)
      case atStart =>
        obtain ⟨xs, hx, hlen, hown, hbel⟩ := hH.out
        exact ⟨3, rfl, by omega, Lib.hid ⟨xs, hx, by omega, hown, hbel⟩⟩
      case round =>
        clear hH
        obtain ⟨j, rfl, hj, hI⟩ := hrel
        obtain ⟨xs, hx, hlen, hown, hbel⟩ := hI.out
        clear hI
        cases j with
        | zero =>
          rw [show inner (k + 1) 0 = [] from rfl, List.nil_append] at hx
          have HH := Lib.hid (And.intro hx (And.intro hlen (And.intro hown hbel))); clear hx hlen hown hbel
          go_wp2
          go_roundw
          case rel => exact ⟨k, by go_num, by omega, Lib.hid ⟨_, HH.out.1, by have := HH.out.2.1; omega, HH.out.2.2.1, HH.out.2.2.2⟩⟩
          case measure => simp [intOf]
        | succ j =>
          have hge2 : (0 : Int) < (j : Int) + 1 := by omega
          have hin : inner (k + 1) (j + 1) = stepD (k + 1) (j + 1) ++ inner (k + 1) j := rfl
          have hq : ((k : Int) + 1).tdiv ((j : Int) + 1) = (((k + 1) / (j + 1) : Nat) : Int) := by rw [Int.tdiv_eq_ediv_of_nonneg (by omega)]; push_cast; rfl
          have hrm : ((k : Int) + 1).tmod ((j : Int) + 1) = (((k + 1) % (j + 1) : Nat) : Int) := by rw [Int.tmod_eq_emod_of_nonneg (by omega)]; push_cast; rfl
          have hst : stepD (k + 1) (j + 1) = if (k + 1) % (j + 1) = 0 ∧ goodB (((k + 1) / (j + 1) : Nat) : Int) ((j + 1 : Nat) : Int) = true then [((((k + 1) / (j + 1) : Nat) : Int), ((j + 1 : Nat) : Int))] else [] := rfl
          have hqb : (((k + 1) / (j + 1) : Nat) : Int) ≤ 61 := by have := Nat.div_le_self (k + 1) (j + 1); omega
          have hq0 : (0 : Int) ≤ (((k + 1) / (j + 1) : Nat) : Int) := Int.natCast_nonneg _
          have hj0 : ((j : Int) + 1 == 0) = false := by simp; omega
          generalize hqq : (((k + 1) / (j + 1) : Nat) : Int) = q at *
          generalize hrr : (k + 1) % (j + 1) = r at *
          rw [hin] at hx
          clear hin
          rw [show (((j + 1 : Nat)) : Int) = (j : Int) + 1 from rfl] at hst
          by_cases hr : r = 0
          · subst hr
            simp only [true_and] at hst
            obtain ⟨i0, hi, hz0, hz1, hz2⟩ := info_parts infoD
            have HI := Lib.hid (And.intro hi (And.intro hz0 (And.intro hz1 hz2))); clear hi hz0 hz1 hz2
            cases hgd : goodB q ((j : Int) + 1)
            · rw [hgd] at hst
              simp only [Bool.false_eq_true, if_false] at hst
              rw [hst, List.nil_append] at hx
              have HG := Lib.hid hgd
              have HH := Lib.hid (And.intro hx (And.intro hlen (And.intro hown hbel))); clear hx hlen hown hbel hst hgd
              go_wp2_with fail
              refine (daGood_any _ _ _).mono ?_; rintro e w2 ⟨rfl, b2⟩
              rw [HG.out]
              have hown2 := owns_below (HH.out.2.2.1.alloc _) b2
              have hbel2 := (HH.out.2.2.2.alloc HH.out.2.2.2.size _).trans (b2.mono (by have := HH.out.2.2.2.size; simp; omega))
              have H2 := Lib.hid (And.intro hown2 hbel2); clear hown2 hbel2 b2
              go_wp2
              go_roundw
              case rel => exact ⟨j, by go_num, by omega, Lib.hid ⟨_, HH.out.1, by have := HH.out.2.1; omega, H2.out.1, H2.out.2⟩⟩
              case measure => simp [intOf]
            · rw [hgd] at hst
              simp only [if_true] at hst
              rw [hst, List.cons_append, List.nil_append] at hx
              have HG := Lib.hid hgd
              have hn60 : xs.length ≤ 180 := by omega
              have HH := Lib.hid (And.intro hx (And.intro hlen (And.intro hown hbel))); clear hx hlen hown hbel hst hgd
              go_wp2_with fail
              refine (daGood_any _ _ _).mono ?_; rintro e w2 ⟨rfl, b2⟩
              rw [HG.out]
              have hown2 := owns_below (HH.out.2.2.1.alloc _) b2
              have hbel2 := (HH.out.2.2.2.alloc HH.out.2.2.2.size _).trans (b2.mono (by have := HH.out.2.2.2.size; simp; omega))
              have c0 : w2.cell? ⟨wr.heap.size, 0, none⟩ = some (.int .i64 q) := by
                rw [b2.cell (p := ⟨wr.heap.size, 0, none⟩) (by simp)]; exact cell_of_row _ _ 0 _ _ _ (heap_alloc_last wr _)
              have c1 : w2.cell? ⟨wr.heap.size, 1, none⟩ = some (.int .i64 ((j : Int) + 1)) := by
                rw [b2.cell (p := ⟨wr.heap.size, 1, none⟩) (by simp)]; exact cell_of_row _ _ 1 _ _ _ (heap_alloc_last wr _)
              have hbase := hbel2.size
              have hcells := cell_two_new w2 (.int .i64 q) (.int .i64 ((j : Int) + 1)) 55
              have HC := Lib.hid hcells; clear hcells
              have H2 := Lib.hid (And.intro hown2 hbel2); clear hown2 hbel2 b2
              go_wp2_with (at_builtin; refine wpList_append_own_at _ rfl _ _ 33 rfl w.heap.size 55 i0 (.agg #[.int .i64 0, .int .i64 0]) 2 16 Try.underlying33 HI.out.1 HI.out.2.1 HI.out.2.2.1 HI.out.2.2.2 rfl (by decide) _ _ _ rfl (H2.out.1.alloc _) ⟨w2.heap.size, 0, none⟩ 1 1 [.int .i64 q, .int .i64 ((j : Int) + 1)] rfl rfl HC.out ?_ ?_ ?_ ?_ ?_)
              · intro u hu; simp at hu; rcases hu with rfl | rfl <;> rfl
              · unfold maxLen; omega
              · omega
              · simp; omega
              intro v' w3 hown3 hgrow _ _
              have hbel3 : Below w.heap.size w w3 := (H2.out.2.alloc H2.out.2.size _).grown hgrow (by simp; omega) (fun g hg => by
                obtain ⟨_, h | ⟨g', cap, cur, hv, hb', _⟩⟩ := H2.out.1
                · rw [h.1] at hg; cases hg
                · rw [hv] at hg; simp [Value.ownBlock] at hg; omega)
              have hown4 : w3.ownsRow w.heap.size 55 2 v' (xs ++ [(q, (j : Int) + 1)]).length (darts (xs ++ [(q, (j : Int) + 1)])) := by
                rw [darts_append, List.length_append]; exact hown3
              have H3 := Lib.hid (And.intro hown4 hbel3); clear hown3 hgrow hown4 hbel3
              go_wp2
              go_roundw
              case rel => exact ⟨j, by go_num, by omega, Lib.hid ⟨_, by have := HH.out.1; simpa using this, by have := HH.out.2.1; simp; omega, H3.out.1, H3.out.2⟩⟩
              case measure => simp [intOf]
          · have hst2 : stepD (k + 1) (j + 1) = [] := by rw [hst, if_neg (fun h => hr h.1)]
            rw [hst2, List.nil_append] at hx
            have hr2 : ((r : Int) == 0) = false := by simp; omega
            have HH := Lib.hid (And.intro hx (And.intro hlen (And.intro hown hbel))); clear hx hlen hown hbel hst hst2
            go_wp2
            go_roundw
            case rel => exact ⟨j, by go_num, by omega, Lib.hid ⟨_, HH.out.1, by have := HH.out.2.1; omega, HH.out.2.2.1.alloc _, HH.out.2.2.2.alloc HH.out.2.2.2.size _⟩⟩
            case measure => simp [intOf]

end Go.Proofs.Ytaplkciomagmiaa
