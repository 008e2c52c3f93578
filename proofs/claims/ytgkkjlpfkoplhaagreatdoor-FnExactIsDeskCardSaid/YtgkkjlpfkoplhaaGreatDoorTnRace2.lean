/-
  Tennis: who has won a race, by numbers of points: the program's loop over the sides.
-/
import Derived.Test.YtgkkjlpfkoplhaaGreatDoorTnRace
import Derived.Deep.RegionHeld3
namespace Go.Proofs.YtgkkjlpfkoplhaaGreatDoor
open Go.RowKit

theorem raceS_keep {B : Nat} {w0 w w' : World} {g h : Nat} {t l a b : Int} (hb : Below w.heap.size w w') (h0 : w.cell? ⟨g, 0, none⟩ = some (.int .i64 t) ∧ w.cell? ⟨g, 1, none⟩ = some (.int .i64 l) ∧ w.cell? ⟨h, 0, none⟩ = some (.int .i64 a) ∧ w.cell? ⟨h, 1, none⟩ = some (.int .i64 b) ∧ g < w.heap.size ∧ h < w.heap.size ∧ B ≤ w.heap.size ∧ Below B w0 w) :
    w'.cell? ⟨g, 0, none⟩ = some (.int .i64 t) ∧ w'.cell? ⟨g, 1, none⟩ = some (.int .i64 l) ∧ w'.cell? ⟨h, 0, none⟩ = some (.int .i64 a) ∧ w'.cell? ⟨h, 1, none⟩ = some (.int .i64 b) ∧ g < w'.heap.size ∧ h < w'.heap.size ∧ B ≤ w'.heap.size ∧ Below B w0 w' := by
  have := hb.size
  obtain ⟨c0, c1, c2, c3, hg, hh, hB, hw⟩ := h0
  exact ⟨by rw [hb.cell (p := ⟨g, 0, none⟩) hg]; exact c0, by rw [hb.cell (p := ⟨g, 1, none⟩) hg]; exact c1, by rw [hb.cell (p := ⟨h, 0, none⟩) hh]; exact c2, by rw [hb.cell (p := ⟨h, 1, none⟩) hh]; exact c3, by omega, by omega, by omega, hw.trans (hb.mono hB)⟩
theorem raceS_new (w : World) (t l a b : Int) (T U : TypeId) : ((w.alloc (.cells #[.int .i64 t, .int .i64 l] T)).alloc (.cells #[.int .i64 a, .int .i64 b] U)).cell? ⟨w.heap.size, 0, none⟩ = some (.int .i64 t) ∧ ((w.alloc (.cells #[.int .i64 t, .int .i64 l] T)).alloc (.cells #[.int .i64 a, .int .i64 b] U)).cell? ⟨w.heap.size, 1, none⟩ = some (.int .i64 l) ∧ ((w.alloc (.cells #[.int .i64 t, .int .i64 l] T)).alloc (.cells #[.int .i64 a, .int .i64 b] U)).cell? ⟨w.heap.size + 1, 0, none⟩ = some (.int .i64 a) ∧ ((w.alloc (.cells #[.int .i64 t, .int .i64 l] T)).alloc (.cells #[.int .i64 a, .int .i64 b] U)).cell? ⟨w.heap.size + 1, 1, none⟩ = some (.int .i64 b) ∧ w.heap.size < ((w.alloc (.cells #[.int .i64 t, .int .i64 l] T)).alloc (.cells #[.int .i64 a, .int .i64 b] U)).heap.size ∧ w.heap.size + 1 < ((w.alloc (.cells #[.int .i64 t, .int .i64 l] T)).alloc (.cells #[.int .i64 a, .int .i64 b] U)).heap.size ∧ w.heap.size ≤ ((w.alloc (.cells #[.int .i64 t, .int .i64 l] T)).alloc (.cells #[.int .i64 a, .int .i64 b] U)).heap.size ∧ Below w.heap.size w ((w.alloc (.cells #[.int .i64 t, .int .i64 l] T)).alloc (.cells #[.int .i64 a, .int .i64 b] U)) :=
  ⟨cell_of_row _ _ 0 _ _ _ (heap_alloc2_old w _ _), cell_of_row _ _ 1 _ _ _ (heap_alloc2_old w _ _), cell_of_row _ _ 0 _ _ _ (heap_alloc2_new w _ _), cell_of_row _ _ 1 _ _ _ (heap_alloc2_new w _ _), by simp; omega, by simp, by simp; omega, ((Below.refl _ _).alloc (Nat.le_refl _) _).alloc (by simp) _⟩

set_option maxRecDepth 100000 in
set_option maxHeartbeats 6400000 in
theorem winnerOfRace_any (to a b : Int) (w : World) (ha : 0 ≤ a) (ha' : a ≤ 1000000000000) (hb : 0 ≤ b) (hb' : b ≤ 1000000000000) :
    Calls Tryz.prog 42 #[.agg #[.int .i64 to, .int .i64 2], .agg #[.int .i64 a, .int .i64 b]] w fun e w' => e = .returned (.string (sideS (wonN to a b))) ∧ Below w.heap.size w w' := by
  have o1 := of_any a b 97
  have o2 := fun w => leadOf_any a b 97 w ha ha' hb hb'
  rw [show ofC a b 97 = a from rfl] at o1 o2
  have OA := Lib.hid (And.intro o1 o2); clear o1 o2
  have o1 := of_any a b 98
  have o2 := fun w => leadOf_any a b 98 w ha ha' hb hb'
  rw [show ofC a b 98 = b from rfl] at o1 o2
  have OB := Lib.hid (And.intro o1 o2); clear o1 o2
  have i0 : ∀ w : World, (Instr.index 111 (.agg #[.string ⟨#[97]⟩, .string ⟨#[98]⟩]) (.int .i64 0)).run Tryz.prog w = .ok (.string ⟨#[97]⟩) w := fun _ => by kernel_rfl
  have i1 : ∀ w : World, (Instr.index 111 (.agg #[.string ⟨#[97]⟩, .string ⟨#[98]⟩]) (.int .i64 1)).run Tryz.prog w = .ok (.string ⟨#[98]⟩) w := fun _ => by kernel_rfl
  have hs0 := raceS_new w to 2 a b 78 51
  have HS0 := Lib.hid hs0; clear hs0
  generalize hg : w.heap.size = g at *
  have HG := Lib.hid hg; clear hg
  generalize hW1 : (w.alloc (.cells #[.int .i64 to, .int .i64 2] 78)).alloc (.cells #[.int .i64 a, .int .i64 b] 51) = w1 at *
  have HW1 := Lib.hid hW1; clear hW1
  generalize hr : sideS (wonN to a b) = res
  have HR := Lib.hid hr; clear hr
  go_enter Tryz.func42, Tryz.ntmps42
  go_wp2_with fail
  rw [HG.out, HW1.out]
  go_loopw [8] (fun i w' => (i = .int .i64 0 ∨ (i = .int .i64 1 ∧ Hid (¬ (to ≤ a ∧ 2 ≤ a - b))) ∨ (i = .int .i64 2 ∧ Hid (¬ (to ≤ a ∧ 2 ≤ a - b)) ∧ Hid (¬ (to ≤ b ∧ 2 ≤ b - a)))) ∧ w'.cell? ⟨g, 0, none⟩ = some (.int .i64 to) ∧ w'.cell? ⟨g, 1, none⟩ = some (.int .i64 2) ∧ w'.cell? ⟨g + 1, 0, none⟩ = some (.int .i64 a) ∧ w'.cell? ⟨g + 1, 1, none⟩ = some (.int .i64 b) ∧ g < w'.heap.size ∧ g + 1 < w'.heap.size ∧ g ≤ w'.heap.size ∧ Below g w w') (fun i _ => 2 - (intOf i).toNat)
  case atStart => exact ⟨.inl rfl, HS0.out⟩
  case round =>
    obtain ⟨hk, s0, s1, s2, s3, s4, s5, s6, s7⟩ := hrel
    rcases hk with rfl | ⟨rfl, HA⟩ | ⟨rfl, HA, HB⟩
    · clear i1 OB
      have OO := OA; clear OA
      by_cases q1 : to ≤ a
      · by_cases q2 : 2 ≤ 2 * a - a - b
        · have hv : res = ⟨#[97]⟩ := by rw [← HR.out, wonN, if_pos ⟨q1, by omega⟩]; rfl
          have HV := Lib.hid hv; clear hv
          go_wp2_with fail
          go_region_held3 (fun w' => w'.cell? ⟨g, 0, none⟩ = some (.int .i64 to) ∧ w'.cell? ⟨g, 1, none⟩ = some (.int .i64 2) ∧ w'.cell? ⟨g + 1, 0, none⟩ = some (.int .i64 a) ∧ w'.cell? ⟨g + 1, 1, none⟩ = some (.int .i64 b) ∧ g < w'.heap.size ∧ g + 1 < w'.heap.size ∧ g ≤ w'.heap.size ∧ Below g w w')
            (first | (go_keep; done) | (exact ⟨by simpa using s0, by simpa using s1, by simpa using s2, by simpa using s3, by simpa using s4, by simpa using s5, by simpa using s6, Below.drew s7⟩) | (go_split_ands; refine raceS_keep (by assumption) ⟨?_, ?_, ?_, ?_, ?_, ?_, ?_, ?_⟩ <;> assumption))
            (first | (go_at_call 69; refine (OO.out.1 _).mono ?_; rintro e w' ⟨rfl, bd⟩) | (go_at_call 70; refine (OO.out.2 _).mono ?_; rintro e w' ⟨rfl, bd⟩))
          go_split_ands
          go_wp2_with fail
          go_ret
          exact ⟨by rw [HV.out]; rfl, by assumption⟩
        · have q2' : decide (2 ≤ 2 * a - a - b) = false := by simp; omega
          have HN := Lib.hid (show ¬ (to ≤ a ∧ 2 ≤ a - b) by omega)
          go_wp2_with fail
          go_region_held3 (fun w' => w'.cell? ⟨g, 0, none⟩ = some (.int .i64 to) ∧ w'.cell? ⟨g, 1, none⟩ = some (.int .i64 2) ∧ w'.cell? ⟨g + 1, 0, none⟩ = some (.int .i64 a) ∧ w'.cell? ⟨g + 1, 1, none⟩ = some (.int .i64 b) ∧ g < w'.heap.size ∧ g + 1 < w'.heap.size ∧ g ≤ w'.heap.size ∧ Below g w w')
            (first | (go_keep; done) | (exact ⟨by simpa using s0, by simpa using s1, by simpa using s2, by simpa using s3, by simpa using s4, by simpa using s5, by simpa using s6, Below.drew s7⟩) | (go_split_ands; refine raceS_keep (by assumption) ⟨?_, ?_, ?_, ?_, ?_, ?_, ?_, ?_⟩ <;> assumption))
            (first | (go_at_call 69; refine (OO.out.1 _).mono ?_; rintro e w' ⟨rfl, bd⟩) | (go_at_call 70; refine (OO.out.2 _).mono ?_; rintro e w' ⟨rfl, bd⟩))
          go_split_ands
          go_wp2_with fail
          go_roundw
          case rel => exact ⟨.inr (.inl ⟨rfl, HN⟩), by assumption, by assumption, by assumption, by assumption, by assumption, by assumption, by assumption, by assumption⟩
          case measure => simp [intOf]
      · have q1' : decide (to ≤ a) = false := by simp; omega
        have HN := Lib.hid (show ¬ (to ≤ a ∧ 2 ≤ a - b) by omega)
        go_wp2_with fail
        refine wp_region_held_drew (S := fun w' => w'.cell? ⟨g, 0, none⟩ = some (.int .i64 to) ∧ w'.cell? ⟨g, 1, none⟩ = some (.int .i64 2) ∧ w'.cell? ⟨g + 1, 0, none⟩ = some (.int .i64 a) ∧ w'.cell? ⟨g + 1, 1, none⟩ = some (.int .i64 b) ∧ g < w'.heap.size ∧ g + 1 < w'.heap.size ∧ g ≤ w'.heap.size ∧ Below g w w') (by kernel_rfl) ⟨by simpa using s0, by simpa using s1, by simpa using s2, by simpa using s3, by simpa using s4, by simpa using s5, by simpa using s6, Below.drew s7⟩ (fun hHeld => ?_)
        (refine wpAnyH_take (i := 0) (v := ?_) rfl (by kernel_rfl) (by kernel_rfl) (by kernel_rfl) (fun _ _ _ h => h) (Or.inl ⟨by kernel_rfl, ?_⟩) (by assumption) ?_; rotate_left; focus (intro w hSw; (try dsimp only at hSw); go_simp; try with_reducible rfl); (try simp only [List.getElem_toArray, List.getElem_cons_succ, List.getElem_cons_zero, Act.put, List.setIfInBounds_toArray, List.set_cons_zero, List.set_cons_succ])); (refine wpAnyH_take (i := 1) (v := ?_) rfl (by kernel_rfl) (by kernel_rfl) (by kernel_rfl) (fun _ _ _ h => h) (Or.inl ⟨by kernel_rfl, ?_⟩) (by assumption) ?_; rotate_left; focus (intro w hSw; (try dsimp only at hSw); go_simp; try with_reducible rfl); (try simp only [List.getElem_toArray, List.getElem_cons_succ, List.getElem_cons_zero, Act.put, List.setIfInBounds_toArray, List.set_cons_zero, List.set_cons_succ])); (refine wpAnyH_take (i := 3) (v := ?_) rfl (by kernel_rfl) (by kernel_rfl) (by kernel_rfl) (fun _ _ _ h => h) (Or.inl ⟨by kernel_rfl, ?_⟩) (by assumption) ?_; rotate_left; focus (intro w hSw; (try dsimp only at hSw); go_simp; try with_reducible rfl); (try simp only [List.getElem_toArray, List.getElem_cons_succ, List.getElem_cons_zero, Act.put, List.setIfInBounds_toArray, List.set_cons_zero, List.set_cons_succ])); (refine wpAnyH_take (i := 4) (v := ?_) rfl (by kernel_rfl) (by kernel_rfl) (by kernel_rfl) (fun _ _ _ h => h) (Or.inl ⟨by kernel_rfl, ?_⟩) (by assumption) ?_; rotate_left; focus (intro w hSw; (try dsimp only at hSw); go_simp; try with_reducible rfl); (try simp only [List.getElem_toArray, List.getElem_cons_succ, List.getElem_cons_zero, Act.put, List.setIfInBounds_toArray, List.set_cons_zero, List.set_cons_succ]))
        refine wpAnyH_ready (rs := [2]) (by kernel_rfl) (by simp) ?_; refine AllReadyH.cons rfl (fun K hK => ?_) AllReadyH.nil
        go_simp
        go_at_call 69
        refine (OO.out.1 _).mono ?_; rintro e w' ⟨rfl, bd⟩
        have KS := Lib.hid (raceS_keep bd hHeld); clear hHeld bd
        go_wp2_with fail
        refine hK.out _ _ KS.out (fun hHeld => ?_)
        clear hK K KS
        (try simp only [List.getElem_toArray, List.getElem_cons_succ, List.getElem_cons_zero, Act.put, List.setIfInBounds_toArray, List.set_cons_zero, List.set_cons_succ])
        (refine wpAnyH_take (i := 5) (v := ?_) rfl (by kernel_rfl) (by kernel_rfl) (by kernel_rfl) (fun _ _ _ h => h) (Or.inl ⟨by kernel_rfl, ?_⟩) (by assumption) ?_; rotate_left; focus (intro w hSw; (try dsimp only at hSw); go_simp; try with_reducible rfl); (try simp only [List.getElem_toArray, List.getElem_cons_succ, List.getElem_cons_zero, Act.put, List.setIfInBounds_toArray, List.set_cons_zero, List.set_cons_succ])); (refine wpAnyH_take (i := 6) (v := ?_) rfl (by kernel_rfl) (by kernel_rfl) (by kernel_rfl) (fun _ _ _ h => h) (Or.inl ⟨by kernel_rfl, ?_⟩) (by assumption) ?_; rotate_left; focus (intro w hSw; (try dsimp only at hSw); go_simp; try with_reducible rfl); (try simp only [List.getElem_toArray, List.getElem_cons_succ, List.getElem_cons_zero, Act.put, List.setIfInBounds_toArray, List.set_cons_zero, List.set_cons_succ]))
        (refine wpAnyH_take (i := 7) (v := undef) rfl (by kernel_rfl) (by kernel_rfl) (by kernel_rfl) (fun _ _ _ h => h) (Or.inr ⟨by kernel_rfl, rfl⟩) (by assumption) ?_; (try simp only [List.getElem_toArray, List.getElem_cons_succ, List.getElem_cons_zero, Act.put, List.setIfInBounds_toArray, List.set_cons_zero, List.set_cons_succ])); (refine wpAnyH_take (i := 8) (v := undef) rfl (by kernel_rfl) (by kernel_rfl) (by kernel_rfl) (fun _ _ _ h => h) (Or.inr ⟨by kernel_rfl, rfl⟩) (by assumption) ?_; (try simp only [List.getElem_toArray, List.getElem_cons_succ, List.getElem_cons_zero, Act.put, List.setIfInBounds_toArray, List.set_cons_zero, List.set_cons_succ])); (refine wpAnyH_take (i := 9) (v := undef) rfl (by kernel_rfl) (by kernel_rfl) (by kernel_rfl) (fun _ _ _ h => h) (Or.inr ⟨by kernel_rfl, rfl⟩) (by assumption) ?_; (try simp only [List.getElem_toArray, List.getElem_cons_succ, List.getElem_cons_zero, Act.put, List.setIfInBounds_toArray, List.set_cons_zero, List.set_cons_succ])); (refine wpAnyH_take (i := 10) (v := undef) rfl (by kernel_rfl) (by kernel_rfl) (by kernel_rfl) (fun _ _ _ h => h) (Or.inr ⟨by kernel_rfl, rfl⟩) (by assumption) ?_; (try simp only [List.getElem_toArray, List.getElem_cons_succ, List.getElem_cons_zero, Act.put, List.setIfInBounds_toArray, List.set_cons_zero, List.set_cons_succ])); (refine wpAnyH_take (i := 11) (v := undef) rfl (by kernel_rfl) (by kernel_rfl) (by kernel_rfl) (fun _ _ _ h => h) (Or.inr ⟨by kernel_rfl, rfl⟩) (by assumption) ?_; (try simp only [List.getElem_toArray, List.getElem_cons_succ, List.getElem_cons_zero, Act.put, List.setIfInBounds_toArray, List.set_cons_zero, List.set_cons_succ])); (refine wpAnyH_take (i := 12) (v := undef) rfl (by kernel_rfl) (by kernel_rfl) (by kernel_rfl) (fun _ _ _ h => h) (Or.inr ⟨by kernel_rfl, rfl⟩) (by assumption) ?_; (try simp only [List.getElem_toArray, List.getElem_cons_succ, List.getElem_cons_zero, Act.put, List.setIfInBounds_toArray, List.set_cons_zero, List.set_cons_succ]))
        (refine wpAnyH_take (i := 13) (v := ?_) rfl (by kernel_rfl) (by kernel_rfl) (by kernel_rfl) (fun _ _ _ h => h) (Or.inl ⟨by kernel_rfl, ?_⟩) (by assumption) ?_; rotate_left; focus (intro w hSw; (try dsimp only at hSw); go_simp; try with_reducible rfl); (try simp only [List.getElem_toArray, List.getElem_cons_succ, List.getElem_cons_zero, Act.put, List.setIfInBounds_toArray, List.set_cons_zero, List.set_cons_succ]))
        refine wpAnyH_done (by kernel_rfl) ?_ _
        have KS := Lib.hid hHeld; clear hHeld
        go_wp2_with fail
        go_roundw
        case rel => exact ⟨.inr (.inl ⟨rfl, HN⟩), KS.out⟩
        case measure => simp [intOf]
    · clear i0 OA
      have OO := OB; clear OB
      by_cases q1 : to ≤ b
      · by_cases q2 : 2 ≤ 2 * b - a - b
        · have hv : res = ⟨#[98]⟩ := by rw [← HR.out, wonN, if_neg HA.out, if_pos ⟨q1, by omega⟩]; rfl
          have HV := Lib.hid hv; clear hv
          go_wp2_with fail
          go_region_held3 (fun w' => w'.cell? ⟨g, 0, none⟩ = some (.int .i64 to) ∧ w'.cell? ⟨g, 1, none⟩ = some (.int .i64 2) ∧ w'.cell? ⟨g + 1, 0, none⟩ = some (.int .i64 a) ∧ w'.cell? ⟨g + 1, 1, none⟩ = some (.int .i64 b) ∧ g < w'.heap.size ∧ g + 1 < w'.heap.size ∧ g ≤ w'.heap.size ∧ Below g w w')
            (first | (go_keep; done) | (exact ⟨by simpa using s0, by simpa using s1, by simpa using s2, by simpa using s3, by simpa using s4, by simpa using s5, by simpa using s6, Below.drew s7⟩) | (go_split_ands; refine raceS_keep (by assumption) ⟨?_, ?_, ?_, ?_, ?_, ?_, ?_, ?_⟩ <;> assumption))
            (first | (go_at_call 69; refine (OO.out.1 _).mono ?_; rintro e w' ⟨rfl, bd⟩) | (go_at_call 70; refine (OO.out.2 _).mono ?_; rintro e w' ⟨rfl, bd⟩))
          go_split_ands
          go_wp2_with fail
          go_ret
          exact ⟨by rw [HV.out]; rfl, by assumption⟩
        · have q2' : decide (2 ≤ 2 * b - a - b) = false := by simp; omega
          have HN := Lib.hid (show ¬ (to ≤ b ∧ 2 ≤ b - a) by omega)
          go_wp2_with fail
          go_region_held3 (fun w' => w'.cell? ⟨g, 0, none⟩ = some (.int .i64 to) ∧ w'.cell? ⟨g, 1, none⟩ = some (.int .i64 2) ∧ w'.cell? ⟨g + 1, 0, none⟩ = some (.int .i64 a) ∧ w'.cell? ⟨g + 1, 1, none⟩ = some (.int .i64 b) ∧ g < w'.heap.size ∧ g + 1 < w'.heap.size ∧ g ≤ w'.heap.size ∧ Below g w w')
            (first | (go_keep; done) | (exact ⟨by simpa using s0, by simpa using s1, by simpa using s2, by simpa using s3, by simpa using s4, by simpa using s5, by simpa using s6, Below.drew s7⟩) | (go_split_ands; refine raceS_keep (by assumption) ⟨?_, ?_, ?_, ?_, ?_, ?_, ?_, ?_⟩ <;> assumption))
            (first | (go_at_call 69; refine (OO.out.1 _).mono ?_; rintro e w' ⟨rfl, bd⟩) | (go_at_call 70; refine (OO.out.2 _).mono ?_; rintro e w' ⟨rfl, bd⟩))
          go_split_ands
          go_wp2_with fail
          go_roundw
          case rel => exact ⟨.inr (.inr ⟨rfl, HA, HN⟩), by assumption, by assumption, by assumption, by assumption, by assumption, by assumption, by assumption, by assumption⟩
          case measure => simp [intOf]
      · have q1' : decide (to ≤ b) = false := by simp; omega
        have HN := Lib.hid (show ¬ (to ≤ b ∧ 2 ≤ b - a) by omega)
        go_wp2_with fail
        refine wp_region_held_drew (S := fun w' => w'.cell? ⟨g, 0, none⟩ = some (.int .i64 to) ∧ w'.cell? ⟨g, 1, none⟩ = some (.int .i64 2) ∧ w'.cell? ⟨g + 1, 0, none⟩ = some (.int .i64 a) ∧ w'.cell? ⟨g + 1, 1, none⟩ = some (.int .i64 b) ∧ g < w'.heap.size ∧ g + 1 < w'.heap.size ∧ g ≤ w'.heap.size ∧ Below g w w') (by kernel_rfl) ⟨by simpa using s0, by simpa using s1, by simpa using s2, by simpa using s3, by simpa using s4, by simpa using s5, by simpa using s6, Below.drew s7⟩ (fun hHeld => ?_)
        (refine wpAnyH_take (i := 0) (v := ?_) rfl (by kernel_rfl) (by kernel_rfl) (by kernel_rfl) (fun _ _ _ h => h) (Or.inl ⟨by kernel_rfl, ?_⟩) (by assumption) ?_; rotate_left; focus (intro w hSw; (try dsimp only at hSw); go_simp; try with_reducible rfl); (try simp only [List.getElem_toArray, List.getElem_cons_succ, List.getElem_cons_zero, Act.put, List.setIfInBounds_toArray, List.set_cons_zero, List.set_cons_succ])); (refine wpAnyH_take (i := 1) (v := ?_) rfl (by kernel_rfl) (by kernel_rfl) (by kernel_rfl) (fun _ _ _ h => h) (Or.inl ⟨by kernel_rfl, ?_⟩) (by assumption) ?_; rotate_left; focus (intro w hSw; (try dsimp only at hSw); go_simp; try with_reducible rfl); (try simp only [List.getElem_toArray, List.getElem_cons_succ, List.getElem_cons_zero, Act.put, List.setIfInBounds_toArray, List.set_cons_zero, List.set_cons_succ])); (refine wpAnyH_take (i := 3) (v := ?_) rfl (by kernel_rfl) (by kernel_rfl) (by kernel_rfl) (fun _ _ _ h => h) (Or.inl ⟨by kernel_rfl, ?_⟩) (by assumption) ?_; rotate_left; focus (intro w hSw; (try dsimp only at hSw); go_simp; try with_reducible rfl); (try simp only [List.getElem_toArray, List.getElem_cons_succ, List.getElem_cons_zero, Act.put, List.setIfInBounds_toArray, List.set_cons_zero, List.set_cons_succ])); (refine wpAnyH_take (i := 4) (v := ?_) rfl (by kernel_rfl) (by kernel_rfl) (by kernel_rfl) (fun _ _ _ h => h) (Or.inl ⟨by kernel_rfl, ?_⟩) (by assumption) ?_; rotate_left; focus (intro w hSw; (try dsimp only at hSw); go_simp; try with_reducible rfl); (try simp only [List.getElem_toArray, List.getElem_cons_succ, List.getElem_cons_zero, Act.put, List.setIfInBounds_toArray, List.set_cons_zero, List.set_cons_succ]))
        refine wpAnyH_ready (rs := [2]) (by kernel_rfl) (by simp) ?_; refine AllReadyH.cons rfl (fun K hK => ?_) AllReadyH.nil
        go_simp
        go_at_call 69
        refine (OO.out.1 _).mono ?_; rintro e w' ⟨rfl, bd⟩
        have KS := Lib.hid (raceS_keep bd hHeld); clear hHeld bd
        go_wp2_with fail
        refine hK.out _ _ KS.out (fun hHeld => ?_)
        clear hK K KS
        (try simp only [List.getElem_toArray, List.getElem_cons_succ, List.getElem_cons_zero, Act.put, List.setIfInBounds_toArray, List.set_cons_zero, List.set_cons_succ])
        (refine wpAnyH_take (i := 5) (v := ?_) rfl (by kernel_rfl) (by kernel_rfl) (by kernel_rfl) (fun _ _ _ h => h) (Or.inl ⟨by kernel_rfl, ?_⟩) (by assumption) ?_; rotate_left; focus (intro w hSw; (try dsimp only at hSw); go_simp; try with_reducible rfl); (try simp only [List.getElem_toArray, List.getElem_cons_succ, List.getElem_cons_zero, Act.put, List.setIfInBounds_toArray, List.set_cons_zero, List.set_cons_succ])); (refine wpAnyH_take (i := 6) (v := ?_) rfl (by kernel_rfl) (by kernel_rfl) (by kernel_rfl) (fun _ _ _ h => h) (Or.inl ⟨by kernel_rfl, ?_⟩) (by assumption) ?_; rotate_left; focus (intro w hSw; (try dsimp only at hSw); go_simp; try with_reducible rfl); (try simp only [List.getElem_toArray, List.getElem_cons_succ, List.getElem_cons_zero, Act.put, List.setIfInBounds_toArray, List.set_cons_zero, List.set_cons_succ]))
        (refine wpAnyH_take (i := 7) (v := undef) rfl (by kernel_rfl) (by kernel_rfl) (by kernel_rfl) (fun _ _ _ h => h) (Or.inr ⟨by kernel_rfl, rfl⟩) (by assumption) ?_; (try simp only [List.getElem_toArray, List.getElem_cons_succ, List.getElem_cons_zero, Act.put, List.setIfInBounds_toArray, List.set_cons_zero, List.set_cons_succ])); (refine wpAnyH_take (i := 8) (v := undef) rfl (by kernel_rfl) (by kernel_rfl) (by kernel_rfl) (fun _ _ _ h => h) (Or.inr ⟨by kernel_rfl, rfl⟩) (by assumption) ?_; (try simp only [List.getElem_toArray, List.getElem_cons_succ, List.getElem_cons_zero, Act.put, List.setIfInBounds_toArray, List.set_cons_zero, List.set_cons_succ])); (refine wpAnyH_take (i := 9) (v := undef) rfl (by kernel_rfl) (by kernel_rfl) (by kernel_rfl) (fun _ _ _ h => h) (Or.inr ⟨by kernel_rfl, rfl⟩) (by assumption) ?_; (try simp only [List.getElem_toArray, List.getElem_cons_succ, List.getElem_cons_zero, Act.put, List.setIfInBounds_toArray, List.set_cons_zero, List.set_cons_succ])); (refine wpAnyH_take (i := 10) (v := undef) rfl (by kernel_rfl) (by kernel_rfl) (by kernel_rfl) (fun _ _ _ h => h) (Or.inr ⟨by kernel_rfl, rfl⟩) (by assumption) ?_; (try simp only [List.getElem_toArray, List.getElem_cons_succ, List.getElem_cons_zero, Act.put, List.setIfInBounds_toArray, List.set_cons_zero, List.set_cons_succ])); (refine wpAnyH_take (i := 11) (v := undef) rfl (by kernel_rfl) (by kernel_rfl) (by kernel_rfl) (fun _ _ _ h => h) (Or.inr ⟨by kernel_rfl, rfl⟩) (by assumption) ?_; (try simp only [List.getElem_toArray, List.getElem_cons_succ, List.getElem_cons_zero, Act.put, List.setIfInBounds_toArray, List.set_cons_zero, List.set_cons_succ])); (refine wpAnyH_take (i := 12) (v := undef) rfl (by kernel_rfl) (by kernel_rfl) (by kernel_rfl) (fun _ _ _ h => h) (Or.inr ⟨by kernel_rfl, rfl⟩) (by assumption) ?_; (try simp only [List.getElem_toArray, List.getElem_cons_succ, List.getElem_cons_zero, Act.put, List.setIfInBounds_toArray, List.set_cons_zero, List.set_cons_succ]))
        (refine wpAnyH_take (i := 13) (v := ?_) rfl (by kernel_rfl) (by kernel_rfl) (by kernel_rfl) (fun _ _ _ h => h) (Or.inl ⟨by kernel_rfl, ?_⟩) (by assumption) ?_; rotate_left; focus (intro w hSw; (try dsimp only at hSw); go_simp; try with_reducible rfl); (try simp only [List.getElem_toArray, List.getElem_cons_succ, List.getElem_cons_zero, Act.put, List.setIfInBounds_toArray, List.set_cons_zero, List.set_cons_succ]))
        refine wpAnyH_done (by kernel_rfl) ?_ _
        have KS := Lib.hid hHeld; clear hHeld
        go_wp2_with fail
        go_roundw
        case rel => exact ⟨.inr (.inr ⟨rfl, HA, HN⟩), KS.out⟩
        case measure => simp [intOf]
    · have hv : res = ⟨#[]⟩ := by rw [← HR.out, wonN, if_neg HA.out, if_neg HB.out]; rfl
      have HV := Lib.hid hv; clear hv
      go_wp2_with fail
      go_ret
      exact ⟨by rw [HV.out]; rfl, s7⟩

end Go.Proofs.YtgkkjlpfkoplhaaGreatDoor
