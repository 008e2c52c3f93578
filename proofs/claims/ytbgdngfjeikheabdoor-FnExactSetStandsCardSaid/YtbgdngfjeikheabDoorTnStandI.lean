/-
  Tennis: how a game stands: the program's text.
-/
import Derived.Test.YtbgdngfjeikheabDoorTnStand
import Derived.Test.YtbgdngfjeikheabDoorTnRace2
import Derived.Test.YtbgdngfjeikheabDoorTnGames
import Derived.WalkLawsBesides
namespace Go.Proofs.YtbgdngfjeikheabDoor
open Go.RowKit

theorem pairS_keep {B : Nat} {w0 w w' : World} {h : Nat} {a b : Int} (hb : Below w.heap.size w w') (h0 : w.cell? ⟨h, 0, none⟩ = some (.int .i64 a) ∧ w.cell? ⟨h, 1, none⟩ = some (.int .i64 b) ∧ h < w.heap.size ∧ B ≤ w.heap.size ∧ Below B w0 w) :
    w'.cell? ⟨h, 0, none⟩ = some (.int .i64 a) ∧ w'.cell? ⟨h, 1, none⟩ = some (.int .i64 b) ∧ h < w'.heap.size ∧ B ≤ w'.heap.size ∧ Below B w0 w' := by
  have := hb.size
  obtain ⟨c2, c3, hh, hB, hw⟩ := h0
  exact ⟨by rw [hb.cell (p := ⟨h, 0, none⟩) hh]; exact c2, by rw [hb.cell (p := ⟨h, 1, none⟩) hh]; exact c3, by omega, by omega, hw.trans (hb.mono hB)⟩

set_option maxRecDepth 100000 in
set_option maxHeartbeats 3200000 in
theorem gameStand_any (a b : Int) (w : World) (ok : okStand a b) :
    Calls Tryd.prog 61 #[.agg #[.int .i64 a, .int .i64 b]] w fun e w' => e = .returned (.string ⟨(standL a b).toArray⟩) ∧ Below w.heap.size w w' := by
  obtain ⟨a0, b0, a9, b9⟩ := ok
  have hwr := fun w => winnerOfRace_any 4 a b w a0 a9 b0 b9
  have g0 : (w.alloc (.cells #[.int .i64 a, .int .i64 b] 63)).cell? ⟨w.heap.size, 0, none⟩ = some (.int .i64 a) := cell_of_row _ _ 0 _ _ _ (heap_alloc_last w _)
  have g1 : (w.alloc (.cells #[.int .i64 a, .int .i64 b] 63)).cell? ⟨w.heap.size, 1, none⟩ = some (.int .i64 b) := cell_of_row _ _ 1 _ _ _ (heap_alloc_last w _)
  have g2 : w.heap.size < (w.alloc (.cells #[.int .i64 a, .int .i64 b] 63)).heap.size := by simp
  have g3 : Below w.heap.size w (w.alloc (.cells #[.int .i64 a, .int .i64 b] 63)) := (Below.refl _ _).alloc (Nat.le_refl _) _
  have hv : standL a b = if wonN 4 a b = 1 then [97] else if wonN 4 a b = 2 then [98] else if min a b < 3 then nmL a.toNat ++ [58] ++ nmL b.toNat else if b < a then [65] else if a < b then [66] else [61] := rfl
  have HV := Lib.hid hv; clear hv
  have h1 := won_1 (to := 4) (a := a) (b := b)
  have h2 := won_2 (to := 4) (a := a) (b := b)
  have h3 : wonN 4 a b = 0 ∨ wonN 4 a b = 1 ∨ wonN 4 a b = 2 := by unfold wonN; split <;> (try split) <;> simp
  have HH := Lib.hid (And.intro h1 (And.intro h2 h3)); clear h1 h2 h3
  generalize wonN 4 a b = n at *
  have HW := Lib.hid hwr; clear hwr
  generalize hw1 : w.alloc (.cells #[.int .i64 a, .int .i64 b] 63) = w1 at *
  have HW1 := Lib.hid hw1; clear hw1
  generalize hg : w.heap.size = g at *
  have HG := Lib.hid hg; clear hg
  have gg : g ≤ w1.heap.size := Nat.le_of_lt g2
  generalize hres : standL a b = res at *
  go_enter Tryd.func61, Tryd.ntmps61
  go_wp2_with fail
  rw [HG.out, HW1.out]
  go_region_held3 (fun w' => w'.cell? ⟨g, 0, none⟩ = some (.int .i64 a) ∧ w'.cell? ⟨g, 1, none⟩ = some (.int .i64 b) ∧ g < w'.heap.size ∧ g ≤ w'.heap.size ∧ Below g w w')
    (first | (go_keep; done) | (exact ⟨by simpa using g0, by simpa using g1, by simpa using g2, by simpa using gg, Below.drew g3⟩) | (go_split_ands; exact pairS_keep (by assumption) ⟨by assumption, by assumption, by assumption, by assumption, by assumption⟩))
    (first | (go_at_call 100; refine (tennisGame_any _).mono ?_; rintro e w' ⟨rfl, bd⟩) | (go_at_call 93; refine (HW.out _).mono ?_; rintro e w' ⟨rfl, bd⟩))
  clear g0 g1 g2 g3 gg
  rename_i w2 _ hs
  obtain ⟨s0, s1, s2, s3, s4⟩ := hs
  rcases HH.out.2.2 with h | h | h
  · subst h
    rw [show sideS 0 = ⟨#[]⟩ from rfl]
    have n1 : ¬ (4 ≤ a ∧ 2 ≤ a - b) := fun e => absurd (HH.out.1.2 e) (by decide)
    have n2 : ¬ (4 ≤ b ∧ 2 ≤ b - a) := fun e => absurd (HH.out.2.1.2 ⟨n1, e⟩) (by decide)
    have hr : res = if min a b < 3 then nmL a.toNat ++ [58] ++ nmL b.toNat else if b < a then [65] else if a < b then [66] else [61] := HV.out
    by_cases r : min a b < 3
    · rw [if_pos r] at hr
      obtain ⟨x, rfl⟩ : ∃ x : Nat, a = x := ⟨a.toNat, by omega⟩
      obtain ⟨y, rfl⟩ : ∃ y : Nat, b = y := ⟨b.toNat, by omega⟩
      rw [show ((x : Int)).toNat = x from by omega, show ((y : Int)).toNat = y from by omega] at hr
      have x4 : x < 4 := by omega
      have y4 : y < 4 := by omega
      have HR := Lib.hid hr; clear hr hres HV
      have hl1 := nmL_len x
      have hl2 := nmL_len y
      have c1 : ∀ (w : World) (T : TypeId), (w.alloc (.cells #[.string ⟨#[48]⟩, .string ⟨#[49, 53]⟩, .string ⟨#[51, 48]⟩, .string ⟨#[52, 48]⟩] T)).cell? ⟨w.heap.size, x, none⟩ = some (.string ⟨(nmL x).toArray⟩) := fun w T =>
        (cell_of_row _ _ _ namesC _ _ (heap_alloc_last w _)).trans (namesC_get x x4)
      have c2 : ∀ (w : World) (T : TypeId), (w.alloc (.cells #[.string ⟨#[48]⟩, .string ⟨#[49, 53]⟩, .string ⟨#[51, 48]⟩, .string ⟨#[52, 48]⟩] T)).cell? ⟨w.heap.size, y, none⟩ = some (.string ⟨(nmL y).toArray⟩) := fun w T =>
        (cell_of_row _ _ _ namesC _ _ (heap_alloc_last w _)).trans (namesC_get y y4)
      generalize nmL x = n1 at *
      generalize nmL y = n2 at *
      have d1 : ∀ W : World, (Op.stringOp .add ⟨n1.toArray⟩ ⟨#[58]⟩).run Tryd.prog W = .ok (.string ⟨(n1 ++ [58]).toArray⟩) W := fun W => run_string_add_lists W n1 [58] (by omega) (by simp)
      have d2 : ∀ W : World, (Op.stringOp .add ⟨(n1 ++ [58]).toArray⟩ ⟨n2.toArray⟩).run Tryd.prog W = .ok (.string ⟨(n1 ++ [58] ++ n2).toArray⟩) W := fun W => run_string_add_lists W (n1 ++ [58]) n2 (by simp; omega) (by omega)
      have i1 : (x : Int) < 4 := by omega
      have i2 : (y : Int) < 4 := by omega
      generalize n1 ++ [58] = n3 at *
      clear HH hl1 hl2
      go_wp2_with fail
      go_quiet (fail)
      go_wp2
      go_ret
      exact ⟨by rw [HR.out]; rfl, below_drewN (s4.alloc s3 _) _⟩
    · rw [if_neg r] at hr
      have HR := Lib.hid hr; clear hr hres HV
      clear n1 n2 HH
      go_wp2_with fail
      · go_ret
        exact ⟨by rw [HR.out, if_pos (by assumption)]; rfl, s4⟩
      · go_ret
        exact ⟨by rw [HR.out, if_neg (by omega), if_pos (by assumption)]; rfl, s4⟩
      · go_ret
        exact ⟨by rw [HR.out, if_neg (by omega), if_neg (by omega)]; rfl, s4⟩
  · subst h
    have hr : res = [97] := HV.out
    have HR := Lib.hid hr; clear hr hres HV
    rw [show sideS 1 = ⟨#[97]⟩ from rfl]
    go_wp2_with fail
    go_ret
    exact ⟨by rw [HR.out]; rfl, s4⟩
  · subst h
    have hr : res = [98] := HV.out
    have HR := Lib.hid hr; clear hr hres HV
    rw [show sideS 2 = ⟨#[98]⟩ from rfl]
    go_wp2_with fail
    go_ret
    exact ⟨by rw [HR.out]; rfl, s4⟩

end Go.Proofs.YtbgdngfjeikheabDoor
