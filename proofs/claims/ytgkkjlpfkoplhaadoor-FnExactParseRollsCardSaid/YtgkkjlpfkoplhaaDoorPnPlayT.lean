/-
  Pins: the model's way through rolls.
-/
import Derived.Test.YtgkkjlpfkoplhaaDoorPnRoll
import Derived.Test.YtgkkjlpfkoplhaaDoorPnSheet
namespace Go.Proofs.YtgkkjlpfkoplhaaDoor
open Go.RowKit
set_option linter.unusedVariables false
set_option linter.unusedSimpArgs false

def PlaceG (F : Nat) (s : St) (w : World) (e : Ending) (w' : World) : Prop := PlaceR (frA F s) (bsA F s) (stA F s) (overG F s) w e w'

theorem roll_any (F : Nat) (h1 : 1 ≤ F) (h2 : F ≤ 10) (s : St) (p : Int) (hi : InvG F s) (hf : fitsG F s p = true) (a : Option Addr) (c : Nat) (w : World) (h : Reads w a (ints s.2)) :
    Calls Tryd.prog 33 #[.int .i64 F, .agg #[.int .i64 s.1.length, .slice a s.2.length c, .int .i64 (leftP s.2), .bool false], .int .i64 p] w fun e w' => PlaceG F (stepG F s p) w e w' := by
  obtain ⟨ho, hp0, hp1⟩ := fits_parts hf
  have hlt := over_false hi ho
  have hop := inv_open hi ho
  have hbd := leftP_bd s.2
  refine (roll_out F s.1.length h2 hlt s.2 (leftP s.2) p (open_len hop) (small_open hop).2 (by omega) ⟨hp0, hp1⟩ a c w h).mono ?_
  rintro e w' ⟨r1, r2, r3⟩
  unfold PlaceG
  cases hl : lastG F s
  · have hd : s.1.length + 1 < F := by simp [lastG] at hl; omega
    obtain ⟨m1, m2⟩ := roll_mid hi hf hl
    by_cases hc : leftP s.2 - p = 0 ∨ s.2.length + 1 = 2
    · obtain ⟨e1, e2⟩ := m1 hc
      have := r1 hd hc
      have f1 : frA F (stepG F s p) = s.1.length + 1 := by unfold frA; rw [e2, e1]; simp
      have f2 : bsA F (stepG F s p) = [] := by unfold bsA; rw [e2, e1]; simp
      have f3 : stA F (stepG F s p) = 10 := by unfold stA; rw [f2]; rfl
      rw [f1, f2, f3, e2]
      exact this
    · obtain ⟨e1, e2⟩ := m2 hc
      have := r2 hd hc
      have e3 : overG F (stepG F s p) = false := by rw [e1]; simpa [overG] using ho
      have f1 : frA F (stepG F s p) = s.1.length := by unfold frA; rw [e3, e1]; simp
      have f2 : bsA F (stepG F s p) = s.2 ++ [p] := by unfold bsA; rw [e3, e1]; simp
      have f3 : stA F (stepG F s p) = leftP s.2 - p := by unfold stA; rw [f2, e2]
      rw [f1, f2, f3, e3]
      exact this
  · have hd : ¬ s.1.length + 1 < F := by simp [lastG] at hl; omega
    obtain ⟨g1, g2, g3, g4⟩ := roll_last hi hf hl
    have := r3 hd
    rw [g1, g2, g3, g4]
    exact this

set_option maxHeartbeats 800000 in
theorem boStart_any (w : World) :
    Calls Tryd.prog 32 #[] w fun e w' => e = .returned (.agg #[.int .i64 0, .slice none 0 0, .int .i64 10, .bool false]) ∧ Below w.heap.size w w' := by
  go_enter Tryd.func32, Tryd.ntmps32
  go_wp2
  refine bodyPost_ret (v := .agg #[.int .i64 0, .slice none 0 0, .int .i64 10, .bool false]) (by simp [results, Tryd.results32, go_sem]) rfl ⟨rfl, ?_⟩
  (repeat (first | exact Below.refl _ _ | exact ‹Below _ _ _› | refine Below.drew ?_ | refine Below.alloc ?_ (by first | omega | (simp; done) | (simp; omega)) _ | refine Below.setCell ?_ (by first | omega | (simp; done) | (simp; omega)) _ | refine Below.trans ?_ (Below.mono ‹Below _ _ _› (by first | omega | (simp; done) | (simp; omega)))))

def PlayA (F : Nat) (rolls : List Int) (w : World) (g4 g6 k : Nat) (wr : World) : Prop :=
  ∃ s a c, InvG F s ∧ gameG F s (rolls.drop k) = gameG F ([], []) rolls ∧ BoAt wr g6 (frA F s) (.slice a (bsA F s).length c) (stA F s) (overG F s) ∧ Reads wr a (ints (bsA F s)) ∧
    (∀ b off, a = some ⟨b, off, none⟩ → b ≠ g4 ∧ b ≠ g6) ∧ BoAt wr g4 0 (.slice none 0 0) 0 false ∧ Below w.heap.size w wr

/-- What boPlay hands back: the place, and whether there were rolls. -/
def PlayR (F : Nat) (o : Option St) (w : World) (e : Ending) (w' : World) : Prop :=
  (∀ s, o = some s → ∃ a c, e = .returned (.tuple #[.agg #[.int .i64 (frA F s), .slice a (bsA F s).length c, .int .i64 (stA F s), .bool (overG F s)], .bool true]) ∧ Reads w' a (ints (bsA F s))) ∧
  (o = none → ∃ fr a n c st ov, e = .returned (.tuple #[.agg #[.int .i64 fr, .slice a n c, .int .i64 st, .bool ov], .bool false])) ∧ Below w.heap.size w w'

theorem start_place (F : Nat) (h1 : 1 ≤ F) : frA F ([], []) = 0 ∧ bsA F ([], []) = [] ∧ stA F ([], []) = 10 ∧ overG F ([], []) = false := by
  have ho : overG F ([], []) = false := by simp [overG]; omega
  refine ⟨by simp [frA, ho], by simp [bsA, ho], by simp [stA, bsA, ho, leftP], ho⟩
theorem fits_in {F : Nat} {s : St} {p : Int} (ho : overG F s = false) : fitsG F s p = inR p 0 (leftP s.2) := by
  simp [fitsG, inR, ho]

set_option maxHeartbeats 800000 in
theorem boFrames_any (f : Int) (w : World) :
    Calls Tryd.prog 31 #[.int .i64 f] w fun e w' => e = .returned (.bool (inR f 1 10)) ∧ w = w' := by
  go_enter Tryd.func31, Tryd.ntmps31
  go_wp2_with fail
  refine (l1In_any _ _ _ _).mono ?_; rintro e w1 ⟨rfl, rfl⟩
  go_wp2_with fail
  go_ret
  exact ⟨rfl, rfl⟩

theorem inR_frames {f : Int} : inR f 1 10 = true ↔ 1 ≤ f ∧ f ≤ 10 := by simp [inR]

end Go.Proofs.YtgkkjlpfkoplhaaDoor
