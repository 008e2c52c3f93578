/-
  Tennis: the fewest points to a set: the program, for all arguments.
-/
import Derived.Test.YtbgdngfjeikheabDoorTnFewI
namespace Go.Proofs.YtbgdngfjeikheabDoor
open Go.RowKit
set_option linter.unusedVariables false
set_option linter.unusedSimpArgs false

theorem fw_start (s : ByteArray) (c : UInt8) (hc : c = 97 ∨ c = 98) (hg : goodB s = true) :
    FwI c (fewVS s c) (fewOS s c) 0 (cntA (gamesL s)) (cntB (gamesL s)) (nextS (wayS s)).1 (nextS (wayS s)).2 ∧ fewVS s c ≤ 1000 ∧ (fewOS s c = false → fewVS s c = 0) := by
  have hlen := good_len hg
  obtain ⟨inr, inl, ino, i1, i2, i3, i4⟩ := games_inv s
  have hbd := near_bd inr
  cases hx : (wayS s).2.2 with
  | none =>
    have hv : fewVS s c = 0 := by unfold fewVS; rw [hx]
    have ho : fewOS s c = decide (winW (cntA (gamesL s)) (cntB (gamesL s)) = ⟨#[c]⟩) := by unfold fewOS; rw [hx]
    have hnx : nextS (wayS s) = (0, 0) := by unfold nextS; rw [hx]; rfl
    rw [hx] at ino
    have hov : overB (cntA (gamesL s)) (cntB (gamesL s)) = true := ino
    rw [hv, ho, hnx]
    refine ⟨⟨14, inr, by omega, ?_, fun e => ?_, fun _ => rfl, by decide, by decide, by decide, by decide, by decide⟩, by decide, fun _ => rfl⟩
    · rw [few_over inr hov]; rfl
    · rw [hov] at e; exact absurd e (by simp)
  | some p =>
    obtain ⟨x, y⟩ := p
    have hv : fewVS s c = fewS 14 (cntA (gamesL s)) (cntB (gamesL s)) x y c := by unfold fewVS; rw [hx]
    have ho : fewOS s c = true := by unfold fewOS; rw [hx]
    have hnx : nextS (wayS s) = (x, y) := by unfold nextS; rw [hx]; rfl
    rw [hx] at ino
    have hov : overB (cntA (gamesL s)) (cntB (gamesL s)) = false := ino
    have hwy : wayS s = (gamesL s, (wayS s).2.1, some (x, y)) := by
      have : wayS s = ((wayS s).1, (wayS s).2.1, (wayS s).2.2) := rfl
      rw [hx] at this; exact this
    have h0 : wayN s c 0 = (gamesL s, (wayS s).2.1, some (x, y)) := by rw [wayN_0]; exact hwy
    rw [hnx] at i1 i2 i3 i4 ⊢
    simp only at i1 i2 i3 i4 ⊢
    have hfb := few_bd (f := 14) (a := cntA (gamesL s)) (b := cntB (gamesL s)) (c := c) i1 (by omega) i3 (by omega) (Nat.le_refl _)
    rw [ho]
    refine ⟨⟨14, inr, by omega, by rw [hv]; omega, fun _ => ⟨rfl, (wayN_step h0).1.race⟩, fun e => ?_, i1, by omega, i3, by omega, by decide⟩, by rw [hv]; omega, fun e => absurd e (by simp)⟩
    rw [hov] at e; exact absurd e (by simp)

set_option maxHeartbeats 1600000 in
theorem implFewestToSet_any (s d : ByteArray) (p0 p1 : Addr) (w : World) (hs : (s.size : Int) ≤ 1000000000000) (L : Laid w p0 p1) :
    Calls Tryd.prog 30 #[.string s, .string d] w fun e w' => e = .returned (.tuple #[.int .i64 (fewV s d), .bool (fewOk s d)]) ∧ Below w.heap.size w w' := by
  cases hg : goodB s
  · rw [(few_bad (.inl hg)).1, (few_bad (.inl hg)).2]
    have HP := Lib.hid (playSet_bad s p0 p1 w hs L hg)
    clear hg L
    go_enter Tryd.func30, Tryd.ntmps30
    go_wp2_with fail
    refine HP.out.mono ?_; rintro e w1 ⟨rfl, b1⟩
    have HB1 := Lib.hid (b1.alloc b1.size (.cells #[.string ⟨#[]⟩, .int .i64 0, .int .i64 0] 66)); clear b1
    go_wp2_with fail
    refine bodyPost_ret (v := .tuple #[.int .i64 0, .bool false]) (by simp [results, Tryd.results30, go_sem]) rfl ⟨rfl, HB1.out⟩
  · have side : ∀ c : UInt8, (c = 97 ∨ c = 98) → Calls Tryd.prog 30 #[.string s, .string ⟨#[c]⟩] w fun e w' => e = .returned (.tuple #[.int .i64 (fewVS s c), .bool (fewOS s c)]) ∧ Below w.heap.size w w' := fun c hc => by
      obtain ⟨f1, f2, f3⟩ := fw_start s c hc hg
      exact implFewS_any s ⟨(gamesL s).toArray⟩ c hc _ _ _ _ _ _ p0 p1 w (Lib.hid (fun w L => playSet_good s p0 p1 w L hg)) (Lib.hid (fun w => sidesG_any s w)) (Lib.hid f1) f2 (Lib.hid f3) L
    by_cases da : d = ⟨#[97]⟩
    · subst da
      rw [(few_good (.inl rfl) hg).1, (few_good (.inl rfl) hg).2]
      exact side 97 (.inl rfl)
    by_cases db : d = ⟨#[98]⟩
    · subst db
      rw [(few_good (.inr rfl) hg).1, (few_good (.inr rfl) hg).2]
      exact side 98 (.inr rfl)
    have hb : sideB d = false := by
      cases hb : sideB d
      · rfl
      · rcases sideB_true.1 hb with h | h
        · exact absurd h da
        · exact absurd h db
    rw [(few_bad (.inr hb)).1, (few_bad (.inr hb)).2]
    have HP := Lib.hid (playSet_good s p0 p1 w L hg)
    have HSD := Lib.hid (fun W => isSideS_any d W)
    rw [hb] at HSD
    clear hb da db hg L side
    generalize gamesL s = G at *
    generalize nextS (wayS s) = nx at *
    go_enter Tryd.func30, Tryd.ntmps30
    go_wp2_with fail
    refine HP.out.mono ?_; rintro e w1 ⟨rfl, b1⟩
    have HB1 := Lib.hid (b1.alloc b1.size (.cells #[.string ⟨G.toArray⟩, .int .i64 nx.1, .int .i64 nx.2] 66)); clear b1
    go_wp2_with fail
    refine (HSD.out _).mono ?_; rintro e w2 ⟨rfl, rfl⟩
    go_wp2_with fail
    refine bodyPost_ret (v := .tuple #[.int .i64 0, .bool false]) (by simp [results, Tryd.results30, go_sem]) rfl ⟨rfl, HB1.out⟩

end Go.Proofs.YtbgdngfjeikheabDoor
