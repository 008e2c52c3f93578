/-
  Puzzles: the door behind which a clue that is none is caught.
-/
import Derived.Test.YtbgdngfjeikheaaDoorPzRaise
namespace Go.Proofs.YtbgdngfjeikheaaDoor
open Go.RowKit
set_option linter.unusedVariables false
set_option linter.unusedSimpArgs false

theorem isClueV (v : Value) (xT : TypeId) (w : World) : (Instr.typeAssert (.iface 75 v) xT 75 true).run Tryd.prog w = .ok (.tuple #[v, .bool true]) w := by kernel_rfl
theorem isClueNil (xT : TypeId) (w : World) : (Instr.typeAssert .nilIface xT 75 true).run Tryd.prog w = .ok (.tuple #[.agg #[.int .i64 0, .int .i64 0, .int .i64 0], .bool false]) w := by kernel_rfl

theorem are_panicking (p : Addr) (old : Value) (c : Cl) (older : List PanicEntry) (w : World) (hc : w.cell? p = some old) (hz : w.frozen? p = false) :
    CallsD Tryd.prog 152 #[.pointer (some p)] (.panicking ({ v := .iface 75 (clueV c), recovered := false } :: older)) w fun e u' w' =>
      e = .returned (.tuple #[]) ∧ u' = .panicking ({ v := .iface 75 (clueV c), recovered := true } :: older) ∧ w' = (w.alloc (.cells #[.int .i64 c.1, .int .i64 c.2.1, .int .i64 c.2.2] 75)).setCell p (.bool false) := by
  have ha := isClueV (clueV c)
  unfold clueV at ha
  have hb := Below.ofNew (w := w) (.cells #[.int .i64 c.1, .int .i64 c.2.1, .int .i64 c.2.2] 75)
  have hlt := World.block_lt_of_cell? w _ hc
  have hc2 := hb.cell hlt
  have hz2 := hb.frozen hlt
  rw [hc] at hc2
  rw [hz] at hz2
  refine callsD_of_wpS Tryd.func152 rfl fun c₀ cs hu => ?_
  apply wpS_seq
  apply wpS_region
  simp [wpOpsS, go_sem, recoverD, hu, Tryd.ntmps152, Exit.thenS, ha, clueV]
  apply wpS_region
  simp [wpOpsS, go_sem, hc2, hz2, bodyPostS, results, Tryd.results152]

theorem are_idle (p : Addr) (old : Value) (w : World) (hc : w.cell? p = some old) (hz : w.frozen? p = false) :
    CallsD Tryd.prog 152 #[.pointer (some p)] .returning w fun e u' w' =>
      e = .returned (.tuple #[]) ∧ u' = .returning ∧ w' = (w.alloc (.cells #[.int .i64 0, .int .i64 0, .int .i64 0] 75)).setCell p (.bool true) := by
  have ha := isClueNil
  have hb := Below.ofNew (w := w) (.cells #[.int .i64 0, .int .i64 0, .int .i64 0] 75)
  have hlt := World.block_lt_of_cell? w _ hc
  have hc2 := hb.cell hlt
  have hz2 := hb.frozen hlt
  rw [hc] at hc2
  rw [hz] at hz2
  refine callsD_of_wpS Tryd.func152 rfl fun c₀ cs hu => ?_
  apply wpS_seq
  apply wpS_region
  simp [wpOpsS, go_sem, recoverD, hu, Tryd.ntmps152, Exit.thenS, ha]
  apply wpS_region
  simp [wpOpsS, go_sem, hc2, hz2, bodyPostS, results, Tryd.results152, hu]
  cases c₀
  simp_all

set_option maxHeartbeats 1600000 in
theorem areClues_any (p : Int) (l : List Cl) (ad : Option Addr) (cp : Nat) (w : World) (hp : 1 ≤ p ∧ p ≤ 8) (hl : (l.length : Int) ≤ 1000000000000) (hr : Reads w ad (clus l)) :
    Calls Tryd.prog 115 #[.int .i64 p, .slice ad l.length cp] w fun e w' => e = .returned (.bool (goodCs p l)) ∧ Below w.heap.size w w' := by
  have hmf : ∀ (fn : Fn) (first cap : Array Value) (w : World), (Instr.makeFunc fn first cap).run Tryd.prog w = .ok (.func fn first cap) w := fun _ _ _ _ => rfl
  obtain ⟨W1, hW1⟩ : ∃ W1, W1 = w.alloc (.cells #[.bool false] 4) := ⟨_, rfl⟩
  have hA : ObAt W1 w.heap.size 4 #[.bool false] := by rw [hW1]; exact ObAt.new _ _ _
  have hB : Below w.heap.size w W1 := by rw [hW1]; exact Below.ofNew _
  have K := Lib.hid (And.intro hA (And.intro hB (raiseNoClue_any p l ad cp W1 hp hl (hr.old hB)))); clear hA hB hr
  have HW := Lib.hid hW1.symm; clear hW1
  cases hg : goodCs p l with
  | true =>
    have HE := Lib.hid (raise_ok hg); clear hg
    go_enter_defers Tryd.func115, Tryd.ntmps115
    go_wp2_with fail
    rw [HW.out]
    refine K.out.2.2.mono ?_; rintro e w2 ⟨rfl, bd⟩
    rw [HE.out]
    have A2 := K.out.1.keep bd
    have c2 := A2.cell 0
    have f2 := A2.free 0
    have HB := Lib.hid (And.intro A2 (K.out.2.1.trans (bd.mono K.out.2.1.size))); clear bd A2
    go_wp2_with fail
    have A3 := HB.out.1.put 0 (.bool true)
    have c3 := A3.cell 0
    have f3 := A3.free 0
    refine leaves_cons (f := 152) (args := #[.pointer (some ⟨w.heap.size, 0, none⟩)]) (by simp) (by simp [go_sem]) ?_
    refine (are_idle ⟨w.heap.size, 0, none⟩ _ _ c3 f3).mono ?_
    rintro e u' w'' ⟨rfl, rfl, rfl⟩
    have A4 := (A3.old (.cells #[.int .i64 0, .int .i64 0, .int .i64 0] 75)).put 0 (.bool true)
    have c4 := A4.cell 0
    have hbel := ((HB.out.2.setCell (p := ⟨w.heap.size, 0, none⟩) (Nat.le_refl _) (.bool true)).alloc (HB.out.2.setCell (p := ⟨w.heap.size, 0, none⟩) (Nat.le_refl _) (.bool true)).size (.cells #[.int .i64 0, .int .i64 0, .int .i64 0] 75)).setCell (p := ⟨w.heap.size, 0, none⟩) (Nat.le_refl _) (.bool true)
    simp [Leaves, settle, results, Tryd.results115, go_sem, c4]
    exact hbel
  | false =>
    have he : ∃ c : Cl, raiseE p l = .panicked [{ v := .iface 75 (clueV c), recovered := false }] := by
      unfold raiseE
      cases hf : l.find? fun c => !goodC p c with
      | some c => exact ⟨c, rfl⟩
      | none =>
        rw [List.find?_eq_none] at hf
        have : goodCs p l = true := by
          simp only [goodCs, List.all_eq_true]
          intro c hc; simpa using hf c hc
        rw [this] at hg; cases hg
    obtain ⟨c, he⟩ := he
    have HE := Lib.hid he; clear hg he
    go_enter_defers Tryd.func115, Tryd.ntmps115
    go_wp2_with fail
    rw [HW.out]
    refine K.out.2.2.mono ?_; rintro e w2 ⟨rfl, bd⟩
    rw [HE.out]
    have A2 := K.out.1.keep bd
    have c2 := A2.cell 0
    have f2 := A2.free 0
    have HB := Lib.hid (And.intro A2 (K.out.2.1.trans (bd.mono K.out.2.1.size))); clear bd A2
    go_wp2_with fail
    refine leaves_cons (f := 152) (args := #[.pointer (some ⟨w.heap.size, 0, none⟩)]) (by simp) (by simp [go_sem]) ?_
    refine (are_panicking ⟨w.heap.size, 0, none⟩ _ c _ _ c2 f2).mono ?_
    rintro e u' w'' ⟨rfl, rfl, rfl⟩
    have A4 := (HB.out.1.old (.cells #[.int .i64 c.1, .int .i64 c.2.1, .int .i64 c.2.2] 75)).put 0 (.bool false)
    have c4 := A4.cell 0
    have hbel := (HB.out.2.alloc HB.out.2.size (.cells #[.int .i64 c.1, .int .i64 c.2.1, .int .i64 c.2.2] 75)).setCell (p := ⟨w.heap.size, 0, none⟩) (Nat.le_refl _) (.bool false)
    simp [Leaves, settle, results, Tryd.results115, go_sem, c4]
    exact hbel
end Go.Proofs.YtbgdngfjeikheaaDoor
