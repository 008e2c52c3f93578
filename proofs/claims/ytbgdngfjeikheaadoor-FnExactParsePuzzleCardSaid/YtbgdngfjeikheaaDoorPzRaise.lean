/-
  Puzzles: the clue that is none, raised; the door behind which it is caught.
-/
import Derived.Test.YtbgdngfjeikheaaDoorPzA
import Derived.Defers
import Derived.Recover
import Derived.Stop.Asserts
import Derived.Deep.CutRange
namespace Go.Proofs.YtbgdngfjeikheaaDoor
open Go.RowKit
set_option linter.unusedVariables false
set_option linter.unusedSimpArgs false

def clueV (c : Cl) : Value := .agg #[.int .i64 c.1, .int .i64 c.2.1, .int .i64 c.2.2]
/-- How the look at clues ends: with the first one that is none. -/
def raiseE (p : Int) (l : List Cl) : Ending :=
  match l.find? fun c => !goodC p c with
  | none => .returned (.tuple #[])
  | some c => .panicked [{ v := .iface 75 (clueV c), recovered := false }]
theorem raise_ok {p : Int} {l : List Cl} (h : goodCs p l = true) : raiseE p l = .returned (.tuple #[]) := by
  have : (l.find? fun c => !goodC p c) = none := by
    rw [List.find?_eq_none]
    intro c hc
    simp only [goodCs, List.all_eq_true] at h
    simp [h c hc]
  unfold raiseE; rw [this]
theorem raise_bad {p : Int} {l : List Cl} {k : Nat} (hk : k < l.length) (h : goodCs p (l.take k) = true) (e : goodC p (l.getD k zC) = false) :
    raiseE p l = .panicked [{ v := .iface 75 (clueV (l.getD k zC)), recovered := false }] := by
  have : (l.find? fun c => !goodC p c) = some (l.getD k zC) := by
    have hl : l = l.take k ++ (l.getD k zC :: l.drop (k + 1)) := by
      conv => lhs; rw [← List.take_append_drop k l, List.drop_eq_getElem_cons hk]
      simp [hk]
    have hn : ((l.take k).find? fun c => !goodC p c) = none := by
      rw [List.find?_eq_none]
      intro c hc
      simp only [goodCs, List.all_eq_true] at h
      simp [h c hc]
    have hc : ∀ (x : Cl) (m : List Cl), goodC p x = false → ((x :: m).find? fun c => !goodC p c) = some x := fun x m hx => by
      rw [List.find?_cons]; simp only [hx]; rfl
    conv => lhs; rw [hl, List.find?_append, hn, hc _ _ e]
    rfl
  unfold raiseE; rw [this]

set_option maxHeartbeats 3200000 in
set_option maxRecDepth 100000 in
theorem raiseNoClue_any (p : Int) (l : List Cl) (ad : Option Addr) (cp : Nat) (w : World) (hp : 1 ≤ p ∧ p ≤ 8) (hl : (l.length : Int) ≤ 1000000000000) (hr : Reads w ad (clus l)) :
    Calls Tryd.prog 153 #[.int .i64 p, .slice ad l.length cp] w fun e w' => e = raiseE p l ∧ Below w.heap.size w w' := by
  have HR := Lib.hid hr; clear hr
  go_enter Tryd.func153, Tryd.ntmps153
  go_wp2_with fail
  go_loopw [9] (fun i wr => ∃ k : Nat, i = .int .i64 k ∧ k ≤ l.length ∧ Hid (goodCs p (l.take k) = true ∧ Below w.heap.size w wr)) (fun i _ => l.length - (intOf i).toNat)
  case atStart => exact ⟨0, rfl, Nat.zero_le _, rfl, Below.refl _ _⟩
  case round =>
    obtain ⟨k, rfl, hk, hH⟩ := hrel
    by_cases hlt : k < l.length
    · have b1 : (k : Int) < (l.length : Int) := by omega
      obtain ⟨b, off, ha, _, hc⟩ := ccells_of_reads (HR.out.old hH.out.2) (by omega)
      subst ha
      obtain ⟨c0, c1, c2⟩ := hc k hlt
      clear hc
      have hs := goodCs_snoc p l k hlt
      rw [hH.out.1, Bool.true_and] at hs
      have hno := fun e => raise_bad (p := p) hlt hH.out.1 e
      have HO := Lib.hid (And.intro hs hno); clear hs hno
      generalize l.getD k zC = r at *
      obtain ⟨x, y, z⟩ := r
      simp only at c0 c1 c2
      have hbx := hH.out.2.alloc hH.out.2.size (.cells #[.int .i64 x, .int .i64 y, .int .i64 z] 75)
      have HBX := Lib.hid hbx; clear hbx
      have HBO := Lib.hid (fun W => boundsOf_any p (x, y, z) W hp)
      have hbd : goodC p (x, y, z) = match bdC p x with | some (lo, hi, mb) => inP y lo hi && inP z 0 mb | none => false := rfl
      cases hq : bdC p x with
      | none =>
        have he : bdE p (x, y, z) = .panicked [{ v := .iface 75 (clueV (x, y, z)), recovered := false }] := by unfold bdE; simp only [hq]; rfl
        rw [he] at HBO
        rw [hq] at hbd
        have HF := Lib.hid (HO.out.2 hbd)
        clear hq hbd he
        go_wp2_with fail
        refine (HBO.out _).mono ?_; rintro e w2 ⟨rfl, b2⟩
        have HB2 := Lib.hid (HBX.out.trans (b2.mono HBX.out.size))
        go_wp2_with fail
        exact ⟨rfl, by rw [HF.out], HB2.out⟩
      | some q =>
        obtain ⟨lo, hi, mb⟩ := q
        have he : bdE p (x, y, z) = .returned (.agg #[.int .i64 lo, .int .i64 hi, .int .i64 mb]) := by unfold bdE; simp only [hq]
        rw [he] at HBO
        rw [hq] at hbd
        simp only at hbd
        clear hq he
        have hcs : (y < lo) ∨ (¬ y < lo ∧ hi < y) ∨ (¬ y < lo ∧ ¬ hi < y ∧ z < 0) ∨ (¬ y < lo ∧ ¬ hi < y ∧ ¬ z < 0 ∧ mb < z) ∨ (¬ y < lo ∧ ¬ hi < y ∧ ¬ z < 0 ∧ ¬ mb < z) := by omega
        rcases hcs with h1 | ⟨h1, h2⟩ | ⟨h1, h2, h3⟩ | ⟨h1, h2, h3, h4⟩ | ⟨h1, h2, h3, h4⟩
        iterate 4
          · have hb0 : goodC p (x, y, z) = false := by
              rw [hbd]
              cases hh : (inP y lo hi && inP z 0 mb) with
              | false => rfl
              | true => simp only [Bool.and_eq_true, inP_iff] at hh; omega
            have HF := Lib.hid (HO.out.2 hb0)
            clear hbd hb0 HO
            go_wp2_with fail
            refine (HBO.out _).mono ?_; rintro e w2 ⟨rfl, b2⟩
            have HB2 := Lib.hid ((HBX.out.trans (b2.mono HBX.out.size)).alloc (HBX.out.trans (b2.mono HBX.out.size)).size (.cells #[.int .i64 lo, .int .i64 hi, .int .i64 mb] 123))
            have A1 := (ObAt.new wr 75 #[.int .i64 x, .int .i64 y, .int .i64 z]).keep b2
            have A2 := A1.old (.cells #[.int .i64 lo, .int .i64 hi, .int .i64 mb] 123)
            have A3 := ObAt.new w2 123 #[.int .i64 lo, .int .i64 hi, .int .i64 mb]
            obtain ⟨q0, q1, q2, -, -, -⟩ := A2.three
            obtain ⟨r0, r1, r2, -, -, -⟩ := A3.three
            clear A1 A2 A3 b2 hH c0 c1 c2
            go_wp2_with fail
            exact ⟨rfl, by rw [HF.out]; rfl, HB2.out⟩
        · have hb0 : goodC p (x, y, z) = true := by
            rw [hbd]
            simp only [Bool.and_eq_true, inP_iff]; omega
          have HS := Lib.hid (HO.out.1.trans hb0)
          clear hbd hb0 HO
          go_wp2_with fail
          refine (HBO.out _).mono ?_; rintro e w2 ⟨rfl, b2⟩
          have HB2 := Lib.hid ((HBX.out.trans (b2.mono HBX.out.size)).alloc (HBX.out.trans (b2.mono HBX.out.size)).size (.cells #[.int .i64 lo, .int .i64 hi, .int .i64 mb] 123))
          have A1 := (ObAt.new wr 75 #[.int .i64 x, .int .i64 y, .int .i64 z]).keep b2
          have A2 := A1.old (.cells #[.int .i64 lo, .int .i64 hi, .int .i64 mb] 123)
          have A3 := ObAt.new w2 123 #[.int .i64 lo, .int .i64 hi, .int .i64 mb]
          obtain ⟨q0, q1, q2, -, -, -⟩ := A2.three
          obtain ⟨r0, r1, r2, -, -, -⟩ := A3.three
          clear A1 A2 A3 b2 hH c0 c1 c2
          go_wp2_with fail
          go_roundw
          case rel => exact ⟨k + 1, by go_num, by omega, Lib.hid ⟨HS.out, HB2.out⟩⟩
          case measure => simp [intOf]; omega
    · obtain rfl : k = l.length := by omega
      have hn := raise_ok (p := p) (l := l) (by have h := hH.out.1; rw [List.take_length] at h; exact h)
      have HN := Lib.hid hn; clear hn
      go_wp2
      refine bodyPost_end (v := .tuple #[]) (by simp [results, Tryd.results153, go_sem]) rfl ?_
      exact ⟨HN.out.symm, hH.out.2⟩
end Go.Proofs.YtbgdngfjeikheaaDoor
