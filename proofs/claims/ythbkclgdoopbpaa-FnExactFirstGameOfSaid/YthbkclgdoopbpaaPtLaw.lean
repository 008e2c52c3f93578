/-
  Pins: the first game, for the law.
-/
import Derived.Test.YthbkclgdoopbpaaPtGi
import Derived.Test.YthbkclgdoopbpaaPnLaw
namespace Go.Proofs.Ythbkclgdoopbpaa
open Go.RowKit Go.ChangeShapes Go.WideShapes Go.Deep
set_option linter.unusedVariables false
set_option linter.unusedSimpArgs false

theorem specFirstGameOf_any (f t : Int) (w : World) : Calls Try.prog 11 #[.int .i64 f, .int .i64 t] w (RowQ (fgL f t) (fgB f t) w) := by
  cases hb : gmB f t
  · have hfb : fgB f t = false := by unfold fgB; rw [hb]; rfl
    rw [fgL_no hfb, hfb]; clear hfb
    have HT := Lib.hid (fun W => boTotal_q f t W)
    rw [hb] at HT; clear hb
    go_enter Try.func11, Try.ntmps11
    go_wp2_with fail
    refine (HT.out _).mono ?_; rintro e w1 ⟨rfl, rfl⟩
    go_wp2_with fail
    refine bodyPost_ret (v := .tuple #[.slice none 0 0, .bool false]) (by simp [results, Try.results11, go_sem]) rfl (RowQ.no (Below.refl _ _))
  · have hq : (1 ≤ f ∧ f ≤ 10) ∧ 0 ≤ t ∧ t ≤ 300 := by simpa [gmB, inQ] using hb
    obtain ⟨F, rfl⟩ : ∃ F : Nat, f = (F : Int) := ⟨f.toNat, by omega⟩
    obtain ⟨n, rfl⟩ : ∃ n : Nat, t = (n : Int) := ⟨t.toNat, by omega⟩
    have e1 : fgB (F : Int) (n : Int) = (gmF F 0 n).isSome := by unfold fgB; rw [hb]; simp
    have e2 : fgL (F : Int) (n : Int) = bsI ((gmF F 0 n).getD []) := by
      unfold fgL
      rw [e1]
      cases hh : gmF F 0 n <;> simp [bsI, hh]
    rw [e1, e2]
    exact specFirstGame_loop F n (by omega) (by omega) (by omega) w
theorem gmF_len : ∀ (m s p : Nat) (l : List Nat), gmF m s p = some l → l.length ≤ 3 * m
  | 0, _, _, l, h => by simp [gmF] at h; simp [← h]
  | m + 1, s, p, l, h => by
    cases hf : ffO m s p with
    | none => simp [gmF, hf] at h
    | some f =>
      simp only [gmF, hf] at h
      cases hg : gmF m (bhF s f) (p - ptsF s f) with
      | none => rw [hg] at h; cases h
      | some l2 =>
        rw [hg] at h
        have h1 := gmF_len m _ _ _ hg
        have h2 := frs_small (ff_mem hf).1
        simp at h
        rw [← h, List.length_append]; omega
theorem fgL_len (f t : Int) : ((fgL f t).length : Int) ≤ 1000 := by
  unfold fgL
  split
  · rename_i hb
    have hq : (1 ≤ f ∧ f ≤ 10) := by
      unfold fgB gmB at hb
      simp at hb; exact hb.1.1
    cases hg : gmF f.toNat 0 t.toNat with
    | none => simp [bsI]
    | some l =>
      have := gmF_len _ _ _ _ hg
      simp [bsI]; omega
  · simp
theorem write_heapQ (w : World) (a : Option Addr) (vs : List Value) (k : Nat) (h : blockOf a ≠ some k) : (writeAt w a vs).heap[k]? = w.heap[k]? := by
  match a with
  | none => rfl
  | some ⟨b, off, sp⟩ => exact setCells_heap b vs off w k (fun e => h (by simp [blockOf, e]))
theorem own_blockQ {a : Option Addr} {n c : Nat} : (Value.slice a n c).ownBlock = blockOf a := by
  match a with
  | none => rfl
  | some ⟨_, _, _⟩ => rfl
theorem eq_sameQ (L : List Int) (a a' : Option Addr) (c c' : Nat) (w : World) (hl : (L.length : Int) ≤ 1048576) (h : Reads w a (ints L)) (h' : Reads w a' (ints L)) :
    Calls Try.prog 13 #[.slice a L.length c, .slice a' L.length c'] w fun e w' => e = .returned (.bool true) ∧ Below w.heap.size w w' := by
  have := eqIntS_any L L a a' c c' w (by omega) (by omega) h h'
  rw [show SameB L L = true from by simp [SameB]] at this
  exact this
end Go.Proofs.Ythbkclgdoopbpaa
