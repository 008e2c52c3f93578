/-
  Frames: breaks in turn (plain); a ball that is missed.
-/
import Derived.Test.YtaplkciomagmiabDoorPfStr
namespace Go.Proofs.YtaplkciomagmiabDoor
open Go.RowKit
set_option linter.unusedVariables false
set_option linter.unusedSimpArgs false

/-- The frame with which the other player goes on. -/
def mS (n : Nat) : Nat := if frC n then n - 1 else n
theorem mS_le (n : Nat) : mS n ≤ n := by unfold mS; split <;> omega
theorem mS_fr {n : Nat} (hn : n ≤ 36) : frR (mS n) = frR n ∧ frC (mS n) = false ∧ frL (mS n) = frL n := by
  have : ∀ m, m ≤ 36 → frR (mS m) = frR m ∧ frC (mS m) = false ∧ frL (mS m) = frL m := by decide +kernel
  exact this n hn
/-- Breaks in turn: the points of both. -/
def plS : Nat → Nat → List Int → List ByteArray → Option (List Int)
  | _, _, out, [] => some out
  | n, k, out, s :: l => match after n s.data.toList with
    | none => none
    | some m => plS (mS m) (k + 1) (out.set (k % 2) (out.getD (k % 2) 0 + pts s.data.toList)) l
theorem plS_none {n k : Nat} {out : List Int} {s : ByteArray} {l : List ByteArray} (h : after n s.data.toList = none) : plS n k out (s :: l) = none := by rw [plS, h]
theorem plS_some {n k m : Nat} {out : List Int} {s : ByteArray} {l : List ByteArray} (h : after n s.data.toList = some m) : plS n k out (s :: l) = plS (mS m) (k + 1) (out.set (k % 2) (out.getD (k % 2) 0 + pts s.data.toList)) l := by rw [plS, h]
theorem plS_len : ∀ (l : List ByteArray) (n k : Nat) (out o : List Int), plS n k out l = some o → o.length = out.length
  | [], n, k, out, o, h => by rw [plS] at h; cases h; rfl
  | s :: l, n, k, out, o, h => by
    rw [plS] at h
    split at h
    · cases h
    · have := plS_len l _ _ _ o h; simpa using this
/-- The answer. -/
def plO (r : Int) (c : Bool) (l : Int) (bs : List ByteArray) : Option (List Int) :=
  if frG r c l = true ∧ (bs.length : Int) ≤ 100 then plS (numF2 r c l) 0 [0, 0] bs else none
where numF2 (r : Int) (c : Bool) (l : Int) : Nat := if c then 7 + 2 * r.toNat else if r = 0 then (8 - l).toNat else 6 + 2 * r.toNat
theorem numF2_n {n : Nat} (hn : n ≤ 36) : plO.numF2 (frR n) (frC n) (frL n) = n := by
  have : ∀ m, m ≤ 36 → plO.numF2 (frR m) (frC m) (frL m) = m := by decide +kernel
  exact this n hn
def rowOf (o : Option (List Int)) : List Int := o.getD []
theorem rowOf_len (r : Int) (c : Bool) (l : Int) (bs : List ByteArray) : (rowOf (plO r c l bs)).length ≤ 2 := by
  unfold plO
  split
  · cases h : plS (plO.numF2 r c l) 0 [0, 0] bs with
    | none => simp [rowOf]
    | some o => have := plS_len bs _ _ _ o h; simp [rowOf, this]
  · simp [rowOf]
/-- What a function hands back whose results are a row of its own and a bool. -/
def RowR (L : List Int) (o : Bool) (w : World) (e : Ending) (w' : World) : Prop :=
  ∃ v, e = .returned (.tuple #[v, .bool o]) ∧ w'.ownsRow w.heap.size 3 1 v L.length (ints L) ∧ Below w.heap.size w w'
theorem owns_nil (w : World) (B : Nat) (T : TypeId) : w.ownsRow B T 1 (.slice none 0 0) 0 (ints []) := ⟨rfl, .inl ⟨rfl, rfl⟩⟩
theorem owns_below {B : Nat} {e : TypeId} {k : Nat} {v : Value} {n : Nat} {xs : List Value} {w w' : World} (h : w.ownsRow B e k v n xs) (hb : Below w.heap.size w w') : w'.ownsRow B e k v n xs := by
  obtain ⟨h1, h2⟩ := h
  refine ⟨h1, ?_⟩
  rcases h2 with h2 | ⟨g, cap, cur, hv, hg, hh, r⟩
  · exact Or.inl h2
  · exact Or.inr ⟨g, cap, cur, hv, hg, by rw [hb.block g (Array.getElem?_eq_some_iff.1 hh).1]; exact hh, r⟩
theorem pts_dig : ∀ l : List UInt8, digL l = true → 0 ≤ pts l ∧ pts l ≤ 7 * l.length
  | [], _ => by simp [pts]
  | c :: l, h => by
    rw [digL_cons, Bool.and_eq_true] at h
    have ih := pts_dig l h.2
    have hc := (digB_iff c).1 h.1
    have e : pts (c :: l) = ((c.toNat : Int) - 48) + pts l := by simp [pts]
    rw [e, List.length_cons]
    omega

set_option maxHeartbeats 400000 in
theorem missBall_n (n : Nat) (hn : n ≤ 36) (w : World) :
    Calls Tryd.prog 26 #[frV n] w fun e w' => e = .returned (.tuple #[frV (mS n), .bool true]) ∧ Below w.heap.size w w' := by
  have hv : frV (mS n) = frW (frR n) false (frL n) := by
    obtain ⟨h1, h2, h3⟩ := mS_fr hn
    unfold frV; rw [h1, h2, h3]
  rw [hv]
  have H := Lib.hid (frG_of hn); clear hv
  unfold frV
  generalize frR n = r at *
  generalize frC n = c at *
  generalize frL n = l at *
  go_enter Tryd.func26, Tryd.ntmps26
  go_wp2_with fail
  refine (isFrame_any _ _ _ _).mono ?_; rintro e w1 ⟨rfl, b1⟩
  rw [H.out]
  obtain ⟨c1, f1⟩ := bcell b1; have z1 : w.heap.size < w1.heap.size := (by have := b1.size; (try simp at this); omega)
  obtain ⟨tA, tB⟩ := two_new b1
  obtain ⟨y0, y1, y2, x0, x1, x2⟩ := tB.cells
  obtain ⟨s0, s1, s2, u0, u1, u2⟩ := tA.cells
  obtain ⟨v0, v1, v2, -, -, -⟩ := (tA.col false).cells
  go_wp2_with fail
  obtain ⟨p0, p1, p2⟩ := (tB.other (h := w.heap.size) (o := 1) (by omega) (.bool false)).put (.int .i64 r) (.bool false) (.int .i64 l)
  refine bodyPost_ret (v := .tuple #[frW r false l, .bool true]) (by simp [results, Tryd.results26, go_sem, p0, p1, p2]) rfl ⟨rfl, ?_⟩
  (repeat (first | exact Below.refl _ _ | exact ‹Below _ _ _› | refine Below.drew ?_ | refine Below.alloc ?_ (by first | omega | (simp; done) | (simp; omega)) _ | refine Below.setCell ?_ (by first | omega | (simp; done) | (simp; omega)) _ | refine Below.trans ?_ (Below.mono ‹Below _ _ _› (by first | omega | (simp; done) | (simp; omega)))))
end Go.Proofs.YtaplkciomagmiabDoor
