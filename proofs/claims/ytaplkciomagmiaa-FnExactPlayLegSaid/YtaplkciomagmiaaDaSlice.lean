/-
  Slices of darts in the laws: counted, copied from the mirror, compared.
-/
import Derived.Test.YtaplkciomagmiaaBase
import Derived.WalkSmall
import Derived.IntWalk
import Derived.Test.YtaplkciomagmiaaDartStruct
import Derived.Deep.RegionHeld3
namespace Go.Proofs.Ytaplkciomagmiaa
open Go.RowKit

def darts (l : List (Int × Int)) : List Value := l.flatMap fun d => [.int .i64 d.1, .int .i64 d.2]
theorem darts_len (l : List (Int × Int)) : (darts l).length = 2 * l.length := by
  induction l with
  | nil => rfl
  | cons d l ih => simp only [darts, List.flatMap_cons, List.length_append] at *; simp at *; omega
theorem darts_append (l m : List (Int × Int)) : darts (l ++ m) = darts l ++ darts m := by simp [darts]
theorem darts_get : ∀ (l : List (Int × Int)) (j : Nat), j < l.length → (darts l)[j * 2]? = some (.int .i64 (l.getD j (0, 0)).1) ∧ (darts l)[j * 2 + 1]? = some (.int .i64 (l.getD j (0, 0)).2)
  | d :: l, 0, _ => by simp [darts]
  | d :: l, j + 1, h => by
    have := darts_get l j (by simpa using h)
    simp only [darts, List.flatMap_cons] at *
    rw [show (j + 1) * 2 = j * 2 + 1 + 1 from by omega]
    simpa using this

theorem dcells_of_reads {w : World} {a : Option Addr} {l : List (Int × Int)} (h : Reads w a (darts l)) (hne : 0 < l.length) :
    ∃ b off, a = some ⟨b, off, none⟩ ∧ b < w.heap.size ∧ ∀ j, j < l.length → w.cell? ⟨b, off + j * 2, none⟩ = some (.int .i64 (l.getD j (0, 0)).1) ∧ w.cell? ⟨b, off + j * 2 + 1, none⟩ = some (.int .i64 (l.getD j (0, 0)).2) := by
  rcases h with h | ⟨b, off, rfl, hlt, hc⟩
  · have := congrArg List.length h; rw [darts_len] at this; simp at this; omega
  · refine ⟨b, off, rfl, hlt, fun j hj => ?_⟩
    have := darts_len l
    obtain ⟨g0, g1⟩ := darts_get l j hj
    exact ⟨by rw [hc (j * 2) (by omega), g0], by rw [Nat.add_assoc, hc (j * 2 + 1) (by omega), g1]⟩

/-- A block of the call's own, 'tot' cells that may be written, the first of which are 'cs'. -/
def Filled (w : World) (g tot : Nat) (cs : List Value) : Prop :=
  g < w.heap.size ∧ (∀ j, j < tot → (w.cell? ⟨g, j, none⟩).isSome = true ∧ w.frozen? ⟨g, j, none⟩ = false) ∧ ∀ j, j < cs.length → w.cell? ⟨g, j, none⟩ = cs[j]?

theorem Filled.keep {w w' : World} {g tot : Nat} {cs : List Value} (h : Filled w g tot cs) (hb : Below w.heap.size w w') : Filled w' g tot cs := by
  obtain ⟨h1, h2, h3⟩ := h
  exact ⟨Nat.lt_of_lt_of_le h1 hb.size, fun j hj => by rw [hb.cell (p := ⟨g, j, none⟩) h1, hb.frozen (p := ⟨g, j, none⟩) h1]; exact h2 j hj, fun j hj => by rw [hb.cell (p := ⟨g, j, none⟩) h1]; exact h3 j hj⟩

theorem Filled.put {w : World} {g tot : Nat} {cs : List Value} (h : Filled w g tot cs) (v : Value) (hlt : cs.length < tot) : Filled (w.setCell ⟨g, cs.length, none⟩ v) g tot (cs ++ [v]) := by
  obtain ⟨h1, h2, h3⟩ := h
  have same : ∀ u, w.cell? ⟨g, cs.length, none⟩ = some u → (w.setCell ⟨g, cs.length, none⟩ v).cell? ⟨g, cs.length, none⟩ = some v := fun u hu => World.cell?_setCell_same _ _ _ hu
  obtain ⟨u, hu⟩ := Option.isSome_iff_exists.1 (h2 cs.length hlt).1
  have other : ∀ j, j ≠ cs.length → (w.setCell ⟨g, cs.length, none⟩ v).cell? ⟨g, j, none⟩ = w.cell? ⟨g, j, none⟩ := fun j hj => World.cell?_setCell_other _ _ _ _ (by intro e; injection e; omega)
  refine ⟨by simpa using h1, fun j hj => ⟨?_, by rw [World.frozen?_setCell]; exact (h2 j hj).2⟩, fun j hj => ?_⟩
  · by_cases e : j = cs.length
    · subst e; rw [same u hu]; rfl
    · rw [other j e]; exact (h2 j hj).1
  · simp at hj
    by_cases e : j = cs.length
    · subst e; rw [same u hu]; simp
    · rw [other j e, h3 j (by omega), List.getElem?_append_left (by omega)]

theorem Filled.reads {w : World} {g tot : Nat} {cs : List Value} (h : Filled w g tot cs) : Reads w (some ⟨g, 0, none⟩) cs :=
  .inr ⟨g, 0, rfl, h.1, fun j hj => by rw [Nat.zero_add]; exact h.2.2 j hj⟩
theorem Filled.writable {w : World} {g tot : Nat} {cs : List Value} (h : Filled w g tot cs) : Writable w (some ⟨g, 0, none⟩) tot :=
  .inr ⟨g, 0, rfl, h.1, fun j hj => by rw [Nat.zero_add]; exact h.2.1 j hj⟩

theorem Filled.made {w : World} {base g n c size : Nat} {e : TypeId} {xs : List Value} (h : w.ownsRow base e size (.slice (some ⟨g, 0, none⟩) n c) n xs) : Filled w g (n * size) [] := by
  obtain ⟨hl, h | ⟨g', cap, cur, hv, hg, hh, hn, hcap, hcs, htk⟩⟩ := h
  · exact absurd h.1 (by simp)
  · cases hv
    refine ⟨(Array.getElem?_eq_some_iff.1 hh).1, fun j hj => ⟨?_, frozen_of_row w g _ cur e hh⟩, fun j hj => absurd hj (by simp)⟩
    have : n * size ≤ cur.size := by rw [hcs]; exact Nat.mul_le_mul_right _ hn
    rw [cell_of_row w g _ cur e _ hh, Array.getElem?_eq_getElem (by omega)]; rfl

def szN (k : Int) (n : Nat) : Int := if k < n then -1 else k - n

set_option maxHeartbeats 400000 in
theorem szDartS_any (a : Option Addr) (n c : Nat) (k : Int) (w : World) (hn : (n : Int) ≤ 9223372036854775807) (h0 : 0 ≤ k) (h1 : k ≤ 1000000000000) :
    Calls Try.prog 58 #[.slice a n c, .int .i64 k] w fun e w' => e = .returned (.int .i64 (szN k n)) ∧ w' = w := by
  by_cases h : k < n
  all_goals
    go_enter Try.func58, Try.ntmps58
    go_wp2
    go_ret
    exact ⟨ret_int (by unfold szN; omega), rfl⟩

theorem infoDart : (Try.prog.info? 55).map (fun i => (i.zero, i.size, i.bytes)) = some (some (.agg #[.int .i64 0, .int .i64 0]), 2, 16) := by kernel_rfl

set_option maxHeartbeats 1600000 in
theorem toDartS_any (l : List (Int × Int)) (a : Option Addr) (c : Nat) (w : World) (hl : (l.length : Int) ≤ 1048576) (h : Reads w a (darts l)) :
    Calls Try.prog 61 #[.slice a l.length c] w fun e w' => ∃ g, e = .returned (.slice (some ⟨g, 0, none⟩) l.length l.length) ∧ w.heap.size ≤ g ∧ Filled w' g (l.length * 2) (darts l) ∧ Below w.heap.size w w' := by
  obtain ⟨i0, hi, hz0, hz1, hz2⟩ := info_parts infoDart
  go_enter Try.func61, Try.ntmps61
  go_wp2_with (at_make; refine wpList_make_full _ rfl _ _ _ rfl w.heap.size _ i0 _ 2 Try.underlying33 hi hz0 hz1 .i64 .i64 _ _ l.length rfl rfl rfl rfl ?_ ?_ (Nat.le_refl _) ?_)
  · rw [hz2]; omega
  · unfold maxLen; omega
  intro w1 hown hgrow
  have hfill := Filled.made hown
  have hbel : Below w.heap.size w w1 := (Below.refl _ _).grown hgrow (Nat.le_refl _) (fun k hk => by cases hk)
  have hg : w.heap.size < w1.heap.size := hfill.1
  clear hown hgrow hi hz0 hz1 hz2
  have HR := Lib.hid h; clear h
  generalize hgg : w.heap.size = g at hg hfill
  have HG := Lib.hid hgg; clear hgg
  go_wp2_with fail
  go_loopw [4] (fun i wr => ∃ k : Nat, i = .int .i64 k ∧ k ≤ l.length ∧ Filled wr g (l.length * 2) (darts (l.take k)) ∧ Below w.heap.size w wr) (fun i _ => l.length - (intOf i).toNat)
  case atStart => exact ⟨0, rfl, Nat.zero_le _, hfill, hbel⟩
  case round =>
    clear hfill hbel hg
    obtain ⟨k, rfl, hk, hfill, hbel⟩ := hrel
    by_cases hlt : k < l.length
    · obtain ⟨b, off, ha, hlb, hc⟩ := dcells_of_reads (HR.out.old hbel) (by omega)
      subst ha
      obtain ⟨c0, c1⟩ := hc k hlt
      clear hc
      have hb : (k : Int) < (l.length : Int) := by omega
      generalize hx : (l.getD k (0, 0)).1 = x at c0
      generalize hy : (l.getD k (0, 0)).2 = y at c1
      have HX := Lib.hid hx; clear hx
      have HY := Lib.hid hy; clear hy
      go_wp2_with fail
      refine (toDart_any x y _).mono ?_; rintro e w2 ⟨rfl, bd⟩
      have hf2 := hfill.keep bd
      have hlen : (darts (l.take k)).length = k * 2 := by rw [darts_len, List.length_take]; omega
      have p1 := hf2.put (.int .i64 x) (by omega)
      have p2 := p1.put (.int .i64 y) (by simp; omega)
      rw [List.length_append, hlen] at p2
      rw [hlen] at p1
      simp only [List.length_cons, List.length_nil, Nat.zero_add, List.append_assoc, List.cons_append, List.nil_append] at p2
      have hd : darts (l.take k) ++ [.int .i64 x, .int .i64 y] = darts (l.take (k + 1)) := by
        rw [List.take_succ_eq_append_getElem hlt, darts_append]
        have e1 := HX.out; have e2 := HY.out
        simp [hlt] at e1 e2
        simp [darts, e1, e2]
      rw [hd] at p2
      obtain ⟨v0, hv0⟩ := Option.isSome_iff_exists.1 (hf2.2.1 (k * 2) (by omega)).1
      obtain ⟨v1, hv1⟩ := Option.isSome_iff_exists.1 (p1.2.1 (k * 2 + 1) (by omega)).1
      have f0 := (hf2.2.1 (k * 2) (by omega)).2
      have f1 := (hf2.2.1 (k * 2 + 1) (by omega)).2
      have P2 := Lib.hid p2
      have hb2 : Below w.heap.size w w2 := hbel.trans (bd.mono hbel.size)
      have hgw : w.heap.size ≤ g := by rw [HG.out]; exact Nat.le_refl _
      have HB : Hid (Below w.heap.size w ((w2.setCell ⟨g, k * 2, none⟩ (.int .i64 x)).setCell ⟨g, k * 2 + 1, none⟩ (.int .i64 y))) := (hb2.setCell hgw _).setCell hgw _
      clear p2 p1 hf2 hfill hbel bd hlen hd hb2 c0 c1
      go_wp2
      go_roundw
      case rel => exact ⟨k + 1, by go_num, by omega, P2.out, HB.out⟩
      case measure => simp [intOf]; omega
    · obtain rfl : k = l.length := by omega
      rw [List.take_length] at hfill
      go_wp2
      go_ret
      exact ⟨g, rfl, by rw [HG.out]; exact Nat.le_refl _, hfill, hbel⟩

end Go.Proofs.Ytaplkciomagmiaa
