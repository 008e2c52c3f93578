/-
  Slices of results in the laws: counted, copied from the mirror; a league copied.
-/
import Derived.Test.YtgkkjlpfkoplhaaGreatDoorLgMath
import Derived.Test.YtgkkjlpfkoplhaaGreatDoorSliceInt
import Derived.WalkSmall
import Derived.IntWalk
import Derived.Deep.RegionHeld3
namespace Go.Proofs.YtgkkjlpfkoplhaaGreatDoor.Lg
open Go.RowKit
set_option linter.unusedVariables false
set_option linter.unusedSimpArgs false

def flatR (l : List Rs) : List Int := l.flatMap fun r => [r.1, r.2.1, r.2.2.1, r.2.2.2]
def ress (l : List Rs) : List Value := ints (flatR l)
theorem flatR_len (l : List Rs) : (flatR l).length = 4 * l.length := by
  induction l with
  | nil => rfl
  | cons d l ih => simp only [flatR, List.flatMap_cons, List.length_append] at *; simp at *; omega
theorem ress_len (l : List Rs) : (ress l).length = 4 * l.length := by rw [ress, ints_len, flatR_len]
theorem ress_append (l m : List Rs) : ress (l ++ m) = ress l ++ ress m := by simp [ress, flatR, ints]
theorem ress_get : ∀ (l : List Rs) (j : Nat), j < l.length → (ress l)[j * 4]? = some (.int .i64 (l.getD j zR).1) ∧ (ress l)[j * 4 + 1]? = some (.int .i64 (l.getD j zR).2.1) ∧ (ress l)[j * 4 + 2]? = some (.int .i64 (l.getD j zR).2.2.1) ∧ (ress l)[j * 4 + 3]? = some (.int .i64 (l.getD j zR).2.2.2)
  | d :: l, 0, _ => by simp [ress, flatR, ints]
  | d :: l, j + 1, h => by
    have := ress_get l j (by simpa using h)
    simp only [ress, flatR, ints, List.flatMap_cons, List.map_append] at *
    rw [show (j + 1) * 4 = j * 4 + 1 + 1 + 1 + 1 from by omega]
    simpa using this

theorem rcells_of_reads {w : World} {a : Option Addr} {l : List Rs} (h : Reads w a (ress l)) (hne : 0 < l.length) :
    ∃ b off, a = some ⟨b, off, none⟩ ∧ b < w.heap.size ∧ ∀ j, j < l.length → w.cell? ⟨b, off + j * 4, none⟩ = some (.int .i64 (l.getD j zR).1) ∧ w.cell? ⟨b, off + j * 4 + 1, none⟩ = some (.int .i64 (l.getD j zR).2.1) ∧ w.cell? ⟨b, off + j * 4 + 2, none⟩ = some (.int .i64 (l.getD j zR).2.2.1) ∧ w.cell? ⟨b, off + j * 4 + 3, none⟩ = some (.int .i64 (l.getD j zR).2.2.2) := by
  rcases h with h | ⟨b, off, rfl, hlt, hc⟩
  · have := congrArg List.length h; rw [ress_len] at this; simp at this; omega
  · refine ⟨b, off, rfl, hlt, fun j hj => ?_⟩
    have := ress_len l
    obtain ⟨g0, g1, g2, g3⟩ := ress_get l j hj
    exact ⟨by rw [hc (j * 4) (by omega), g0], by rw [Nat.add_assoc, hc (j * 4 + 1) (by omega), g1], by rw [Nat.add_assoc, hc (j * 4 + 2) (by omega), g2], by rw [Nat.add_assoc, hc (j * 4 + 3) (by omega), g3]⟩

/-- A block of the call's own, 'tot' cells that may be written, the first of which are 'cs'. -/
def Filled (w : World) (g tot : Nat) (cs : List Value) : Prop :=
  g < w.heap.size ∧ (∀ j, j < tot → (w.cell? ⟨g, j, none⟩).isSome = true ∧ w.frozen? ⟨g, j, none⟩ = false) ∧ ∀ j, j < cs.length → w.cell? ⟨g, j, none⟩ = cs[j]?

theorem Filled.keep {w w' : World} {g tot : Nat} {cs : List Value} (h : Filled w g tot cs) (hb : Below w.heap.size w w') : Filled w' g tot cs := by
  obtain ⟨h1, h2, h3⟩ := h
  exact ⟨Nat.lt_of_lt_of_le h1 hb.size, fun j hj => by rw [hb.cell (p := ⟨g, j, none⟩) h1, hb.frozen (p := ⟨g, j, none⟩) h1]; exact h2 j hj, fun j hj => by rw [hb.cell (p := ⟨g, j, none⟩) h1]; exact h3 j hj⟩

theorem Filled.put {w : World} {g tot : Nat} {cs : List Value} (h : Filled w g tot cs) (v : Value) (hlt : cs.length < tot) : Filled (w.setCell ⟨g, cs.length, none⟩ v) g tot (cs ++ [v]) := by
  obtain ⟨h1, h2, h3⟩ := h
  have same : ∀ u, w.cell? ⟨g, cs.length, none⟩ = some u → (w.setCell ⟨g, cs.length, none⟩ v).cell? ⟨g, cs.length, none⟩ = some v := fun u hu => World.cell?_setCell_same _ _ _ hu
  obtain ⟨u, hu⟩ := Option.isSome_iff_exists.1 (h2 cs.length hlt).1
  have other : ∀ j, j ≠ cs.length → (w.setCell ⟨g, cs.length, none⟩ v).cell? ⟨g, j, none⟩ = w.cell? ⟨g, j, none⟩ := fun j hj => World.cell?_setCell_other _ _ _ _ (by intro e; injection e; omega)
  refine ⟨by simpa using h1, fun j hj => ⟨?_, by rw [World.frozen?_setCell]; exact (h2 j hj).2⟩, fun j hj => ?_⟩
  · by_cases e : j = cs.length
    · subst e; rw [same u hu]; rfl
    · rw [other j e]; exact (h2 j hj).1
  · simp at hj
    by_cases e : j = cs.length
    · subst e; rw [same u hu]; simp
    · rw [other j e, h3 j (by omega), List.getElem?_append_left (by omega)]

theorem Filled.other {w : World} {g h o tot : Nat} {cs : List Value} (hf : Filled w g tot cs) (hne : g ≠ h) (v : Value) : Filled (w.setCell ⟨h, o, none⟩ v) g tot cs := by
  obtain ⟨h1, h2, h3⟩ := hf
  have hk : ∀ j, (w.setCell ⟨h, o, none⟩ v).cell? ⟨g, j, none⟩ = w.cell? ⟨g, j, none⟩ := fun j => World.cell?_setCell_other _ _ _ _ (by intro e; injection e; omega)
  exact ⟨by simpa using h1, fun j hj => ⟨by rw [hk]; exact (h2 j hj).1, by rw [World.frozen?_setCell]; exact (h2 j hj).2⟩, fun j hj => by rw [hk]; exact h3 j hj⟩
theorem Filled.reads {w : World} {g tot : Nat} {cs : List Value} (h : Filled w g tot cs) : Reads w (some ⟨g, 0, none⟩) cs :=
  .inr ⟨g, 0, rfl, h.1, fun j hj => by rw [Nat.zero_add]; exact h.2.2 j hj⟩
theorem Filled.writable {w : World} {g tot : Nat} {cs : List Value} (h : Filled w g tot cs) : Writable w (some ⟨g, 0, none⟩) tot :=
  .inr ⟨g, 0, rfl, h.1, fun j hj => by rw [Nat.zero_add]; exact h.2.1 j hj⟩

theorem Filled.made {w : World} {base g n c size : Nat} {e : TypeId} {xs : List Value} (h : w.ownsRow base e size (.slice (some ⟨g, 0, none⟩) n c) n xs) : Filled w g (n * size) [] := by
  obtain ⟨hl, h | ⟨g', cap, cur, hv, hg, hh, hn, hcap, hcs, htk⟩⟩ := h
  · exact absurd h.1 (by simp)
  · cases hv
    refine ⟨(Array.getElem?_eq_some_iff.1 hh).1, fun j hj => ⟨?_, frozen_of_row w g _ cur e hh⟩, fun j hj => absurd hj (by simp)⟩
    have : n * size ≤ cur.size := by rw [hcs]; exact Nat.mul_le_mul_right _ hn
    rw [cell_of_row w g _ cur e _ hh, Array.getElem?_eq_getElem (by omega)]; rfl

def szN (k : Int) (n : Nat) : Int := if k < n then -1 else k - n

set_option maxHeartbeats 400000 in
theorem szResultS_any (a : Option Addr) (n c : Nat) (k : Int) (w : World) (hn : (n : Int) ≤ 9223372036854775807) (h0 : 0 ≤ k) (h1 : k ≤ 1000000000000) :
    Calls Tryz.prog 20 #[.slice a n c, .int .i64 k] w fun e w' => e = .returned (.int .i64 (szN k n)) ∧ w' = w := by
  by_cases h : k < n
  all_goals
    go_enter Tryz.func20, Tryz.ntmps20
    go_wp2
    go_ret
    exact ⟨ret_int (by unfold szN; omega), rfl⟩

theorem infoResult : (Tryz.prog.info? 61).map (fun i => (i.zero, i.size, i.bytes)) = some (some (.agg #[.int .i64 0, .int .i64 0, .int .i64 0, .int .i64 0]), 4, 32) := by kernel_rfl

set_option maxHeartbeats 800000 in
theorem toResult_any (x y z t : Int) (w : World) :
    Calls Tryz.prog 37 #[.agg #[.int .i64 x, .int .i64 y, .int .i64 z, .int .i64 t]] w fun e w' => e = .returned (.agg #[.int .i64 x, .int .i64 y, .int .i64 z, .int .i64 t]) ∧ Below w.heap.size w w' := by
  go_enter Tryz.func37, Tryz.ntmps37
  go_wp2
  refine bodyPost_ret (v := .agg #[.int .i64 x, .int .i64 y, .int .i64 z, .int .i64 t]) (by simp [results, Tryz.results37, go_sem]) rfl ⟨rfl, ?_⟩
  (repeat (first | exact Below.refl _ _ | exact ‹Below _ _ _› | refine Below.drew ?_ | refine Below.alloc ?_ (by first | omega | (simp; done) | (simp; omega)) _ | refine Below.setCell ?_ (by first | omega | (simp; done) | (simp; omega)) _ | refine Below.trans ?_ (Below.mono ‹Below _ _ _› (by first | omega | (simp; done) | (simp; omega)))))

set_option maxHeartbeats 1600000 in
theorem toResultS_any (l : List Rs) (a : Option Addr) (c : Nat) (w : World) (hl : (l.length : Int) ≤ 1048576) (h : Reads w a (ress l)) :
    Calls Tryz.prog 25 #[.slice a l.length c] w fun e w' => ∃ g, e = .returned (.slice (some ⟨g, 0, none⟩) l.length l.length) ∧ w.heap.size ≤ g ∧ Filled w' g (l.length * 4) (ress l) ∧ Below w.heap.size w w' := by
  obtain ⟨i0, hi, hz0, hz1, hz2⟩ := info_parts infoResult
  go_enter Tryz.func25, Tryz.ntmps25
  go_wp2_with (at_make; refine wpList_make_full _ rfl _ _ _ rfl w.heap.size _ i0 _ 4 Tryz.underlying30 hi hz0 hz1 .i64 .i64 _ _ l.length rfl rfl rfl rfl ?_ ?_ (Nat.le_refl _) ?_)
  · rw [hz2]; omega
  · unfold maxLen; omega
  intro w1 hown hgrow
  have hfill := Filled.made hown
  have hbel : Below w.heap.size w w1 := (Below.refl _ _).grown hgrow (Nat.le_refl _) (fun k hk => by cases hk)
  have hg : w.heap.size < w1.heap.size := hfill.1
  clear hown hgrow hi hz0 hz1 hz2
  have HR := Lib.hid h; clear h
  generalize hgg : w.heap.size = g at hg hfill
  have HG := Lib.hid hgg; clear hgg
  go_wp2_with fail
  go_loopw [4] (fun i wr => ∃ k : Nat, i = .int .i64 k ∧ k ≤ l.length ∧ Filled wr g (l.length * 4) (ress (l.take k)) ∧ Below w.heap.size w wr) (fun i _ => l.length - (intOf i).toNat)
  case atStart => exact ⟨0, rfl, Nat.zero_le _, hfill, hbel⟩
  case round =>
    clear hfill hbel hg
    obtain ⟨k, rfl, hk, hfill, hbel⟩ := hrel
    by_cases hlt : k < l.length
    · obtain ⟨b, off, ha, hlb, hc⟩ := rcells_of_reads (HR.out.old hbel) (by omega)
      subst ha
      obtain ⟨c0, c1, c2, c3⟩ := hc k hlt
      clear hc
      have hb : (k : Int) < (l.length : Int) := by omega
      have hsn := take_snoc zR l k hlt
      have HSN := Lib.hid hsn; clear hsn
      generalize hx : l.getD k zR = r at *
      obtain ⟨x, y, z, t⟩ := r
      simp only at c0 c1 c2 c3
      go_wp2_with fail
      refine (toResult_any x y z t _).mono ?_; rintro e w2 ⟨rfl, bd⟩
      have hf2 := hfill.keep bd
      have hlen : (ress (l.take k)).length = k * 4 := by rw [ress_len, List.length_take]; omega
      have p1 := hf2.put (.int .i64 x) (by omega)
      have p2 := p1.put (.int .i64 y) (by simp; omega)
      have p3 := p2.put (.int .i64 z) (by simp; omega)
      have p4 := p3.put (.int .i64 t) (by simp; omega)
      simp only [List.length_append, List.length_cons, List.length_nil, Nat.zero_add, List.append_assoc, List.cons_append, List.nil_append, hlen] at p1 p2 p3 p4
      have hd : ress (l.take k) ++ [.int .i64 x, .int .i64 y, .int .i64 z, .int .i64 t] = ress (l.take (k + 1)) := by
        rw [HSN.out, ress_append]
        simp [ress, flatR, ints]
      simp only [Nat.add_assoc, Nat.reduceAdd] at p1 p2 p3 p4
      rw [hd] at p4
      obtain ⟨v0, hv0⟩ := Option.isSome_iff_exists.1 (hf2.2.1 (k * 4) (by omega)).1
      obtain ⟨v1, hv1⟩ := Option.isSome_iff_exists.1 (p1.2.1 (k * 4 + 1) (by omega)).1
      obtain ⟨v2, hv2⟩ := Option.isSome_iff_exists.1 (p2.2.1 (k * 4 + 2) (by omega)).1
      obtain ⟨v3, hv3⟩ := Option.isSome_iff_exists.1 (p3.2.1 (k * 4 + 3) (by omega)).1
      have f0 := (hf2.2.1 (k * 4) (by omega)).2
      have f1 := (hf2.2.1 (k * 4 + 1) (by omega)).2
      have f2 := (hf2.2.1 (k * 4 + 2) (by omega)).2
      have f3 := (hf2.2.1 (k * 4 + 3) (by omega)).2
      have P4 := Lib.hid p4
      have hb2 : Below w.heap.size w w2 := hbel.trans (bd.mono hbel.size)
      have hgw : w.heap.size ≤ g := by rw [HG.out]; exact Nat.le_refl _
      have HB : Hid (Below w.heap.size w ((((w2.setCell ⟨g, k * 4, none⟩ (.int .i64 x)).setCell ⟨g, k * 4 + 1, none⟩ (.int .i64 y)).setCell ⟨g, k * 4 + 2, none⟩ (.int .i64 z)).setCell ⟨g, k * 4 + 3, none⟩ (.int .i64 t))) := (((hb2.setCell hgw _).setCell hgw _).setCell hgw _).setCell hgw _
      clear p4 p3 p2 p1 hf2 hfill hbel bd hlen hd hb2 c0 c1 c2 c3
      go_wp2
      go_roundw
      case rel => exact ⟨k + 1, by go_num, by omega, P4.out, HB.out⟩
      case measure => simp [intOf]; omega
    · obtain rfl : k = l.length := by omega
      rw [List.take_length] at hfill
      go_wp2
      go_ret
      exact ⟨g, rfl, by rw [HG.out]; exact Nat.le_refl _, hfill, hbel⟩

end Go.Proofs.YtgkkjlpfkoplhaaGreatDoor.Lg
