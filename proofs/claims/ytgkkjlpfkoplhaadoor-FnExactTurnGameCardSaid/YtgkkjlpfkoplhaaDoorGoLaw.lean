/-
  Goals: what every law over kinds does: the numbers copied, and held against what came in.
-/
import Derived.Test.YtgkkjlpfkoplhaaDoorGoOwn
import Derived.Deep.RegionHeld3
namespace Go.Proofs.YtgkkjlpfkoplhaaDoor
open Go.RowKit Go.ChangeShapes Go.WideShapes Go.Deep
set_option linter.unusedVariables false
set_option linter.unusedSimpArgs false

theorem cell_of_cells1 {w : World} {base : Nat} {a : Addr} {v : Value} (h : w.cells? base a 1 = some [v]) : w.cell? a = some v := by
  unfold World.cells? at h
  split at h
  · have e0 : a.add 0 = a := by simp [Addr.add]
    simp only [List.range_succ, List.range_zero, List.nil_append, List.mapM_cons, List.mapM_nil, e0] at h
    cases hcc : w.cell? a with
    | none => simp [hcc] at h
    | some c => simp [hcc] at h; rw [h]
  · cases h

theorem open_ints {H : Type} {enc : TypeId × Value → H} {w : World} {a : Option Addr} {n c : Nat} {d : DataW H} {p : List MemPlace}
    (h : DataW.Trod enc Tryd.prog w 0 (fun _ => true) true 22 (.slice a n c) d p) :
    ∃ l : List Int, (l.length = n ∧ Reads w a (ints l)) ∧ (n : Int) ≤ 9223372036854775807 := by
  obtain ⟨fuel, hf⟩ := h
  have hone : Tryd.prog.cellsOf 3 = 1 := by kernel_rfl
  rcases open_slice Tryd.underlying22 hf with ⟨hcs, _⟩ | ⟨x, len, cap, m, k, D, Pl, hcs, _, hl, hm, hmm, _, hi⟩
  · simp [Value.cells] at hcs
    obtain ⟨rfl, rfl, rfl⟩ := hcs
    exact ⟨[], ⟨rfl, .inl rfl⟩, by omega⟩
  · simp [Value.cells] at hcs
    obtain ⟨rfl, rfl, rfl⟩ := hcs
    simp only [if_true] at hmm
    subst hmm
    have hm2 := hm
    unfold maxLen at hm2
    have hcell : ∀ i, i < n → ∃ s : Int, w.cell? (x.add i) = some (.int .i64 s) := by
      intro i hin
      obtain ⟨cs', h1, h2⟩ := hi i (by omega)
      rw [hone, Nat.mul_one] at h1
      obtain ⟨s, rfl, _, hz⟩ := DataW.trod_int Tryd.underlying3 h2
      exact ⟨s, cell_of_cells1 h1⟩
    obtain ⟨V, hV⟩ : ∃ V : Nat → Int, ∀ i, i < n → w.cell? (x.add i) = some (.int .i64 (V i)) :=
      ⟨fun i => if h : i < n then (hcell i h).choose else 0, fun i hin => by simp only [hin, dif_pos]; exact (hcell i hin).choose_spec⟩
    refine ⟨(List.range n).map V, ⟨by simp, ?_⟩, by omega⟩
    by_cases hn : n = 0
    · subst hn; exact .inl rfl
    obtain ⟨b, off, spot⟩ := x
    have hspot : spot = none := by simpa [Addr.add] using World.cell?_spot (hV 0 (by omega))
    subst hspot
    refine .inr ⟨b, off, rfl, World.block_lt_of_cell? w _ (hV 0 (by omega)), fun j hj => ?_⟩
    rw [ints_len] at hj
    simp at hj
    have h1 := hV j hj
    rw [add_plain] at h1
    rw [h1, ints_get _ _ (by simpa using hj)]
    simp [hj]

/-- A block of the call's own, 'tot' cells that may be written, the first of which are 'cs'. -/
def Filled (w : World) (g tot : Nat) (cs : List Value) : Prop :=
  g < w.heap.size ∧ (∀ j, j < tot → (w.cell? ⟨g, j, none⟩).isSome = true ∧ w.frozen? ⟨g, j, none⟩ = false) ∧ ∀ j, j < cs.length → w.cell? ⟨g, j, none⟩ = cs[j]?
theorem Filled.put {w : World} {g tot : Nat} {cs : List Value} (h : Filled w g tot cs) (v : Value) (hlt : cs.length < tot) : Filled (w.setCell ⟨g, cs.length, none⟩ v) g tot (cs ++ [v]) := by
  obtain ⟨h1, h2, h3⟩ := h
  have same : ∀ u, w.cell? ⟨g, cs.length, none⟩ = some u → (w.setCell ⟨g, cs.length, none⟩ v).cell? ⟨g, cs.length, none⟩ = some v := fun u hu => World.cell?_setCell_same _ _ _ hu
  obtain ⟨u, hu⟩ := Option.isSome_iff_exists.1 (h2 cs.length hlt).1
  have other : ∀ j, j ≠ cs.length → (w.setCell ⟨g, cs.length, none⟩ v).cell? ⟨g, j, none⟩ = w.cell? ⟨g, j, none⟩ := fun j hj => World.cell?_setCell_other _ _ _ _ (by intro e; injection e; omega)
  refine ⟨by simpa using h1, fun j hj => ⟨?_, by rw [World.frozen?_setCell]; exact (h2 j hj).2⟩, fun j hj => ?_⟩
  · by_cases e : j = cs.length
    · subst e; rw [same u hu]; rfl
    · rw [other j e]; exact (h2 j hj).1
  · simp at hj
    by_cases e : j = cs.length
    · subst e; rw [same u hu]; simp
    · rw [other j e, h3 j (by omega), List.getElem?_append_left (by omega)]
theorem Filled.reads {w : World} {g tot : Nat} {cs : List Value} (h : Filled w g tot cs) : Reads w (some ⟨g, 0, none⟩) cs :=
  .inr ⟨g, 0, rfl, h.1, fun j hj => by rw [Nat.zero_add]; exact h.2.2 j hj⟩
theorem Filled.made {w : World} {base g n c size : Nat} {e : TypeId} {xs : List Value} (h : w.ownsRow base e size (.slice (some ⟨g, 0, none⟩) n c) n xs) : Filled w g (n * size) [] := by
  obtain ⟨hl, h | ⟨g', cap, cur, hv, hg, hh, hn, hcap, hcs, htk⟩⟩ := h
  · exact absurd h.1 (by simp)
  · cases hv
    refine ⟨(Array.getElem?_eq_some_iff.1 hh).1, fun j hj => ⟨?_, frozen_of_row w g _ cur e hh⟩, fun j hj => absurd hj (by simp)⟩
    have : n * size ≤ cur.size := by rw [hcs]; exact Nat.mul_le_mul_right _ hn
    rw [cell_of_row w g _ cur e _ hh, Array.getElem?_eq_getElem (by omega)]; rfl

set_option maxHeartbeats 1600000 in
theorem toIntS_any (l : List Int) (a : Option Addr) (c : Nat) (w : World) (hl : (l.length : Int) ≤ 1048576) (h : Reads w a (ints l)) :
    Calls Tryd.prog 12 #[.slice a l.length c] w fun e w' => ∃ g, e = .returned (.slice (some ⟨g, 0, none⟩) l.length l.length) ∧ w.heap.size ≤ g ∧ Reads w' (some ⟨g, 0, none⟩) (ints l) ∧ Below w.heap.size w w' := by
  obtain ⟨i0, hi, hz0, hz1, hz2⟩ := info_parts infoInt
  go_enter Tryd.func12, Tryd.ntmps12
  go_wp2_with (at_make; refine wpList_make_full _ rfl _ _ _ rfl w.heap.size _ i0 _ 1 Tryd.underlying22 hi hz0 hz1 .i64 .i64 _ _ l.length rfl rfl rfl rfl ?_ ?_ (Nat.le_refl _) ?_)
  · rw [hz2]; omega
  · unfold maxLen; omega
  intro w1 hown hgrow
  have hfill := Filled.made hown
  have hbel : Below w.heap.size w w1 := (Below.refl _ _).grown hgrow (Nat.le_refl _) (fun k hk => by cases hk)
  have hg : w.heap.size < w1.heap.size := hfill.1
  clear hown hgrow hi hz0 hz1 hz2
  have HR := Lib.hid h; clear h
  generalize hgg : w.heap.size = g at hg hfill
  have HG := Lib.hid hgg; clear hgg
  go_wp2_with fail
  go_loopw [4] (fun i wr => ∃ k : Nat, i = .int .i64 k ∧ k ≤ l.length ∧ Filled wr g (l.length * 1) (ints (l.take k)) ∧ Below w.heap.size w wr) (fun i _ => l.length - (intOf i).toNat)
  case atStart => exact ⟨0, rfl, Nat.zero_le _, hfill, hbel⟩
  case round =>
    clear hfill hbel hg
    obtain ⟨k, rfl, hk, hfill, hbel⟩ := hrel
    by_cases hlt : k < l.length
    · obtain ⟨b, off, ha, hlb, hc⟩ := cells_of_reads (HR.out.old hbel) (by omega)
      subst ha
      have c0 := hc k hlt
      clear hc
      have hb : (k : Int) < (l.length : Int) := by omega
      have hlen : (ints (l.take k)).length = k := by rw [ints_len, List.length_take]; omega
      have p1 := hfill.put (.int .i64 (l.getD k 0)) (by omega)
      rw [hlen] at p1
      have hd : ints (l.take k) ++ [.int .i64 (l.getD k 0)] = ints (l.take (k + 1)) := by
        rw [List.take_succ_eq_append_getElem hlt]
        simp only [ints, List.map_append, List.map_cons, List.map_nil]
        simp [hlt]
      rw [hd] at p1
      obtain ⟨v0, hv0⟩ := Option.isSome_iff_exists.1 (hfill.2.1 k (by omega)).1
      have f0 := (hfill.2.1 k (by omega)).2
      have P1 := Lib.hid p1
      have hgw : w.heap.size ≤ g := by rw [HG.out]; exact Nat.le_refl _
      generalize l.getD k 0 = x at *
      have HB : Hid (Below w.heap.size w (wr.setCell ⟨g, k, none⟩ (.int .i64 x))) := hbel.setCell hgw _
      clear p1 hfill hbel hlen hd
      go_wp2
      go_roundw
      case rel => exact ⟨k + 1, by go_num, by omega, P1.out, HB.out⟩
      case measure => simp [intOf]; omega
    · obtain rfl : k = l.length := by omega
      rw [List.take_length] at hfill
      go_wp2
      go_ret
      exact ⟨g, rfl, by rw [HG.out]; exact Nat.le_refl _, hfill.reads, hbel⟩

theorem eqIntS_same (l : List Int) (g g' : Nat) (w : World) (hl : (l.length : Int) ≤ 1048576) (h : Reads w (some ⟨g, 0, none⟩) (ints l)) (h' : Reads w (some ⟨g', 0, none⟩) (ints l)) :
    Calls Tryd.prog 8 #[.slice (some ⟨g, 0, none⟩) l.length l.length, .slice (some ⟨g', 0, none⟩) l.length l.length] w fun e w' => e = .returned (.bool true) ∧ Below w.heap.size w w' := by
  have := eqIntS_any l l (some ⟨g, 0, none⟩) (some ⟨g', 0, none⟩) l.length l.length w (by omega) (by omega) h h'
  rw [show SameB l l = true from by simp [SameB]] at this
  exact this
end Go.Proofs.YtgkkjlpfkoplhaaDoor
