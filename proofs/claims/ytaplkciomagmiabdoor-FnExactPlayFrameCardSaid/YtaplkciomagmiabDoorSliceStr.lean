/-
  Slices of texts in the laws: opened, counted, copied.
-/
import Derived.Test.YtaplkciomagmiabDoorBase
import Derived.WalkSmall
import Derived.IntWalk
import Derived.Deep.Slices
import Derived.Laws.MakeOwn
namespace Go.Proofs.YtaplkciomagmiabDoor
open Go.RowKit Go.ChangeShapes Go.WideShapes Go.Deep
set_option linter.unusedVariables false

def strs (l : List ByteArray) : List Value := l.map Value.string
theorem strs_len (l : List ByteArray) : (strs l).length = l.length := by simp [strs]
theorem strs_get (l : List ByteArray) (j : Nat) (h : j < l.length) : (strs l)[j]? = some (.string (l.getD j ⟨#[]⟩)) := by simp [strs, h]
theorem scells_of_reads {w : World} {a : Option Addr} {l : List ByteArray} (h : Reads w a (strs l)) (hne : 0 < l.length) :
    ∃ b off, a = some ⟨b, off, none⟩ ∧ b < w.heap.size ∧ ∀ j, j < l.length → w.cell? ⟨b, off + j, none⟩ = some (.string (l.getD j ⟨#[]⟩)) := by
  rcases h with h | ⟨b, off, rfl, hlt, hc⟩
  · have := congrArg List.length h; rw [strs_len, List.length_nil] at this; omega
  · exact ⟨b, off, rfl, hlt, fun j hj => by rw [hc j (by rw [strs_len]; exact hj), strs_get _ _ hj]⟩

theorem cell_of_cells1 {w : World} {base : Nat} {a : Addr} {v : Value} (h : w.cells? base a 1 = some [v]) : w.cell? a = some v := by
  unfold World.cells? at h
  split at h
  · have e0 : a.add 0 = a := by simp [Addr.add]
    simp only [List.range_succ, List.range_zero, List.nil_append, List.mapM_cons, List.mapM_nil, e0] at h
    cases hcc : w.cell? a with
    | none => simp [hcc] at h
    | some c => simp [hcc] at h; rw [h]
  · cases h

theorem open_strs {H : Type} {enc : TypeId × Value → H} {w : World} {a : Option Addr} {n c : Nat} {d : DataW H} {p : List MemPlace}
    (h : DataW.Trod enc Tryd.prog w 0 (fun _ => true) true 24 (.slice a n c) d p) :
    ∃ l : List ByteArray, l.length = n ∧ (n : Int) ≤ 9223372036854775807 ∧ (∀ s ∈ l, s.size ≤ maxLen) ∧ Reads w a (strs l) := by
  obtain ⟨fuel, hf⟩ := h
  have hone : Tryd.prog.cellsOf 9 = 1 := by kernel_rfl
  rcases open_slice Tryd.underlying24 hf with ⟨hcs, _⟩ | ⟨x, len, cap, m, k, D, Pl, hcs, _, hl, hm, hmm, _, hi⟩
  · simp [Value.cells] at hcs
    obtain ⟨rfl, rfl, rfl⟩ := hcs
    exact ⟨[], rfl, by omega, (fun s hs => by cases hs), .inl rfl⟩
  · simp [Value.cells] at hcs
    obtain ⟨rfl, rfl, rfl⟩ := hcs
    simp only [if_true] at hmm
    subst hmm
    have hm2 := hm
    unfold maxLen at hm2
    have hcell : ∀ i, i < n → ∃ s : ByteArray, w.cell? (x.add i) = some (.string s) ∧ s.size ≤ maxLen := by
      intro i hin
      obtain ⟨cs', h1, h2⟩ := hi i (by omega)
      rw [hone, Nat.mul_one] at h1
      obtain ⟨s, rfl, _, hz⟩ := DataW.trod_string Tryd.underlying9 h2
      exact ⟨s, cell_of_cells1 h1, hz⟩
    obtain ⟨V, hV⟩ : ∃ V : Nat → ByteArray, ∀ i, i < n → w.cell? (x.add i) = some (.string (V i)) ∧ (V i).size ≤ maxLen :=
      ⟨fun i => if h : i < n then (hcell i h).choose else ⟨#[]⟩, fun i hin => by simp only [hin, dif_pos]; exact (hcell i hin).choose_spec⟩
    refine ⟨(List.range n).map V, by simp, by omega, fun s hs => ?_, ?_⟩
    · obtain ⟨i, hi, rfl⟩ := List.mem_map.1 hs
      exact (hV i (List.mem_range.1 hi)).2
    · by_cases hn : n = 0
      · subst hn; exact .inl rfl
      obtain ⟨b, off, spot⟩ := x
      have hspot : spot = none := by simpa [Addr.add] using World.cell?_spot (hV 0 (by omega)).1
      subst hspot
      refine .inr ⟨b, off, rfl, World.block_lt_of_cell? w _ (hV 0 (by omega)).1, fun j hj => ?_⟩
      rw [strs_len] at hj
      simp at hj
      have h1 := (hV j hj).1
      rw [add_plain] at h1
      rw [h1, strs_get _ _ (by simpa using hj)]
      simp [hj]

/-- A block of the call's own, 'tot' cells that may be written, the first of which are 'cs'. -/
def Filled (w : World) (g tot : Nat) (cs : List Value) : Prop :=
  g < w.heap.size ∧ (∀ j, j < tot → (w.cell? ⟨g, j, none⟩).isSome = true ∧ w.frozen? ⟨g, j, none⟩ = false) ∧ ∀ j, j < cs.length → w.cell? ⟨g, j, none⟩ = cs[j]?

theorem Filled.keep {w w' : World} {g tot : Nat} {cs : List Value} (h : Filled w g tot cs) (hb : Below w.heap.size w w') : Filled w' g tot cs := by
  obtain ⟨h1, h2, h3⟩ := h
  exact ⟨Nat.lt_of_lt_of_le h1 hb.size, fun j hj => by rw [hb.cell (p := ⟨g, j, none⟩) h1, hb.frozen (p := ⟨g, j, none⟩) h1]; exact h2 j hj, fun j hj => by rw [hb.cell (p := ⟨g, j, none⟩) h1]; exact h3 j hj⟩

theorem Filled.put {w : World} {g tot : Nat} {cs : List Value} (h : Filled w g tot cs) (v : Value) (hlt : cs.length < tot) : Filled (w.setCell ⟨g, cs.length, none⟩ v) g tot (cs ++ [v]) := by
  obtain ⟨h1, h2, h3⟩ := h
  have same : ∀ u, w.cell? ⟨g, cs.length, none⟩ = some u → (w.setCell ⟨g, cs.length, none⟩ v).cell? ⟨g, cs.length, none⟩ = some v := fun u hu => World.cell?_setCell_same _ _ _ hu
  obtain ⟨u, hu⟩ := Option.isSome_iff_exists.1 (h2 cs.length hlt).1
  have other : ∀ j, j ≠ cs.length → (w.setCell ⟨g, cs.length, none⟩ v).cell? ⟨g, j, none⟩ = w.cell? ⟨g, j, none⟩ := fun j hj => World.cell?_setCell_other _ _ _ _ (by intro e; injection e; omega)
  refine ⟨by simpa using h1, fun j hj => ⟨?_, by rw [World.frozen?_setCell]; exact (h2 j hj).2⟩, fun j hj => ?_⟩
  · by_cases e : j = cs.length
    · subst e; rw [same u hu]; rfl
    · rw [other j e]; exact (h2 j hj).1
  · simp at hj
    by_cases e : j = cs.length
    · subst e; rw [same u hu]; simp
    · rw [other j e, h3 j (by omega), List.getElem?_append_left (by omega)]

theorem Filled.reads {w : World} {g tot : Nat} {cs : List Value} (h : Filled w g tot cs) : Reads w (some ⟨g, 0, none⟩) cs :=
  .inr ⟨g, 0, rfl, h.1, fun j hj => by rw [Nat.zero_add]; exact h.2.2 j hj⟩
theorem Filled.made {w : World} {base g n c size : Nat} {e : TypeId} {xs : List Value} (h : w.ownsRow base e size (.slice (some ⟨g, 0, none⟩) n c) n xs) : Filled w g (n * size) [] := by
  obtain ⟨hl, h | ⟨g', cap, cur, hv, hg, hh, hn, hcap, hcs, htk⟩⟩ := h
  · exact absurd h.1 (by simp)
  · cases hv
    refine ⟨(Array.getElem?_eq_some_iff.1 hh).1, fun j hj => ⟨?_, frozen_of_row w g _ cur e hh⟩, fun j hj => absurd hj (by simp)⟩
    have : n * size ≤ cur.size := by rw [hcs]; exact Nat.mul_le_mul_right _ hn
    rw [cell_of_row w g _ cur e _ hh, Array.getElem?_eq_getElem (by omega)]; rfl

def szL : Int → List ByteArray → Int
  | k, [] => k
  | k, s :: l => if k - s.size < 0 then -1 else szL (k - s.size) l
def szS (k : Int) (l : List ByteArray) : Int := if k - l.length < 0 then -1 else szL (k - l.length) l
theorem sdrop {l : List ByteArray} {j : Nat} (h : j < l.length) : l.drop j = l.getD j ⟨#[]⟩ :: l.drop (j + 1) := by
  rw [List.drop_eq_getElem_cons h]; simp [h]

set_option maxHeartbeats 1600000 in
theorem szStringS_any (l : List ByteArray) (a : Option Addr) (c : Nat) (k : Int) (w : World) (hl : (l.length : Int) ≤ 9223372036854775807) (hs : ∀ s ∈ l, s.size ≤ maxLen) (h0 : 0 ≤ k) (h1 : k ≤ 1000000000000) (h : Reads w a (strs l)) :
    Calls Tryd.prog 6 #[.slice a l.length c, .int .i64 k] w fun e w' => e = .returned (.int .i64 (szS k l)) ∧ w' = w := by
  by_cases hk : k - l.length < 0
  · have hv : szS k l = -1 := by unfold szS; rw [if_pos hk]
    rw [hv]
    clear hv h hs
    go_enter Tryd.func6, Tryd.ntmps6
    go_wp2
    go_ret
    exact ⟨rfl, rfl⟩
  · have hv : szS k l = szL (k - l.length) l := by unfold szS; rw [if_neg hk]
    rw [hv]
    generalize hR : szL (k - l.length) l = R at *
    have HR := Lib.hid hR; clear hR hv
    have HRd := Lib.hid (And.intro h hs); clear h hs
    go_enter Tryd.func6, Tryd.ntmps6
    go_wp2
    go_loop [1, 5] (fun q i => ∃ (j : Nat) (n : Int), j ≤ l.length ∧ i = .int .i64 j ∧ q = .int .i64 n ∧ 0 ≤ n ∧ n ≤ k ∧ szL n (l.drop j) = R) (fun _ i => l.length - (intOf i).toNat)
    case atStart => exact ⟨0, k - l.length, Nat.zero_le _, rfl, rfl, by omega, by omega, by rw [List.drop_zero]; exact HR.out⟩
    case round =>
      obtain ⟨j, n, hj, rfl, rfl, hn0, hn1, hd⟩ := hrel
      by_cases hlt : j < l.length
      · obtain ⟨b, off, rfl, _, hc⟩ := scells_of_reads HRd.out.1 (by omega)
        have hcell := hc j hlt
        have hmem : l.getD j ⟨#[]⟩ ∈ l := by simp [hlt]
        have hz := HRd.out.2 _ hmem
        unfold maxLen at hz
        rw [sdrop hlt] at hd
        clear hc hmem
        have hb : (j : Int) < (l.length : Int) := by omega
        generalize l.getD j ⟨#[]⟩ = s at *
        have hz2 : (s.size : Int) ≤ 9223372036854775807 := by omega
        by_cases hneg : n - s.size < 0
        · have hr : R = -1 := by rw [← hd, szL, if_pos hneg]
          have HV := Lib.hid hr; clear hr hd
          go_wp2
          go_ret
          exact ⟨ret_int HV.out.symm, rfl⟩
        · have hr : szL (n - s.size) (l.drop (j + 1)) = R := by rw [← hd, szL, if_neg hneg]
          have HV := Lib.hid hr; clear hr hd
          go_wp2
          go_round
          case rel => exact ⟨j + 1, _, by omega, by go_num, rfl, by omega, by omega, HV.out⟩
          case measure => simp [intOf]; omega
      · obtain rfl : j = l.length := by omega
        rw [List.drop_length] at hd
        have HV := Lib.hid hd; clear hd
        go_wp2
        go_ret
        exact ⟨ret_int HV.out, rfl⟩

theorem infoStr : (Tryd.prog.info? 9).map (fun i => (i.zero, i.size, i.bytes)) = some (some (.string ⟨#[]⟩), 1, 16) := by kernel_rfl

set_option maxHeartbeats 1600000 in
theorem toStringS_any (l : List ByteArray) (a : Option Addr) (c : Nat) (w : World) (hl : (l.length : Int) ≤ 1048576) (h : Reads w a (strs l)) :
    Calls Tryd.prog 9 #[.slice a l.length c] w fun e w' => ∃ g, e = .returned (.slice (some ⟨g, 0, none⟩) l.length l.length) ∧ w.heap.size ≤ g ∧ Filled w' g l.length (strs l) ∧ Below w.heap.size w w' := by
  obtain ⟨i0, hi, hz0, hz1, hz2⟩ := info_parts infoStr
  go_enter Tryd.func9, Tryd.ntmps9
  go_wp2_with (at_make; refine wpList_make_full _ rfl _ _ _ rfl w.heap.size _ i0 _ 1 Tryd.underlying24 hi hz0 hz1 .i64 .i64 _ _ l.length rfl rfl rfl rfl ?_ ?_ (Nat.le_refl _) ?_)
  · rw [hz2]; omega
  · unfold maxLen; omega
  intro w1 hown hgrow
  have hfill := Filled.made hown
  rw [Nat.mul_one] at hfill
  have hbel : Below w.heap.size w w1 := (Below.refl _ _).grown hgrow (Nat.le_refl _) (fun k hk => by cases hk)
  have hg : w.heap.size < w1.heap.size := hfill.1
  clear hown hgrow hi hz0 hz1 hz2
  have HR := Lib.hid h; clear h
  generalize hgg : w.heap.size = g at hg hfill
  have HG := Lib.hid hgg; clear hgg
  go_wp2_with fail
  go_loopw [4] (fun i wr => ∃ k : Nat, i = .int .i64 k ∧ k ≤ l.length ∧ Filled wr g l.length (strs (l.take k)) ∧ Below w.heap.size w wr) (fun i _ => l.length - (intOf i).toNat)
  case atStart => exact ⟨0, rfl, Nat.zero_le _, hfill, hbel⟩
  case round =>
    clear hfill hbel hg
    obtain ⟨k, rfl, hk, hfill, hbel⟩ := hrel
    by_cases hlt : k < l.length
    · obtain ⟨b, off, ha, hlb, hc⟩ := scells_of_reads (HR.out.old hbel) (by omega)
      subst ha
      have c0 := hc k hlt
      clear hc
      have hb : (k : Int) < (l.length : Int) := by omega
      have hlen : (strs (l.take k)).length = k := by rw [strs_len, List.length_take]; omega
      have p1 := hfill.put (.string (l.getD k ⟨#[]⟩)) (by omega)
      rw [hlen] at p1
      have hd : strs (l.take k) ++ [.string (l.getD k ⟨#[]⟩)] = strs (l.take (k + 1)) := by
        rw [List.take_succ_eq_append_getElem hlt]
        unfold strs
        rw [List.map_append]; simp [hlt]
      rw [hd] at p1
      obtain ⟨v0, hv0⟩ := Option.isSome_iff_exists.1 (hfill.2.1 k hlt).1
      have f0 := (hfill.2.1 k hlt).2
      have hgw : w.heap.size ≤ g := by rw [HG.out]; exact Nat.le_refl _
      have PB := Lib.hid (And.intro p1 (hbel.setCell (p := ⟨g, k, none⟩) hgw (.string (l.getD k ⟨#[]⟩))))
      generalize l.getD k ⟨#[]⟩ = s at *
      clear p1 hfill hbel hlen hd
      go_wp2
      go_roundw
      case rel => exact ⟨k + 1, by go_num, by omega, PB.out.1, PB.out.2⟩
      case measure => simp [intOf]; omega
    · obtain rfl : k = l.length := by omega
      rw [List.take_length] at hfill
      go_wp2
      go_ret
      exact ⟨g, rfl, by rw [HG.out]; exact Nat.le_refl _, hfill, hbel⟩

end Go.Proofs.YtaplkciomagmiabDoor
