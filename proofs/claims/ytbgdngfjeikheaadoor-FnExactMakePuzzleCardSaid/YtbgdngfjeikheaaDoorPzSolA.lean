/-
  Puzzles: PzPlay, PzSolv, PzSols, PzSolz, PzCnts.
-/
import Derived.Test.YtbgdngfjeikheaaDoorPzTold
import Derived.Test.YtbgdngfjeikheaaDoorPzWith
import Derived.Maps.AppendAt
import Derived.OwnWalk
import Derived.Test.YtbgdngfjeikheaaDoorPzIs
namespace Go.Proofs.YtbgdngfjeikheaaDoor
open Go.RowKit
set_option linter.unusedVariables false
set_option linter.unusedSimpArgs false

theorem pre_a (T : List UInt8) : ((⟨#[97, 98]⟩ : ByteArray).extract 0 1 ++ (⟨T.toArray⟩ : ByteArray)) = ⟨(97 :: T).toArray⟩ := by
  rw [show (⟨#[97, 98]⟩ : ByteArray).extract 0 1 = ⟨#[97]⟩ from by decide, ByteArray.mk_append_mk]; simp
theorem pre_b (T : List UInt8) : ((⟨#[97, 98]⟩ : ByteArray).extract 1 2 ++ (⟨T.toArray⟩ : ByteArray)) = ⟨(98 :: T).toArray⟩ := by
  rw [show (⟨#[97, 98]⟩ : ByteArray).extract 1 2 = ⟨#[98]⟩ from by decide, ByteArray.mk_append_mk]; simp

def strs (l : List ByteArray) : List Value := l.map Value.string
theorem strs_len (l : List ByteArray) : (strs l).length = l.length := by simp [strs]
theorem strs_append (l m : List ByteArray) : strs (l ++ m) = strs l ++ strs m := by simp [strs]
theorem strs_get (l : List ByteArray) (j : Nat) (h : j < l.length) : (strs l)[j]? = some (.string (l.getD j ⟨#[]⟩)) := by simp [strs, h]
theorem scells_of_reads {w : World} {a : Option Addr} {l : List ByteArray} (h : Reads w a (strs l)) (hne : 0 < l.length) :
    ∃ b off, a = some ⟨b, off, none⟩ ∧ b < w.heap.size ∧ ∀ j, j < l.length → w.cell? ⟨b, off + j, none⟩ = some (.string (l.getD j ⟨#[]⟩)) := by
  rcases h with h | ⟨b, off, rfl, hlt, hc⟩
  · have := congrArg List.length h; rw [strs_len, List.length_nil] at this; omega
  · exact ⟨b, off, rfl, hlt, fun j hj => by rw [hc j (by rw [strs_len]; exact hj), strs_get _ _ hj]⟩
theorem infoStr : (Tryd.prog.info? 9).map (fun i => (i.zero, i.size, i.bytes)) = some (some (.string ⟨#[]⟩), 1, 16) := by kernel_rfl
theorem cell_two_new (w : World) (x y : Value) (t : TypeId) : ∀ j u, [x, y][j]? = some u → (w.alloc (.cells #[x, y] t)).cell? ((⟨w.heap.size, 0, none⟩ : Addr).add j) = some u := by
  intro j u hj
  have e : (⟨w.heap.size, 0, none⟩ : Addr).add j = ⟨w.heap.size, 0 + j, none⟩ := by unfold Addr.add; split <;> simp_all
  rw [e, Nat.zero_add, (ObAt.new w t #[x, y]).cell j]
  simpa using hj
/-- Points so many, as texts, as the program makes them. -/
def allS (p : Nat) : List ByteArray := (allL p).map fun l => ⟨l.toArray⟩
theorem allS_eq (p : Nat) : allS p = allB p := by
  unfold allS allB
  rw [allL_eq, List.map_map]; rfl
def growS (s : ByteArray) : List ByteArray := [s ++ ⟨#[97]⟩, s ++ ⟨#[98]⟩]
theorem growS_eq (l : List UInt8) : (growB l).map (fun l => (⟨l.toArray⟩ : ByteArray)) = growS ⟨l.toArray⟩ := by
  simp only [growB, growS, List.map_cons, List.map_nil, ByteArray.mk_append_mk, List.append_toArray]
theorem allS_succ (p : Nat) : allS (p + 1) = (allS p).flatMap growS := by
  unfold allS
  rw [allL, List.map_flatMap, List.flatMap_map]
  simp only [growS_eq]
theorem allS_len (p : Nat) : (allS p).length = 2 ^ p := by rw [allS_eq, allB_len]
theorem allS_size {p : Nat} {s : ByteArray} (h : s ∈ allS p) : s.size = p := by
  rw [allS_eq] at h
  simp only [allB, List.mem_map] at h
  obtain ⟨n, -, rfl⟩ := h
  exact binB_size p n
theorem flat_len (L : List ByteArray) : (L.flatMap growS).length = 2 * L.length := by
  induction L with
  | nil => rfl
  | cons s L ih => rw [List.flatMap_cons, List.length_append, ih]; simp [growS]; omega
/-- A row of texts that is the call's own, and what lay below. -/
def RoS (B : Nat) (w : World) (l : List ByteArray) (v : Value) (wr : World) : Prop := wr.ownsRow B 9 1 v l.length (strs l) ∧ Below B w wr
theorem RoS.grown {B : Nat} {w wr W5 : World} {l : List ByteArray} {v : Value} (h : RoS B w l v wr) (hg : wr.grownBy W5 v.ownBlock) (hB : B ≤ wr.heap.size) : Below B w W5 :=
  h.2.grown hg hB (fun g e => (owns_ge h.1 e).1)
theorem RoS.keep {B : Nat} {w wr W5 : World} {l : List ByteArray} {v : Value} (h : RoS B w l v wr) (hb : Below wr.heap.size wr W5) (hB : B ≤ wr.heap.size) : RoS B w l v W5 := ⟨owns_below h.1 hb, h.2.trans (hb.mono hB)⟩

/-- A captured text. -/
def TxtAt (w : World) (g : Nat) (s : ByteArray) : Prop := g < w.heap.size ∧ w.cell? ⟨g, 0, none⟩ = some (.string s)
theorem TxtAt.keep {w w' : World} {g : Nat} {s : ByteArray} (h : TxtAt w g s) (hb : Below w.heap.size w w') : TxtAt w' g s :=
  ⟨Nat.lt_of_lt_of_le h.1 hb.size, by rw [hb.cell (p := ⟨g, 0, none⟩) h.1]; exact h.2⟩
theorem len_pz {p : Int} {s : ByteArray} (h : (s.size : Int) = p) (hh : hidB s = true) : 1 ≤ p ∧ p ≤ 8 := by have := (hidB_iff.1 hh).1; omega

theorem cell_one_new (w : World) (v : Value) (t : TypeId) : ∀ j' u, ([v] : List Value)[j']? = some u → (w.alloc (.cells #[v] t)).cell? ((⟨w.heap.size, 0, none⟩ : Addr).add j') = some u := by
  intro j' u hu
  have e0 : j' = 0 := by have := (List.getElem?_eq_some_iff.1 hu).1; simp at this; omega
  subst e0
  simp at hu; subst hu
  have e : (⟨w.heap.size, 0, none⟩ : Addr).add 0 = ⟨w.heap.size, 0, none⟩ := by unfold Addr.add; split <;> simp_all
  rw [e]
  exact cell_of_row _ _ 0 _ _ _ (heap_alloc_last w _)
theorem filt_snoc (f : ByteArray → Bool) (L : List ByteArray) (j : Nat) (h : j < L.length) :
    (L.take (j + 1)).filter f = (L.take j).filter f ++ (if f (L.getD j ⟨#[]⟩) then [L.getD j ⟨#[]⟩] else []) := by
  rw [ptake_snoc ⟨#[]⟩ L j h, List.filter_append]
  congr 1
  generalize L.getD j ⟨#[]⟩ = s
  cases hh : f s <;> simp [hh]
theorem allB_getD (p j : Nat) (h : j < (allB p).length) : (allB p).getD j ⟨#[]⟩ = binB p j := by
  rw [allB_len] at h; simp [allB, h]
/-- A list of texts and whether there is one. -/
def StR (o : Bool) (L : List ByteArray) (w : World) (e : Ending) (w' : World) : Prop := ∃ v, e = .returned (.tuple #[v, .bool o]) ∧ RoS w.heap.size w L v w'
def solsO (p : Int) (l : List Cl) : List ByteArray := if goodP p l then solsL p.toNat l else []
theorem RoS.nil (w wr : World) (h : Below w.heap.size w wr) : RoS w.heap.size w [] (.slice none 0 0) wr := ⟨⟨rfl, .inl ⟨rfl, rfl⟩⟩, h⟩
theorem RoS.lift {w0 w wr : World} {l : List ByteArray} {v : Value} (h : RoS w.heap.size w l v wr) (hb : Below w0.heap.size w0 w) : RoS w0.heap.size w0 l v wr := ⟨owns_mono h.1 hb.size, hb.trans (h.2.mono hb.size)⟩

theorem solsO_len (p : Int) (l : List Cl) : (solsO p l).length ≤ 256 := by
  unfold solsO
  split
  · rename_i h
    have := solsL_len p.toNat l
    have := pow_bd (p := p.toNat) (by have := (goodP_bd h).1; omega)
    omega
  · simp
theorem solsO_not {p : Int} {l : List Cl} (h : goodP p l = false) : solsO p l = [] := by unfold solsO; rw [h]; rfl
theorem solsO_is {pn : Nat} {l : List Cl} (h : goodP pn l = true) : solsO pn l = solsL pn l := by unfold solsO; rw [h]; rfl

def oneB (n : Nat) : Bool := decide ((n : Int) = 1)

/-- The first of a list, or none. -/
def headS (L : List ByteArray) : ByteArray := L.getD 0 ⟨#[]⟩
def someS (L : List ByteArray) : Bool := decide (0 < L.length)

end Go.Proofs.YtbgdngfjeikheaaDoor
