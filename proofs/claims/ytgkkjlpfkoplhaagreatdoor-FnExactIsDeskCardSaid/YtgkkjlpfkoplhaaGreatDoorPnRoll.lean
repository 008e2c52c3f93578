/-
  Pins: the model's place behind a ball.
-/
import Derived.Test.YtgkkjlpfkoplhaaGreatDoorPnOwn
import Derived.Test.YtgkkjlpfkoplhaaGreatDoorPnFill
import Derived.Deep.RegionHeld3
import Derived.Deep.DeepCutAuto
import Derived.Deep.WholeRow
import Derived.StillTailTactics
namespace Go.Proofs.YtgkkjlpfkoplhaaGreatDoor.Pn
open Go.RowKit
set_option linter.unusedVariables false
set_option linter.unusedSimpArgs false

/-- A block that holds a place in a game. -/
def BoAt (w : World) (g : Nat) (fr : Int) (bl : Value) (st : Int) (ov : Bool) : Prop := w.heap[g]? = some (.cells #[.int .i64 fr, bl, .int .i64 st, .bool ov] 69 (0, 0))
theorem BoAt.lt {w : World} {g : Nat} {fr : Int} {bl : Value} {st : Int} {ov : Bool} (h : BoAt w g fr bl st ov) : g < w.heap.size := (Array.getElem?_eq_some_iff.1 h).1
theorem BoAt.keep {w w' : World} {g : Nat} {fr : Int} {bl : Value} {st : Int} {ov : Bool} (h : BoAt w g fr bl st ov) (hb : Below w.heap.size w w') : BoAt w' g fr bl st ov := by
  unfold BoAt at *; rw [hb.block _ (Array.getElem?_eq_some_iff.1 h).1]; exact h
theorem BoAt.old {w : World} {g : Nat} {fr : Int} {bl : Value} {st : Int} {ov : Bool} (h : BoAt w g fr bl st ov) (o : Obj) : BoAt (w.alloc o) g fr bl st ov := by
  unfold BoAt at *; rw [Below.heap_alloc _ _ _ (Array.getElem?_eq_some_iff.1 h).1]; exact h
theorem BoAt.new (w : World) (fr : Int) (bl : Value) (st : Int) (ov : Bool) : BoAt (w.alloc (.cells #[.int .i64 fr, bl, .int .i64 st, .bool ov] 69)) w.heap.size fr bl st ov := heap_alloc_last w _
theorem BoAt.cells {w : World} {g : Nat} {fr : Int} {bl : Value} {st : Int} {ov : Bool} (h : BoAt w g fr bl st ov) :
    w.cell? ⟨g, 0, none⟩ = some (.int .i64 fr) ∧ w.cell? ⟨g, 1, none⟩ = some bl ∧ w.cell? ⟨g, 2, none⟩ = some (.int .i64 st) ∧ w.cell? ⟨g, 3, none⟩ = some (.bool ov) :=
  ⟨cell_of_row _ _ 0 _ _ _ h, cell_of_row _ _ 1 _ _ _ h, cell_of_row _ _ 2 _ _ _ h, cell_of_row _ _ 3 _ _ _ h⟩
theorem BoAt.free {w : World} {g : Nat} {fr : Int} {bl : Value} {st : Int} {ov : Bool} (h : BoAt w g fr bl st ov) (k : Nat) : w.frozen? ⟨g, k, none⟩ = false := frozen_of_row w g k _ _ h
theorem BoAt.other {w : World} {g h o : Nat} {fr : Int} {bl : Value} {st : Int} {ov : Bool} (ht : BoAt w g fr bl st ov) (hne : g ≠ h) (v : Value) : BoAt (w.setCell ⟨h, o, none⟩ v) g fr bl st ov := by
  unfold BoAt at *; rw [Below.heap_setCell _ _ _ _ hne]; exact ht
/-- A whole place stored. -/
theorem BoAt.stored {w : World} {g : Nat} {fr : Int} {bl : Value} {st : Int} {ov : Bool} (h : BoAt w g fr bl st ov) (fr' : Int) (bl' : Value) (st' : Int) (ov' : Bool) :
    BoAt ((((w.setCell ⟨g, 0, none⟩ (.int .i64 fr')).setCell ⟨g, 1, none⟩ bl').setCell ⟨g, 2, none⟩ (.int .i64 st')).setCell ⟨g, 3, none⟩ (.bool ov')) g fr' bl' st' ov' := by
  unfold BoAt at *
  have h0 := setRow_heap w g _ (#[.int .i64 fr, bl, .int .i64 st, .bool ov].setIfInBounds 0 (.int .i64 fr')) _ _ h
  rw [← setCell_eq_setRow w g 0 _ _ _ _ h] at h0
  have h1 := setRow_heap _ g _ ((#[.int .i64 fr, bl, .int .i64 st, .bool ov].setIfInBounds 0 (.int .i64 fr')).setIfInBounds 1 bl') _ _ h0
  rw [← setCell_eq_setRow _ g 1 _ _ _ _ h0] at h1
  have h2 := setRow_heap _ g _ (((#[.int .i64 fr, bl, .int .i64 st, .bool ov].setIfInBounds 0 (.int .i64 fr')).setIfInBounds 1 bl').setIfInBounds 2 (.int .i64 st')) _ _ h1
  rw [← setCell_eq_setRow _ g 2 _ _ _ _ h1] at h2
  have h3 := setRow_heap _ g _ ((((#[.int .i64 fr, bl, .int .i64 st, .bool ov].setIfInBounds 0 (.int .i64 fr')).setIfInBounds 1 bl').setIfInBounds 2 (.int .i64 st')).setIfInBounds 3 (.bool ov')) _ _ h2
  rw [← setCell_eq_setRow _ g 3 _ _ _ _ h2] at h3
  exact h3

/-- A row of numbers is no place in a game. -/
theorem BoAt.apart {w : World} {g : Nat} {fr : Int} {bl : Value} {st : Int} {ov : Bool} (h : BoAt w g fr bl st ov) {base n : Nat} {v : Value} {xs : List Value} (ho : w.ownsRow base 3 1 v n xs) : v.ownBlock ≠ some g := by
  obtain ⟨_, ⟨rfl, _⟩ | ⟨g', cap, cur, rfl, _, hh, _⟩⟩ := ho
  · simp [Value.ownBlock]
  · intro e
    simp [Value.ownBlock] at e
    subst e
    unfold BoAt at h
    rw [hh] at h
    simp at h
theorem BoAt.grow {w w' : World} {g : Nat} {fr : Int} {bl : Value} {st : Int} {ov : Bool} (h : BoAt w g fr bl st ov) {base n : Nat} {v : Value} {xs : List Value} (ho : w.ownsRow base 3 1 v n xs) (hg : w.grownBy w' v.ownBlock) : BoAt w' g fr bl st ov := by
  have hne := h.apart ho
  have hlt := h.lt
  unfold BoAt at *
  rw [hg.block g hlt (fun e => hne e.symm)]; exact h
theorem BoAt.stand {w : World} {g : Nat} {fr : Int} {bl : Value} {st : Int} {ov : Bool} (h : BoAt w g fr bl st ov) (st' : Int) : BoAt (w.setCell ⟨g, 2, none⟩ (.int .i64 st')) g fr bl st' ov := by
  unfold BoAt at *
  have h0 := setRow_heap w g _ (#[.int .i64 fr, bl, .int .i64 st, .bool ov].setIfInBounds 2 (.int .i64 st')) _ _ h
  rw [← setCell_eq_setRow w g 2 _ _ _ _ h] at h0
  exact h0
theorem BoAt.end {w : World} {g : Nat} {fr : Int} {bl : Value} {st : Int} {ov : Bool} (h : BoAt w g fr bl st ov) (ov' : Bool) : BoAt (w.setCell ⟨g, 3, none⟩ (.bool ov')) g fr bl st ov' := by
  unfold BoAt at *
  have h0 := setRow_heap w g _ (#[.int .i64 fr, bl, .int .i64 st, .bool ov].setIfInBounds 3 (.bool ov')) _ _ h
  rw [← setCell_eq_setRow w g 3 _ _ _ _ h] at h0
  exact h0
/-- What a region that draws its order holds. -/
def RollS (B : Nat) (w : World) (d : Int) (sl : Value) (st : Int) (w' : World) : Prop :=
  BoAt w' B d sl st false ∧ BoAt w' (B + 1) 0 (.slice none 0 0) 0 false ∧ Below B w w'
theorem RollS.keep {B : Nat} {w : World} {d : Int} {sl : Value} {st : Int} {X Y : World} (bd : Below X.heap.size X Y) (h : RollS B w d sl st X) : RollS B w d sl st Y :=
  ⟨h.1.keep bd, h.2.1.keep bd, h.2.2.trans (bd.mono (by have := h.1.lt; omega))⟩
theorem RollS.grow {B : Nat} {w : World} {d : Int} {sl : Value} {st : Int} {X Y : World} (h : RollS B w d sl st X) {base n : Nat} {v : Value} {xs : List Value} (ho : X.ownsRow base 3 1 v n xs) (hb : B ≤ base) (hg : X.grownBy Y v.ownBlock) : RollS B w d sl st Y :=
  ⟨h.1.grow ho hg, h.2.1.grow ho hg, h.2.2.grown hg (by have := h.1.lt; omega) (fun g e => by
    obtain ⟨_, ⟨rfl, _⟩ | ⟨g', cap, cur, rfl, hb', _⟩⟩ := ho
    · simp [Value.ownBlock] at e
    · simp [Value.ownBlock] at e; omega)⟩
def RollH (B : Nat) (w : World) (d : Int) (sl : Value) (st : Int) (w' : World) : Prop :=
  w'.cell? ⟨B, 0, none⟩ = some (.int .i64 d) ∧ w'.cell? ⟨B, 1, none⟩ = some sl ∧ w'.cell? ⟨B, 2, none⟩ = some (.int .i64 st) ∧ RollS B w d sl st w'
theorem RollH.of {B : Nat} {w : World} {d : Int} {sl : Value} {st : Int} {Y : World} (hs : RollS B w d sl st Y) : RollH B w d sl st Y := by
  obtain ⟨c0, c1, c2, _⟩ := hs.1.cells
  exact ⟨c0, c1, c2, hs⟩
def OneAt (w : World) (g : Nat) (p : Int) : Prop := w.heap[g]? = some (.cells #[.int .i64 p] 3 (0, 0))
theorem OneAt.keep {w w' : World} {g : Nat} {p : Int} (h : OneAt w g p) (hb : Below w.heap.size w w') : OneAt w' g p := by
  unfold OneAt at *; rw [hb.block _ (Array.getElem?_eq_some_iff.1 h).1]; exact h
theorem OneAt.new (w : World) (p : Int) : OneAt (w.alloc (.cells #[.int .i64 p] 3)) w.heap.size p := heap_alloc_last w _
theorem OneAt.news {w : World} {g : Nat} {p : Int} (h : OneAt w g p) : ∀ j u, [Value.int .i64 p][j]? = some u → w.cell? ((⟨g, 0, none⟩ : Addr).add j) = some u := by
  intro j u hj
  match j, hj with
  | 0, hj =>
    simp at hj
    subst hj
    have e : (⟨g, 0, none⟩ : Addr).add 0 = ⟨g, 0, none⟩ := by unfold Addr.add; split <;> simp_all
    rw [e]; exact cell_of_row _ _ 0 _ _ _ h
theorem below_new (w : World) (o : Obj) : Below w.heap.size w (w.alloc o) := (Below.refl _ _).alloc (Nat.le_refl _) _
theorem owns_other {w w' : World} {g base n : Nat} {v : Value} {xs : List Value} (ho : w.ownsRow base 3 1 v n xs) (hne : v.ownBlock ≠ some g) (hs : ∀ k, k ≠ g → w'.heap[k]? = w.heap[k]?) : w'.ownsRow base 3 1 v n xs := by
  obtain ⟨hl, ⟨rfl, h2⟩ | ⟨g', cap, cur, rfl, hb, hh, r⟩⟩ := ho
  · exact ⟨hl, .inl ⟨rfl, h2⟩⟩
  · refine ⟨hl, .inr ⟨g', cap, cur, rfl, hb, ?_, r⟩⟩
    rw [hs g' (fun e => hne (by simp [Value.ownBlock, e]))]; exact hh
theorem heap_four (w : World) (g : Nat) (a b c d : Value) (k : Nat) (h : k ≠ g) : ((((w.setCell ⟨g, 0, none⟩ a).setCell ⟨g, 1, none⟩ b).setCell ⟨g, 2, none⟩ c).setCell ⟨g, 3, none⟩ d).heap[k]? = w.heap[k]? := by
  rw [Below.heap_setCell _ _ _ _ h, Below.heap_setCell _ _ _ _ h, Below.heap_setCell _ _ _ _ h, Below.heap_setCell _ _ _ _ h]
def CutRoll (B : Nat) (w : World) (d : Int) (sl : Value) (st p : Int) (l : List Int) (v : Value) (wx : World) : Prop :=
  ∃ (g : Nat) (a' : Option Addr) (c' : Nat), v = .pointer (some ⟨g, 0, none⟩) ∧ B + 1 < g ∧ BoAt wx g d (.slice a' (l.length + 1) c') (st - p) false ∧ Reads wx a' (ints (l ++ [p])) ∧ RollS B w d sl st wx ∧ (∀ b off, a' = some ⟨b, off, none⟩ → b ≠ B + 1 ∧ b ≠ g ∧ B ≤ b)
theorem CutRoll.mk {B : Nat} {w : World} {d : Int} {sl : Value} {st p : Int} {l : List Int} {W : World} {g : Nat} {a' : Option Addr} {c' base : Nat} (h1 : BoAt W g 0 (.slice none 0 0) 0 false) (h2 : B + 1 < g)
    (h3 : W.ownsRow base 3 1 (.slice a' (l.length + 1) c') (l.length + 1) (ints (l ++ [p]))) (h4 : RollS B w d sl st W) (h5 : B ≤ base) :
    CutRoll B w d sl st p l (.pointer (some ⟨g, 0, none⟩)) ((((W.setCell ⟨g, 0, none⟩ (.int .i64 d)).setCell ⟨g, 1, none⟩ (.slice a' (l.length + 1) c')).setCell ⟨g, 2, none⟩ (.int .i64 (st - p))).setCell ⟨g, 3, none⟩ (.bool false)) := by
  refine ⟨g, a', c', rfl, h2, h1.stored _ _ _ _, ?_, ⟨?_, ?_, ?_⟩, ?_⟩
  · obtain ⟨a2, c2, e, hr, _⟩ := Reads.own (owns_other (g := g) h3 (h1.apart h3) (heap_four W g _ _ _ _))
    injection e with e1 e2 e3
    subst e1; exact hr
  · unfold BoAt; rw [heap_four W g _ _ _ _ B (by omega)]; exact h4.1
  · unfold BoAt; rw [heap_four W g _ _ _ _ (B + 1) (by omega)]; exact h4.2.1
  · exact (((h4.2.2.setCell (p := ⟨g, 0, none⟩) (by simp; omega) _).setCell (p := ⟨g, 1, none⟩) (by simp; omega) _).setCell (p := ⟨g, 2, none⟩) (by simp; omega) _).setCell (p := ⟨g, 3, none⟩) (by simp; omega) _
  · intro b off e
    have e1 := h4.2.1.apart h3
    have e2 := h1.apart h3
    obtain ⟨a2, c2, e3, -, -, -, e4⟩ := Reads.own h3
    injection e3 with e5 e6 e7
    subst e5
    subst e
    have e8 := e4 b rfl
    simp [Value.ownBlock] at e1 e2
    exact ⟨e1, e2, by omega⟩

/-- A place handed back. -/
def PlaceR (fr : Int) (bl : List Int) (st : Int) (ov : Bool) (w : World) (e : Ending) (w' : World) : Prop :=
  ∃ a c, e = .returned (.agg #[.int .i64 fr, .slice a bl.length c, .int .i64 st, .bool ov]) ∧ Reads w' a (ints bl) ∧ (∀ b off, a = some ⟨b, off, none⟩ → w.heap.size ≤ b) ∧ Below w.heap.size w w'
theorem BoAt.post {w : World} {g : Nat} {fr : Int} {bl : Value} {st : Int} {ov : Bool} (h : BoAt w g fr bl st ov) : w.cell? ⟨g, 0, none⟩ = some (.int .i64 fr) ∧ w.cell? ⟨g, 1, none⟩ = some bl ∧ w.cell? ⟨g, 2, none⟩ = some (.int .i64 st) ∧ w.cell? ⟨g, 3, none⟩ = some (.bool ov) := h.cells
theorem below_four {B g : Nat} {w W : World} (h : Below B w W) (hg : B ≤ g) (a b c d : Value) : Below B w ((((W.setCell ⟨g, 0, none⟩ a).setCell ⟨g, 1, none⟩ b).setCell ⟨g, 2, none⟩ c).setCell ⟨g, 3, none⟩ d) :=
  (((h.setCell (p := ⟨g, 0, none⟩) hg _).setCell (p := ⟨g, 1, none⟩) hg _).setCell (p := ⟨g, 2, none⟩) hg _).setCell (p := ⟨g, 3, none⟩) hg _
theorem reads_other {w W : World} {a : Option Addr} {cs : List Value} (h : Reads w a cs) {g : Nat} (hne : ∀ b off, a = some ⟨b, off, none⟩ → b ≠ g) (hs : ∀ k, k ≠ g → W.heap[k]? = w.heap[k]?) (hz : w.heap.size ≤ W.heap.size) : Reads W a cs := by
  rcases h with h | ⟨b, off, rfl, hlt, hc⟩
  · exact .inl h
  · exact .inr ⟨b, off, rfl, by omega, fun j hj => by rw [← hc j hj]; exact World.cell?_of_block (w := w) (hs b (hne b off rfl))⟩
def CutLast (B g : Nat) (w : World) (d : Int) (a' : Option Addr) (c' : Nat) (st p : Int) (l : List Int) (v : Value) (wx : World) : Prop :=
  v = .int .i64 ((l.length + 1 : Nat) : Int) ∧ BoAt wx g d (.slice a' (l.length + 1) c') (if st - p = 0 then 10 else st - p) false ∧ Reads wx a' (ints (l ++ [p])) ∧ BoAt wx (B + 1) 0 (.slice none 0 0) 0 false ∧ Below B w wx
theorem last_end {B g d : Nat} {w W : World} {a' : Option Addr} {c' : Nat} {st p : Int} {l : List Int} {v : Value} (ov' : Bool) (h : CutLast B g w d a' c' st p l v W) (hgB : B ≤ g) (hg : B + 1 < g) (hnr : ∀ b off, a' = some ⟨b, off, none⟩ → b ≠ B + 1 ∧ b ≠ g ∧ B ≤ b) :
    BoAt ((W.setCell ⟨g, 3, none⟩ (.bool ov')).drew) g d (.slice a' (l.length + 1) c') (if st - p = 0 then 10 else st - p) ov' ∧ Reads (W.setCell ⟨g, 3, none⟩ (.bool ov')).drew a' (ints (l ++ [p])) ∧ BoAt (W.setCell ⟨g, 3, none⟩ (.bool ov')).drew (B + 1) 0 (.slice none 0 0) 0 false ∧ Below B w (W.setCell ⟨g, 3, none⟩ (.bool ov')).drew := by
  obtain ⟨-, h1, h2, h3, h4⟩ := h
  have h1' : BoAt W.drew g d (.slice a' (l.length + 1) c') (if st - p = 0 then 10 else st - p) false := h1
  have h3' : BoAt W.drew (B + 1) 0 (.slice none 0 0) 0 false := h3
  have h2' : Reads W.drew a' (ints (l ++ [p])) := h2
  exact ⟨h1'.end ov', reads_other h2' (fun b off e => (hnr b off e).2.1) (fun k hk => Below.heap_setCell _ _ _ _ hk) (by simp), h3'.other (by omega) _, (Below.drew h4).setCell (p := ⟨g, 3, none⟩) hgB _⟩
def lastOv (l : List Int) (p : Int) : Bool := decide (l.length + 1 = 3 ∨ (l.length + 1 = 2 ∧ (l ++ [p]).getD 0 0 < 10 ∧ (l ++ [p]).getD 0 0 + (l ++ [p]).getD 1 0 < 10))
def RollOut (F d : Nat) (l : List Int) (st p : Int) (w : World) (e : Ending) (w' : World) : Prop :=
  (d + 1 < F → (st - p = 0 ∨ l.length + 1 = 2) → PlaceR ((d + 1 : Nat) : Int) [] 10 false w e w') ∧
  (d + 1 < F → ¬ (st - p = 0 ∨ l.length + 1 = 2) → PlaceR d (l ++ [p]) (st - p) false w e w') ∧
  (¬ d + 1 < F → PlaceR d (l ++ [p]) (if st - p = 0 then 10 else st - p) (lastOv l p) w e w')

set_option maxHeartbeats 3200000 in
set_option maxRecDepth 100000 in
theorem roll_out (F d : Nat) (hF : F ≤ 10) (hd : d < F) (l : List Int) (st p : Int) (hl : l.length ≤ 2) (hlb : ∀ x ∈ l, 0 ≤ x ∧ x ≤ 10) (hst : 0 ≤ st ∧ st ≤ 10) (hp : 0 ≤ p ∧ p ≤ st) (a : Option Addr) (c : Nat) (w : World) (h : Reads w a (ints l)) :
    Calls Tryz.prog 60 #[.int .i64 F, .agg #[.int .i64 d, .slice a l.length c, .int .i64 st, .bool false], .int .i64 p] w fun e w' => RollOut F d l st p w e w' := by
  obtain ⟨i0, hi, hz0, hz1, hz2⟩ := info_parts infoInt
  have HI := Lib.hid (And.intro hi (And.intro hz0 (And.intro hz1 hz2))); clear hi hz0 hz1 hz2
  have ho := fun (w : World) (hr : Reads w a (ints l)) => l1Own_any l a c w (by omega) hr
  have HO := Lib.hid ho; clear ho
  have hs0 : RollS w.heap.size w d (.slice a l.length c) st ((w.alloc (.cells #[.int .i64 d, .slice a l.length c, .int .i64 st, .bool false] 69)).alloc (.cells #[.int .i64 0, .slice none 0 0, .int .i64 0, .bool false] 69)) := by
    refine ⟨(BoAt.new w _ _ _ _).old _, ?_, ((Below.refl _ _).alloc (Nat.le_refl _) _).alloc (by simp) _⟩
    have := BoAt.new (w.alloc (.cells #[.int .i64 d, .slice a l.length c, .int .i64 st, .bool false] 69)) 0 (.slice none 0 0) 0 false
    rw [World.size_alloc] at this; exact this
  have HR := Lib.hid h; clear h
  have HS0 := Lib.hid hs0; clear hs0
  go_enter Tryz.func60, Tryz.ntmps60
  go_upto_region 1 with fail
  go_cut [7] (fun s7 wx => Hid (CutRoll w.heap.size w d (.slice a l.length c) st p l s7 wx))
  case first =>
    have hs0 := HS0.out
    clear HS0
    generalize (w.alloc (.cells #[.int .i64 d, .slice a l.length c, .int .i64 st, .bool false] 69)).alloc (.cells #[.int .i64 0, .slice none 0 0, .int .i64 0, .bool false] 69) = X at *
    generalize hB : w.heap.size = B at *
    have HB := Lib.hid hB; clear hB
    have h0 : RollH B w d (.slice a l.length c) st X.drew := RollH.of (hs0.keep (Below.refl _ _).drew)
    clear hs0
    have hw1 : IntKind.i64.wrap (st - p) = st - p := IntWalk.i64_in _ (by omega)
    refine wp_region_held_drew (S := fun w' => w'.cell? ⟨B, 0, none⟩ = some (.int .i64 d) ∧ w'.cell? ⟨B, 1, none⟩ = some (.slice a l.length c) ∧ w'.cell? ⟨B, 2, none⟩ = some (.int .i64 st) ∧ RollS B w d (.slice a l.length c) st w') (by kernel_rfl) (h0) (fun hHeld => ?_)
    (refine wpAnyH_take (i := 0) (v := ?_) rfl (by kernel_rfl) (by kernel_rfl) (by kernel_rfl) (fun _ _ _ h => h) (Or.inl ⟨by kernel_rfl, ?_⟩) (by assumption) ?_; rotate_left; focus (intro w hSw; (try dsimp only at hSw); go_simp; try with_reducible rfl); (try simp only [List.getElem_toArray, List.getElem_cons_succ, List.getElem_cons_zero, Act.put, List.setIfInBounds_toArray, List.set_cons_zero, List.set_cons_succ])); (refine wpAnyH_take (i := 1) (v := ?_) rfl (by kernel_rfl) (by kernel_rfl) (by kernel_rfl) (fun _ _ _ h => h) (Or.inl ⟨by kernel_rfl, ?_⟩) (by assumption) ?_; rotate_left; focus (intro w hSw; (try dsimp only at hSw); go_simp; try with_reducible rfl); (try simp only [List.getElem_toArray, List.getElem_cons_succ, List.getElem_cons_zero, Act.put, List.setIfInBounds_toArray, List.set_cons_zero, List.set_cons_succ])); (refine wpAnyH_take (i := 2) (v := ?_) rfl (by kernel_rfl) (by kernel_rfl) (by kernel_rfl) (fun _ _ _ h => h) (Or.inl ⟨by kernel_rfl, ?_⟩) (by assumption) ?_; rotate_left; focus (intro w hSw; (try dsimp only at hSw); go_simp; try with_reducible rfl); (try simp only [List.getElem_toArray, List.getElem_cons_succ, List.getElem_cons_zero, Act.put, List.setIfInBounds_toArray, List.set_cons_zero, List.set_cons_succ])); (refine wpAnyH_take (i := 3) (v := ?_) rfl (by kernel_rfl) (by kernel_rfl) (by kernel_rfl) (fun _ _ _ h => h) (Or.inl ⟨by kernel_rfl, ?_⟩) (by assumption) ?_; rotate_left; focus (intro w hSw; (try dsimp only at hSw); go_simp; try with_reducible rfl); (try simp only [List.getElem_toArray, List.getElem_cons_succ, List.getElem_cons_zero, Act.put, List.setIfInBounds_toArray, List.set_cons_zero, List.set_cons_succ])); (refine wpAnyH_take (i := 5) (v := ?_) rfl (by kernel_rfl) (by kernel_rfl) (by kernel_rfl) (fun _ _ _ h => h) (Or.inl ⟨by kernel_rfl, ?_⟩) (by assumption) ?_; rotate_left; focus (intro w hSw; (try dsimp only at hSw); go_simp; try with_reducible rfl); (try simp only [List.getElem_toArray, List.getElem_cons_succ, List.getElem_cons_zero, Act.put, List.setIfInBounds_toArray, List.set_cons_zero, List.set_cons_succ])); (refine wpAnyH_take (i := 8) (v := ?_) rfl (by kernel_rfl) (by kernel_rfl) (by kernel_rfl) (fun _ _ _ h => h) (Or.inl ⟨by kernel_rfl, ?_⟩) (by assumption) ?_; rotate_left; focus (intro w hSw; (try dsimp only at hSw); go_simp; try with_reducible rfl); (try simp only [List.getElem_toArray, List.getElem_cons_succ, List.getElem_cons_zero, Act.put, List.setIfInBounds_toArray, List.set_cons_zero, List.set_cons_succ])); (refine wpAnyH_take (i := 9) (v := ?_) rfl (by kernel_rfl) (by kernel_rfl) (by kernel_rfl) (fun _ _ _ h => h) (Or.inl ⟨by kernel_rfl, ?_⟩) (by assumption) ?_; rotate_left; focus (intro w hSw; (try dsimp only at hSw); go_simp; try with_reducible rfl); (try simp only [List.getElem_toArray, List.getElem_cons_succ, List.getElem_cons_zero, Act.put, List.setIfInBounds_toArray, List.set_cons_zero, List.set_cons_succ])); (refine wpAnyH_take (i := 10) (v := ?_) rfl (by kernel_rfl) (by kernel_rfl) (by kernel_rfl) (fun _ _ _ h => h) (Or.inl ⟨by kernel_rfl, ?_⟩) (by assumption) ?_; rotate_left; focus (intro w hSw; (try dsimp only at hSw); go_simp; try with_reducible rfl); (try simp only [List.getElem_toArray, List.getElem_cons_succ, List.getElem_cons_zero, Act.put, List.setIfInBounds_toArray, List.set_cons_zero, List.set_cons_succ])); (refine wpAnyH_take (i := 11) (v := ?_) rfl (by kernel_rfl) (by kernel_rfl) (by kernel_rfl) (fun _ _ _ h => h) (Or.inl ⟨by kernel_rfl, ?_⟩) (by assumption) ?_; rotate_left; focus (intro w hSw; (try dsimp only at hSw); go_simp; try with_reducible rfl); (try simp only [List.getElem_toArray, List.getElem_cons_succ, List.getElem_cons_zero, Act.put, List.setIfInBounds_toArray, List.set_cons_zero, List.set_cons_succ]))
    clear hw1
    generalize X.drew = X0 at *
    refine wpAnyH_ready (rs := [4, 6, 13]) (by kernel_rfl) (by simp) (AllReadyH.cons rfl (fun K hK => ?_) (AllReadyH.cons rfl (fun K hK => ?_) (AllReadyH.cons rfl (fun K hK => ?_) AllReadyH.nil)))
    · go_simp
      go_at_call 78
      refine (HO.out _ (HR.out.old (by rw [HB.out]; exact hHeld.2.2.2.2.2))).mono ?_; rintro e w4 ⟨v4, rfl, own4, bd⟩
      have KS := Lib.hid (RollH.of (hHeld.2.2.2.keep bd))
      have KO := Lib.hid (And.intro own4 (And.intro bd.size (show B ≤ _ from Nat.le_of_lt hHeld.2.2.2.1.lt))); clear hHeld own4 bd
      go_wp2_with fail
      refine hK.out _ _ KS.out (fun hHeld => ?_)
      clear hK K KS
      (try simp only [List.getElem_toArray, List.getElem_cons_succ, List.getElem_cons_zero, Act.put, List.setIfInBounds_toArray, List.set_cons_zero, List.set_cons_succ])
      refine wpAnyH_ready (rs := [6, 13]) (by kernel_rfl) (by simp) (AllReadyH.cons rfl (fun K hK => ?_) (AllReadyH.cons rfl (fun K hK => ?_) AllReadyH.nil))
      · go_simp
        have bd := below_new w4 (.cells #[.int .i64 p] 3)
        have KS := Lib.hid (RollH.of (hHeld.2.2.2.keep bd))
        have KOn := Lib.hid (And.intro (owns_below KO.out.1 bd) (And.intro (Nat.le_trans KO.out.2.1 bd.size) KO.out.2.2)); clear KO; have KO := KOn; clear KOn
        have k6 := OneAt.new w4 p
        have K6 := Lib.hid k6; clear k6
        clear hHeld bd
        generalize w4.alloc (.cells #[.int .i64 p] 3) = w6 at *
        refine hK.out _ _ KS.out (fun hHeld => ?_)
        clear hK K KS
        (try simp only [List.getElem_toArray, List.getElem_cons_succ, List.getElem_cons_zero, Act.put, List.setIfInBounds_toArray, List.set_cons_zero, List.set_cons_succ])
        refine wpAnyH_ready (rs := [7, 13]) (by kernel_rfl) (by simp) (AllReadyH.cons rfl (fun K hK => ?_) (AllReadyH.cons rfl (fun K hK => ?_) AllReadyH.nil))
        · (try simp only [List.getElem_toArray, List.getElem_cons_succ, List.getElem_cons_zero, Act.put, List.setIfInBounds_toArray, List.set_cons_zero, List.set_cons_succ])
          rw [if_pos (by kernel_rfl)]
          refine wp_append_own_wide _ (.tmp 13) (.tmp 15) 22 ?_ _ 3 i0 (.int .i64 0) 1 8 Tryz.underlying22 HI.out.1 HI.out.2.1 HI.out.2.2.1 HI.out.2.2.2 rfl (by decide) _ l.length (ints l) ?_ KO.out.1 _ 1 1 [.int .i64 p] ?_ (by simp) K6.out.news ?_ ?_ ?_ KO.out.2.1 ?_
          · rfl
          · rfl
          · rfl
          · intro u hu; simp at hu; subst hu; rfl
          · unfold maxLen; omega
          · omega
          intro v7 w7 hown hgrow _
          have KS := Lib.hid (RollH.of (hHeld.2.2.2.grow KO.out.1 KO.out.2.2 hgrow))
          rw [show ints l ++ [Value.int .i64 p] = ints (l ++ [p]) from by simp [ints]] at hown
          obtain ⟨a', c', rfl, -⟩ := Reads.own hown
          have K7 := Lib.hid (And.intro hown KO.out.2.2)
          clear hHeld hown hgrow KO K6
          refine hK.out _ _ KS.out (fun hHeld => ?_)
          clear hK K KS
          (try simp only [List.getElem_toArray, List.getElem_cons_succ, List.getElem_cons_zero, Act.put, List.setIfInBounds_toArray, List.set_cons_zero, List.set_cons_succ])
          (refine wpAnyH_take (i := 12) (v := ?_) rfl (by kernel_rfl) (by kernel_rfl) (by kernel_rfl) (fun _ _ _ h => h) (Or.inl ⟨by kernel_rfl, ?_⟩) (by assumption) ?_; rotate_left; focus (intro w hSw; (try dsimp only at hSw); go_simp; try with_reducible rfl); (try simp only [List.getElem_toArray, List.getElem_cons_succ, List.getElem_cons_zero, Act.put, List.setIfInBounds_toArray, List.set_cons_zero, List.set_cons_succ]))
          refine wpAnyH_ready (rs := [13]) (by kernel_rfl) (by simp) (AllReadyH.cons rfl (fun K hK => ?_) AllReadyH.nil)
          go_simp
          have bd := below_new w7 (.cells #[.int .i64 0, .slice none 0 0, .int .i64 0, .bool false] 69)
          have KS := Lib.hid (RollH.of (hHeld.2.2.2.keep bd))
          have K7n := Lib.hid (And.intro (owns_below K7.out.1 bd) K7.out.2); clear K7; have K7 := K7n; clear K7n
          have k13 := And.intro (BoAt.new w7 0 (.slice none 0 0) 0 false) (show B + 1 < _ from hHeld.2.2.2.2.1.lt)
          have K13 := Lib.hid k13; clear k13
          clear hHeld bd
          generalize w7.alloc (.cells #[.int .i64 0, .slice none 0 0, .int .i64 0, .bool false] 69) = w13 at *
          refine hK.out _ _ KS.out (fun hHeld => ?_)
          clear hK K KS
          (try simp only [List.getElem_toArray, List.getElem_cons_succ, List.getElem_cons_zero, Act.put, List.setIfInBounds_toArray, List.set_cons_zero, List.set_cons_succ])
          have hcut := Lib.hid (CutRoll.mk (p := p) K13.out.1 K13.out.2 K7.out.1 hHeld.2.2.2 K7.out.2)
          obtain ⟨z0, z1, z2, z3⟩ := K13.out.1.cells
          have f0 := K13.out.1.free 0
          have f1 := K13.out.1.free 1
          have f2 := K13.out.1.free 2
          have f3 := K13.out.1.free 3
          clear hHeld
          refine wpAnyH_ready (rs := [14]) (by kernel_rfl) (by simp) ?_; refine AllReadyH.cons rfl (fun K hK => ?_) AllReadyH.nil
          go_simp
          clear z0 z1 z2 z3 f0 f1 f2 f3
          refine hK.out _ _ ?_ (fun hHeld => ?_)
          · obtain ⟨g2, a2, c2, e1, e2, e3, e4, e5, e6⟩ := hcut.out
            exact RollH.of e5
          clear hK K hHeld
          (try simp only [List.getElem_toArray, List.getElem_cons_succ, List.getElem_cons_zero, Act.put, List.setIfInBounds_toArray, List.set_cons_zero, List.set_cons_succ])
          refine wpAnyH_done (by kernel_rfl) ?_ _
          go_wp2_with fail
          go_meet
          exact hcut
        · go_simp
          have bd := below_new w6 (.cells #[.int .i64 0, .slice none 0 0, .int .i64 0, .bool false] 69)
          have KS := Lib.hid (RollH.of (hHeld.2.2.2.keep bd))
          have KOn := Lib.hid (And.intro (owns_below KO.out.1 bd) (And.intro (Nat.le_trans KO.out.2.1 bd.size) KO.out.2.2)); clear KO; have KO := KOn; clear KOn
          have K6n := Lib.hid (K6.out.keep bd); clear K6; have K6 := K6n; clear K6n
          have k13 := And.intro (BoAt.new w6 0 (.slice none 0 0) 0 false) (show B + 1 < _ from hHeld.2.2.2.2.1.lt)
          have K13 := Lib.hid k13; clear k13
          clear hHeld bd
          generalize w6.alloc (.cells #[.int .i64 0, .slice none 0 0, .int .i64 0, .bool false] 69) = w13 at *
          refine hK.out _ _ KS.out (fun hHeld => ?_)
          clear hK K KS
          (try simp only [List.getElem_toArray, List.getElem_cons_succ, List.getElem_cons_zero, Act.put, List.setIfInBounds_toArray, List.set_cons_zero, List.set_cons_succ])
          refine wpAnyH_ready (rs := [7]) (by kernel_rfl) (by simp) (AllReadyH.cons rfl (fun K hK => ?_) AllReadyH.nil)
          (try simp only [List.getElem_toArray, List.getElem_cons_succ, List.getElem_cons_zero, Act.put, List.setIfInBounds_toArray, List.set_cons_zero, List.set_cons_succ])
          rw [if_pos (by kernel_rfl)]
          refine wp_append_own_wide _ (.tmp 13) (.tmp 15) 22 ?_ _ 3 i0 (.int .i64 0) 1 8 Tryz.underlying22 HI.out.1 HI.out.2.1 HI.out.2.2.1 HI.out.2.2.2 rfl (by decide) _ l.length (ints l) ?_ KO.out.1 _ 1 1 [.int .i64 p] ?_ (by simp) K6.out.news ?_ ?_ ?_ KO.out.2.1 ?_
          · rfl
          · rfl
          · rfl
          · intro u hu; simp at hu; subst hu; rfl
          · unfold maxLen; omega
          · omega
          intro v7 w7 hown hgrow _
          have KS := Lib.hid (RollH.of (hHeld.2.2.2.grow KO.out.1 KO.out.2.2 hgrow))
          have K13n := Lib.hid (And.intro (K13.out.1.grow KO.out.1 hgrow) K13.out.2); clear K13; have K13 := K13n; clear K13n
          rw [show ints l ++ [Value.int .i64 p] = ints (l ++ [p]) from by simp [ints]] at hown
          obtain ⟨a', c', rfl, -⟩ := Reads.own hown
          have K7 := Lib.hid (And.intro hown KO.out.2.2)
          clear hHeld hown hgrow KO K6
          refine hK.out _ _ KS.out (fun hHeld => ?_)
          clear hK K KS
          (try simp only [List.getElem_toArray, List.getElem_cons_succ, List.getElem_cons_zero, Act.put, List.setIfInBounds_toArray, List.set_cons_zero, List.set_cons_succ])
          (refine wpAnyH_take (i := 12) (v := ?_) rfl (by kernel_rfl) (by kernel_rfl) (by kernel_rfl) (fun _ _ _ h => h) (Or.inl ⟨by kernel_rfl, ?_⟩) (by assumption) ?_; rotate_left; focus (intro w hSw; (try dsimp only at hSw); go_simp; try with_reducible rfl); (try simp only [List.getElem_toArray, List.getElem_cons_succ, List.getElem_cons_zero, Act.put, List.setIfInBounds_toArray, List.set_cons_zero, List.set_cons_succ]))
          have hcut := Lib.hid (CutRoll.mk (p := p) K13.out.1 K13.out.2 K7.out.1 hHeld.2.2.2 K7.out.2)
          obtain ⟨z0, z1, z2, z3⟩ := K13.out.1.cells
          have f0 := K13.out.1.free 0
          have f1 := K13.out.1.free 1
          have f2 := K13.out.1.free 2
          have f3 := K13.out.1.free 3
          clear hHeld
          refine wpAnyH_ready (rs := [14]) (by kernel_rfl) (by simp) ?_; refine AllReadyH.cons rfl (fun K hK => ?_) AllReadyH.nil
          go_simp
          clear z0 z1 z2 z3 f0 f1 f2 f3
          refine hK.out _ _ ?_ (fun hHeld => ?_)
          · obtain ⟨g2, a2, c2, e1, e2, e3, e4, e5, e6⟩ := hcut.out
            exact RollH.of e5
          clear hK K hHeld
          (try simp only [List.getElem_toArray, List.getElem_cons_succ, List.getElem_cons_zero, Act.put, List.setIfInBounds_toArray, List.set_cons_zero, List.set_cons_succ])
          refine wpAnyH_done (by kernel_rfl) ?_ _
          go_wp2_with fail
          go_meet
          exact hcut
      · go_simp
        have bd := below_new w4 (.cells #[.int .i64 0, .slice none 0 0, .int .i64 0, .bool false] 69)
        have KS := Lib.hid (RollH.of (hHeld.2.2.2.keep bd))
        have KOn := Lib.hid (And.intro (owns_below KO.out.1 bd) (And.intro (Nat.le_trans KO.out.2.1 bd.size) KO.out.2.2)); clear KO; have KO := KOn; clear KOn
        have k13 := And.intro (BoAt.new w4 0 (.slice none 0 0) 0 false) (show B + 1 < _ from hHeld.2.2.2.2.1.lt)
        have K13 := Lib.hid k13; clear k13
        clear hHeld bd
        generalize w4.alloc (.cells #[.int .i64 0, .slice none 0 0, .int .i64 0, .bool false] 69) = w13 at *
        refine hK.out _ _ KS.out (fun hHeld => ?_)
        clear hK K KS
        (try simp only [List.getElem_toArray, List.getElem_cons_succ, List.getElem_cons_zero, Act.put, List.setIfInBounds_toArray, List.set_cons_zero, List.set_cons_succ])
        refine wpAnyH_ready (rs := [6]) (by kernel_rfl) (by simp) (AllReadyH.cons rfl (fun K hK => ?_) AllReadyH.nil)
        go_simp
        have bd := below_new w13 (.cells #[.int .i64 p] 3)
        have KS := Lib.hid (RollH.of (hHeld.2.2.2.keep bd))
        have KOn := Lib.hid (And.intro (owns_below KO.out.1 bd) (And.intro (Nat.le_trans KO.out.2.1 bd.size) KO.out.2.2)); clear KO; have KO := KOn; clear KOn
        have K13n := Lib.hid (And.intro (K13.out.1.keep bd) K13.out.2); clear K13; have K13 := K13n; clear K13n
        have k6 := OneAt.new w13 p
        have K6 := Lib.hid k6; clear k6
        clear hHeld bd
        generalize w13.alloc (.cells #[.int .i64 p] 3) = w6 at *
        refine hK.out _ _ KS.out (fun hHeld => ?_)
        clear hK K KS
        (try simp only [List.getElem_toArray, List.getElem_cons_succ, List.getElem_cons_zero, Act.put, List.setIfInBounds_toArray, List.set_cons_zero, List.set_cons_succ])
        refine wpAnyH_ready (rs := [7]) (by kernel_rfl) (by simp) (AllReadyH.cons rfl (fun K hK => ?_) AllReadyH.nil)
        (try simp only [List.getElem_toArray, List.getElem_cons_succ, List.getElem_cons_zero, Act.put, List.setIfInBounds_toArray, List.set_cons_zero, List.set_cons_succ])
        rw [if_pos (by kernel_rfl)]
        refine wp_append_own_wide _ (.tmp 13) (.tmp 15) 22 ?_ _ 3 i0 (.int .i64 0) 1 8 Tryz.underlying22 HI.out.1 HI.out.2.1 HI.out.2.2.1 HI.out.2.2.2 rfl (by decide) _ l.length (ints l) ?_ KO.out.1 _ 1 1 [.int .i64 p] ?_ (by simp) K6.out.news ?_ ?_ ?_ KO.out.2.1 ?_
        · rfl
        · rfl
        · rfl
        · intro u hu; simp at hu; subst hu; rfl
        · unfold maxLen; omega
        · omega
        intro v7 w7 hown hgrow _
        have KS := Lib.hid (RollH.of (hHeld.2.2.2.grow KO.out.1 KO.out.2.2 hgrow))
        have K13n := Lib.hid (And.intro (K13.out.1.grow KO.out.1 hgrow) K13.out.2); clear K13; have K13 := K13n; clear K13n
        rw [show ints l ++ [Value.int .i64 p] = ints (l ++ [p]) from by simp [ints]] at hown
        obtain ⟨a', c', rfl, -⟩ := Reads.own hown
        have K7 := Lib.hid (And.intro hown KO.out.2.2)
        clear hHeld hown hgrow KO K6
        refine hK.out _ _ KS.out (fun hHeld => ?_)
        clear hK K KS
        (try simp only [List.getElem_toArray, List.getElem_cons_succ, List.getElem_cons_zero, Act.put, List.setIfInBounds_toArray, List.set_cons_zero, List.set_cons_succ])
        (refine wpAnyH_take (i := 12) (v := ?_) rfl (by kernel_rfl) (by kernel_rfl) (by kernel_rfl) (fun _ _ _ h => h) (Or.inl ⟨by kernel_rfl, ?_⟩) (by assumption) ?_; rotate_left; focus (intro w hSw; (try dsimp only at hSw); go_simp; try with_reducible rfl); (try simp only [List.getElem_toArray, List.getElem_cons_succ, List.getElem_cons_zero, Act.put, List.setIfInBounds_toArray, List.set_cons_zero, List.set_cons_succ]))
        have hcut := Lib.hid (CutRoll.mk (p := p) K13.out.1 K13.out.2 K7.out.1 hHeld.2.2.2 K7.out.2)
        obtain ⟨z0, z1, z2, z3⟩ := K13.out.1.cells
        have f0 := K13.out.1.free 0
        have f1 := K13.out.1.free 1
        have f2 := K13.out.1.free 2
        have f3 := K13.out.1.free 3
        clear hHeld
        refine wpAnyH_ready (rs := [14]) (by kernel_rfl) (by simp) ?_; refine AllReadyH.cons rfl (fun K hK => ?_) AllReadyH.nil
        go_simp
        clear z0 z1 z2 z3 f0 f1 f2 f3
        refine hK.out _ _ ?_ (fun hHeld => ?_)
        · obtain ⟨g2, a2, c2, e1, e2, e3, e4, e5, e6⟩ := hcut.out
          exact RollH.of e5
        clear hK K hHeld
        (try simp only [List.getElem_toArray, List.getElem_cons_succ, List.getElem_cons_zero, Act.put, List.setIfInBounds_toArray, List.set_cons_zero, List.set_cons_succ])
        refine wpAnyH_done (by kernel_rfl) ?_ _
        go_wp2_with fail
        go_meet
        exact hcut
    · go_simp
      have bd := below_new X0 (.cells #[.int .i64 p] 3)
      have KS := Lib.hid (RollH.of (hHeld.2.2.2.keep bd))
      have k6 := OneAt.new X0 p
      have K6 := Lib.hid k6; clear k6
      clear hHeld bd
      generalize X0.alloc (.cells #[.int .i64 p] 3) = w6 at *
      refine hK.out _ _ KS.out (fun hHeld => ?_)
      clear hK K KS
      (try simp only [List.getElem_toArray, List.getElem_cons_succ, List.getElem_cons_zero, Act.put, List.setIfInBounds_toArray, List.set_cons_zero, List.set_cons_succ])
      refine wpAnyH_ready (rs := [4, 13]) (by kernel_rfl) (by simp) (AllReadyH.cons rfl (fun K hK => ?_) (AllReadyH.cons rfl (fun K hK => ?_) AllReadyH.nil))
      · go_simp
        go_at_call 78
        refine (HO.out _ (HR.out.old (by rw [HB.out]; exact hHeld.2.2.2.2.2))).mono ?_; rintro e w4 ⟨v4, rfl, own4, bd⟩
        have KS := Lib.hid (RollH.of (hHeld.2.2.2.keep bd))
        have K6n := Lib.hid (K6.out.keep bd); clear K6; have K6 := K6n; clear K6n
        have KO := Lib.hid (And.intro own4 (And.intro bd.size (show B ≤ _ from Nat.le_of_lt hHeld.2.2.2.1.lt))); clear hHeld own4 bd
        go_wp2_with fail
        refine hK.out _ _ KS.out (fun hHeld => ?_)
        clear hK K KS
        (try simp only [List.getElem_toArray, List.getElem_cons_succ, List.getElem_cons_zero, Act.put, List.setIfInBounds_toArray, List.set_cons_zero, List.set_cons_succ])
        refine wpAnyH_ready (rs := [7, 13]) (by kernel_rfl) (by simp) (AllReadyH.cons rfl (fun K hK => ?_) (AllReadyH.cons rfl (fun K hK => ?_) AllReadyH.nil))
        · (try simp only [List.getElem_toArray, List.getElem_cons_succ, List.getElem_cons_zero, Act.put, List.setIfInBounds_toArray, List.set_cons_zero, List.set_cons_succ])
          rw [if_pos (by kernel_rfl)]
          refine wp_append_own_wide _ (.tmp 13) (.tmp 15) 22 ?_ _ 3 i0 (.int .i64 0) 1 8 Tryz.underlying22 HI.out.1 HI.out.2.1 HI.out.2.2.1 HI.out.2.2.2 rfl (by decide) _ l.length (ints l) ?_ KO.out.1 _ 1 1 [.int .i64 p] ?_ (by simp) K6.out.news ?_ ?_ ?_ KO.out.2.1 ?_
          · rfl
          · rfl
          · rfl
          · intro u hu; simp at hu; subst hu; rfl
          · unfold maxLen; omega
          · omega
          intro v7 w7 hown hgrow _
          have KS := Lib.hid (RollH.of (hHeld.2.2.2.grow KO.out.1 KO.out.2.2 hgrow))
          rw [show ints l ++ [Value.int .i64 p] = ints (l ++ [p]) from by simp [ints]] at hown
          obtain ⟨a', c', rfl, -⟩ := Reads.own hown
          have K7 := Lib.hid (And.intro hown KO.out.2.2)
          clear hHeld hown hgrow KO K6
          refine hK.out _ _ KS.out (fun hHeld => ?_)
          clear hK K KS
          (try simp only [List.getElem_toArray, List.getElem_cons_succ, List.getElem_cons_zero, Act.put, List.setIfInBounds_toArray, List.set_cons_zero, List.set_cons_succ])
          (refine wpAnyH_take (i := 12) (v := ?_) rfl (by kernel_rfl) (by kernel_rfl) (by kernel_rfl) (fun _ _ _ h => h) (Or.inl ⟨by kernel_rfl, ?_⟩) (by assumption) ?_; rotate_left; focus (intro w hSw; (try dsimp only at hSw); go_simp; try with_reducible rfl); (try simp only [List.getElem_toArray, List.getElem_cons_succ, List.getElem_cons_zero, Act.put, List.setIfInBounds_toArray, List.set_cons_zero, List.set_cons_succ]))
          refine wpAnyH_ready (rs := [13]) (by kernel_rfl) (by simp) (AllReadyH.cons rfl (fun K hK => ?_) AllReadyH.nil)
          go_simp
          have bd := below_new w7 (.cells #[.int .i64 0, .slice none 0 0, .int .i64 0, .bool false] 69)
          have KS := Lib.hid (RollH.of (hHeld.2.2.2.keep bd))
          have K7n := Lib.hid (And.intro (owns_below K7.out.1 bd) K7.out.2); clear K7; have K7 := K7n; clear K7n
          have k13 := And.intro (BoAt.new w7 0 (.slice none 0 0) 0 false) (show B + 1 < _ from hHeld.2.2.2.2.1.lt)
          have K13 := Lib.hid k13; clear k13
          clear hHeld bd
          generalize w7.alloc (.cells #[.int .i64 0, .slice none 0 0, .int .i64 0, .bool false] 69) = w13 at *
          refine hK.out _ _ KS.out (fun hHeld => ?_)
          clear hK K KS
          (try simp only [List.getElem_toArray, List.getElem_cons_succ, List.getElem_cons_zero, Act.put, List.setIfInBounds_toArray, List.set_cons_zero, List.set_cons_succ])
          have hcut := Lib.hid (CutRoll.mk (p := p) K13.out.1 K13.out.2 K7.out.1 hHeld.2.2.2 K7.out.2)
          obtain ⟨z0, z1, z2, z3⟩ := K13.out.1.cells
          have f0 := K13.out.1.free 0
          have f1 := K13.out.1.free 1
          have f2 := K13.out.1.free 2
          have f3 := K13.out.1.free 3
          clear hHeld
          refine wpAnyH_ready (rs := [14]) (by kernel_rfl) (by simp) ?_; refine AllReadyH.cons rfl (fun K hK => ?_) AllReadyH.nil
          go_simp
          clear z0 z1 z2 z3 f0 f1 f2 f3
          refine hK.out _ _ ?_ (fun hHeld => ?_)
          · obtain ⟨g2, a2, c2, e1, e2, e3, e4, e5, e6⟩ := hcut.out
            exact RollH.of e5
          clear hK K hHeld
          (try simp only [List.getElem_toArray, List.getElem_cons_succ, List.getElem_cons_zero, Act.put, List.setIfInBounds_toArray, List.set_cons_zero, List.set_cons_succ])
          refine wpAnyH_done (by kernel_rfl) ?_ _
          go_wp2_with fail
          go_meet
          exact hcut
        · go_simp
          have bd := below_new w4 (.cells #[.int .i64 0, .slice none 0 0, .int .i64 0, .bool false] 69)
          have KS := Lib.hid (RollH.of (hHeld.2.2.2.keep bd))
          have KOn := Lib.hid (And.intro (owns_below KO.out.1 bd) (And.intro (Nat.le_trans KO.out.2.1 bd.size) KO.out.2.2)); clear KO; have KO := KOn; clear KOn
          have K6n := Lib.hid (K6.out.keep bd); clear K6; have K6 := K6n; clear K6n
          have k13 := And.intro (BoAt.new w4 0 (.slice none 0 0) 0 false) (show B + 1 < _ from hHeld.2.2.2.2.1.lt)
          have K13 := Lib.hid k13; clear k13
          clear hHeld bd
          generalize w4.alloc (.cells #[.int .i64 0, .slice none 0 0, .int .i64 0, .bool false] 69) = w13 at *
          refine hK.out _ _ KS.out (fun hHeld => ?_)
          clear hK K KS
          (try simp only [List.getElem_toArray, List.getElem_cons_succ, List.getElem_cons_zero, Act.put, List.setIfInBounds_toArray, List.set_cons_zero, List.set_cons_succ])
          refine wpAnyH_ready (rs := [7]) (by kernel_rfl) (by simp) (AllReadyH.cons rfl (fun K hK => ?_) AllReadyH.nil)
          (try simp only [List.getElem_toArray, List.getElem_cons_succ, List.getElem_cons_zero, Act.put, List.setIfInBounds_toArray, List.set_cons_zero, List.set_cons_succ])
          rw [if_pos (by kernel_rfl)]
          refine wp_append_own_wide _ (.tmp 13) (.tmp 15) 22 ?_ _ 3 i0 (.int .i64 0) 1 8 Tryz.underlying22 HI.out.1 HI.out.2.1 HI.out.2.2.1 HI.out.2.2.2 rfl (by decide) _ l.length (ints l) ?_ KO.out.1 _ 1 1 [.int .i64 p] ?_ (by simp) K6.out.news ?_ ?_ ?_ KO.out.2.1 ?_
          · rfl
          · rfl
          · rfl
          · intro u hu; simp at hu; subst hu; rfl
          · unfold maxLen; omega
          · omega
          intro v7 w7 hown hgrow _
          have KS := Lib.hid (RollH.of (hHeld.2.2.2.grow KO.out.1 KO.out.2.2 hgrow))
          have K13n := Lib.hid (And.intro (K13.out.1.grow KO.out.1 hgrow) K13.out.2); clear K13; have K13 := K13n; clear K13n
          rw [show ints l ++ [Value.int .i64 p] = ints (l ++ [p]) from by simp [ints]] at hown
          obtain ⟨a', c', rfl, -⟩ := Reads.own hown
          have K7 := Lib.hid (And.intro hown KO.out.2.2)
          clear hHeld hown hgrow KO K6
          refine hK.out _ _ KS.out (fun hHeld => ?_)
          clear hK K KS
          (try simp only [List.getElem_toArray, List.getElem_cons_succ, List.getElem_cons_zero, Act.put, List.setIfInBounds_toArray, List.set_cons_zero, List.set_cons_succ])
          (refine wpAnyH_take (i := 12) (v := ?_) rfl (by kernel_rfl) (by kernel_rfl) (by kernel_rfl) (fun _ _ _ h => h) (Or.inl ⟨by kernel_rfl, ?_⟩) (by assumption) ?_; rotate_left; focus (intro w hSw; (try dsimp only at hSw); go_simp; try with_reducible rfl); (try simp only [List.getElem_toArray, List.getElem_cons_succ, List.getElem_cons_zero, Act.put, List.setIfInBounds_toArray, List.set_cons_zero, List.set_cons_succ]))
          have hcut := Lib.hid (CutRoll.mk (p := p) K13.out.1 K13.out.2 K7.out.1 hHeld.2.2.2 K7.out.2)
          obtain ⟨z0, z1, z2, z3⟩ := K13.out.1.cells
          have f0 := K13.out.1.free 0
          have f1 := K13.out.1.free 1
          have f2 := K13.out.1.free 2
          have f3 := K13.out.1.free 3
          clear hHeld
          refine wpAnyH_ready (rs := [14]) (by kernel_rfl) (by simp) ?_; refine AllReadyH.cons rfl (fun K hK => ?_) AllReadyH.nil
          go_simp
          clear z0 z1 z2 z3 f0 f1 f2 f3
          refine hK.out _ _ ?_ (fun hHeld => ?_)
          · obtain ⟨g2, a2, c2, e1, e2, e3, e4, e5, e6⟩ := hcut.out
            exact RollH.of e5
          clear hK K hHeld
          (try simp only [List.getElem_toArray, List.getElem_cons_succ, List.getElem_cons_zero, Act.put, List.setIfInBounds_toArray, List.set_cons_zero, List.set_cons_succ])
          refine wpAnyH_done (by kernel_rfl) ?_ _
          go_wp2_with fail
          go_meet
          exact hcut
      · go_simp
        have bd := below_new w6 (.cells #[.int .i64 0, .slice none 0 0, .int .i64 0, .bool false] 69)
        have KS := Lib.hid (RollH.of (hHeld.2.2.2.keep bd))
        have K6n := Lib.hid (K6.out.keep bd); clear K6; have K6 := K6n; clear K6n
        have k13 := And.intro (BoAt.new w6 0 (.slice none 0 0) 0 false) (show B + 1 < _ from hHeld.2.2.2.2.1.lt)
        have K13 := Lib.hid k13; clear k13
        clear hHeld bd
        generalize w6.alloc (.cells #[.int .i64 0, .slice none 0 0, .int .i64 0, .bool false] 69) = w13 at *
        refine hK.out _ _ KS.out (fun hHeld => ?_)
        clear hK K KS
        (try simp only [List.getElem_toArray, List.getElem_cons_succ, List.getElem_cons_zero, Act.put, List.setIfInBounds_toArray, List.set_cons_zero, List.set_cons_succ])
        refine wpAnyH_ready (rs := [4]) (by kernel_rfl) (by simp) (AllReadyH.cons rfl (fun K hK => ?_) AllReadyH.nil)
        go_simp
        go_at_call 78
        refine (HO.out _ (HR.out.old (by rw [HB.out]; exact hHeld.2.2.2.2.2))).mono ?_; rintro e w4 ⟨v4, rfl, own4, bd⟩
        have KS := Lib.hid (RollH.of (hHeld.2.2.2.keep bd))
        have K6n := Lib.hid (K6.out.keep bd); clear K6; have K6 := K6n; clear K6n
        have K13n := Lib.hid (And.intro (K13.out.1.keep bd) K13.out.2); clear K13; have K13 := K13n; clear K13n
        have KO := Lib.hid (And.intro own4 (And.intro bd.size (show B ≤ _ from Nat.le_of_lt hHeld.2.2.2.1.lt))); clear hHeld own4 bd
        go_wp2_with fail
        refine hK.out _ _ KS.out (fun hHeld => ?_)
        clear hK K KS
        (try simp only [List.getElem_toArray, List.getElem_cons_succ, List.getElem_cons_zero, Act.put, List.setIfInBounds_toArray, List.set_cons_zero, List.set_cons_succ])
        refine wpAnyH_ready (rs := [7]) (by kernel_rfl) (by simp) (AllReadyH.cons rfl (fun K hK => ?_) AllReadyH.nil)
        (try simp only [List.getElem_toArray, List.getElem_cons_succ, List.getElem_cons_zero, Act.put, List.setIfInBounds_toArray, List.set_cons_zero, List.set_cons_succ])
        rw [if_pos (by kernel_rfl)]
        refine wp_append_own_wide _ (.tmp 13) (.tmp 15) 22 ?_ _ 3 i0 (.int .i64 0) 1 8 Tryz.underlying22 HI.out.1 HI.out.2.1 HI.out.2.2.1 HI.out.2.2.2 rfl (by decide) _ l.length (ints l) ?_ KO.out.1 _ 1 1 [.int .i64 p] ?_ (by simp) K6.out.news ?_ ?_ ?_ KO.out.2.1 ?_
        · rfl
        · rfl
        · rfl
        · intro u hu; simp at hu; subst hu; rfl
        · unfold maxLen; omega
        · omega
        intro v7 w7 hown hgrow _
        have KS := Lib.hid (RollH.of (hHeld.2.2.2.grow KO.out.1 KO.out.2.2 hgrow))
        have K13n := Lib.hid (And.intro (K13.out.1.grow KO.out.1 hgrow) K13.out.2); clear K13; have K13 := K13n; clear K13n
        rw [show ints l ++ [Value.int .i64 p] = ints (l ++ [p]) from by simp [ints]] at hown
        obtain ⟨a', c', rfl, -⟩ := Reads.own hown
        have K7 := Lib.hid (And.intro hown KO.out.2.2)
        clear hHeld hown hgrow KO K6
        refine hK.out _ _ KS.out (fun hHeld => ?_)
        clear hK K KS
        (try simp only [List.getElem_toArray, List.getElem_cons_succ, List.getElem_cons_zero, Act.put, List.setIfInBounds_toArray, List.set_cons_zero, List.set_cons_succ])
        (refine wpAnyH_take (i := 12) (v := ?_) rfl (by kernel_rfl) (by kernel_rfl) (by kernel_rfl) (fun _ _ _ h => h) (Or.inl ⟨by kernel_rfl, ?_⟩) (by assumption) ?_; rotate_left; focus (intro w hSw; (try dsimp only at hSw); go_simp; try with_reducible rfl); (try simp only [List.getElem_toArray, List.getElem_cons_succ, List.getElem_cons_zero, Act.put, List.setIfInBounds_toArray, List.set_cons_zero, List.set_cons_succ]))
        have hcut := Lib.hid (CutRoll.mk (p := p) K13.out.1 K13.out.2 K7.out.1 hHeld.2.2.2 K7.out.2)
        obtain ⟨z0, z1, z2, z3⟩ := K13.out.1.cells
        have f0 := K13.out.1.free 0
        have f1 := K13.out.1.free 1
        have f2 := K13.out.1.free 2
        have f3 := K13.out.1.free 3
        clear hHeld
        refine wpAnyH_ready (rs := [14]) (by kernel_rfl) (by simp) ?_; refine AllReadyH.cons rfl (fun K hK => ?_) AllReadyH.nil
        go_simp
        clear z0 z1 z2 z3 f0 f1 f2 f3
        refine hK.out _ _ ?_ (fun hHeld => ?_)
        · obtain ⟨g2, a2, c2, e1, e2, e3, e4, e5, e6⟩ := hcut.out
          exact RollH.of e5
        clear hK K hHeld
        (try simp only [List.getElem_toArray, List.getElem_cons_succ, List.getElem_cons_zero, Act.put, List.setIfInBounds_toArray, List.set_cons_zero, List.set_cons_succ])
        refine wpAnyH_done (by kernel_rfl) ?_ _
        go_wp2_with fail
        go_meet
        exact hcut
    · go_simp
      have bd := below_new X0 (.cells #[.int .i64 0, .slice none 0 0, .int .i64 0, .bool false] 69)
      have KS := Lib.hid (RollH.of (hHeld.2.2.2.keep bd))
      have k13 := And.intro (BoAt.new X0 0 (.slice none 0 0) 0 false) (show B + 1 < _ from hHeld.2.2.2.2.1.lt)
      have K13 := Lib.hid k13; clear k13
      clear hHeld bd
      generalize X0.alloc (.cells #[.int .i64 0, .slice none 0 0, .int .i64 0, .bool false] 69) = w13 at *
      refine hK.out _ _ KS.out (fun hHeld => ?_)
      clear hK K KS
      (try simp only [List.getElem_toArray, List.getElem_cons_succ, List.getElem_cons_zero, Act.put, List.setIfInBounds_toArray, List.set_cons_zero, List.set_cons_succ])
      refine wpAnyH_ready (rs := [4, 6]) (by kernel_rfl) (by simp) (AllReadyH.cons rfl (fun K hK => ?_) (AllReadyH.cons rfl (fun K hK => ?_) AllReadyH.nil))
      · go_simp
        go_at_call 78
        refine (HO.out _ (HR.out.old (by rw [HB.out]; exact hHeld.2.2.2.2.2))).mono ?_; rintro e w4 ⟨v4, rfl, own4, bd⟩
        have KS := Lib.hid (RollH.of (hHeld.2.2.2.keep bd))
        have K13n := Lib.hid (And.intro (K13.out.1.keep bd) K13.out.2); clear K13; have K13 := K13n; clear K13n
        have KO := Lib.hid (And.intro own4 (And.intro bd.size (show B ≤ _ from Nat.le_of_lt hHeld.2.2.2.1.lt))); clear hHeld own4 bd
        go_wp2_with fail
        refine hK.out _ _ KS.out (fun hHeld => ?_)
        clear hK K KS
        (try simp only [List.getElem_toArray, List.getElem_cons_succ, List.getElem_cons_zero, Act.put, List.setIfInBounds_toArray, List.set_cons_zero, List.set_cons_succ])
        refine wpAnyH_ready (rs := [6]) (by kernel_rfl) (by simp) (AllReadyH.cons rfl (fun K hK => ?_) AllReadyH.nil)
        go_simp
        have bd := below_new w4 (.cells #[.int .i64 p] 3)
        have KS := Lib.hid (RollH.of (hHeld.2.2.2.keep bd))
        have KOn := Lib.hid (And.intro (owns_below KO.out.1 bd) (And.intro (Nat.le_trans KO.out.2.1 bd.size) KO.out.2.2)); clear KO; have KO := KOn; clear KOn
        have K13n := Lib.hid (And.intro (K13.out.1.keep bd) K13.out.2); clear K13; have K13 := K13n; clear K13n
        have k6 := OneAt.new w4 p
        have K6 := Lib.hid k6; clear k6
        clear hHeld bd
        generalize w4.alloc (.cells #[.int .i64 p] 3) = w6 at *
        refine hK.out _ _ KS.out (fun hHeld => ?_)
        clear hK K KS
        (try simp only [List.getElem_toArray, List.getElem_cons_succ, List.getElem_cons_zero, Act.put, List.setIfInBounds_toArray, List.set_cons_zero, List.set_cons_succ])
        refine wpAnyH_ready (rs := [7]) (by kernel_rfl) (by simp) (AllReadyH.cons rfl (fun K hK => ?_) AllReadyH.nil)
        (try simp only [List.getElem_toArray, List.getElem_cons_succ, List.getElem_cons_zero, Act.put, List.setIfInBounds_toArray, List.set_cons_zero, List.set_cons_succ])
        rw [if_pos (by kernel_rfl)]
        refine wp_append_own_wide _ (.tmp 13) (.tmp 15) 22 ?_ _ 3 i0 (.int .i64 0) 1 8 Tryz.underlying22 HI.out.1 HI.out.2.1 HI.out.2.2.1 HI.out.2.2.2 rfl (by decide) _ l.length (ints l) ?_ KO.out.1 _ 1 1 [.int .i64 p] ?_ (by simp) K6.out.news ?_ ?_ ?_ KO.out.2.1 ?_
        · rfl
        · rfl
        · rfl
        · intro u hu; simp at hu; subst hu; rfl
        · unfold maxLen; omega
        · omega
        intro v7 w7 hown hgrow _
        have KS := Lib.hid (RollH.of (hHeld.2.2.2.grow KO.out.1 KO.out.2.2 hgrow))
        have K13n := Lib.hid (And.intro (K13.out.1.grow KO.out.1 hgrow) K13.out.2); clear K13; have K13 := K13n; clear K13n
        rw [show ints l ++ [Value.int .i64 p] = ints (l ++ [p]) from by simp [ints]] at hown
        obtain ⟨a', c', rfl, -⟩ := Reads.own hown
        have K7 := Lib.hid (And.intro hown KO.out.2.2)
        clear hHeld hown hgrow KO K6
        refine hK.out _ _ KS.out (fun hHeld => ?_)
        clear hK K KS
        (try simp only [List.getElem_toArray, List.getElem_cons_succ, List.getElem_cons_zero, Act.put, List.setIfInBounds_toArray, List.set_cons_zero, List.set_cons_succ])
        (refine wpAnyH_take (i := 12) (v := ?_) rfl (by kernel_rfl) (by kernel_rfl) (by kernel_rfl) (fun _ _ _ h => h) (Or.inl ⟨by kernel_rfl, ?_⟩) (by assumption) ?_; rotate_left; focus (intro w hSw; (try dsimp only at hSw); go_simp; try with_reducible rfl); (try simp only [List.getElem_toArray, List.getElem_cons_succ, List.getElem_cons_zero, Act.put, List.setIfInBounds_toArray, List.set_cons_zero, List.set_cons_succ]))
        have hcut := Lib.hid (CutRoll.mk (p := p) K13.out.1 K13.out.2 K7.out.1 hHeld.2.2.2 K7.out.2)
        obtain ⟨z0, z1, z2, z3⟩ := K13.out.1.cells
        have f0 := K13.out.1.free 0
        have f1 := K13.out.1.free 1
        have f2 := K13.out.1.free 2
        have f3 := K13.out.1.free 3
        clear hHeld
        refine wpAnyH_ready (rs := [14]) (by kernel_rfl) (by simp) ?_; refine AllReadyH.cons rfl (fun K hK => ?_) AllReadyH.nil
        go_simp
        clear z0 z1 z2 z3 f0 f1 f2 f3
        refine hK.out _ _ ?_ (fun hHeld => ?_)
        · obtain ⟨g2, a2, c2, e1, e2, e3, e4, e5, e6⟩ := hcut.out
          exact RollH.of e5
        clear hK K hHeld
        (try simp only [List.getElem_toArray, List.getElem_cons_succ, List.getElem_cons_zero, Act.put, List.setIfInBounds_toArray, List.set_cons_zero, List.set_cons_succ])
        refine wpAnyH_done (by kernel_rfl) ?_ _
        go_wp2_with fail
        go_meet
        exact hcut
      · go_simp
        have bd := below_new w13 (.cells #[.int .i64 p] 3)
        have KS := Lib.hid (RollH.of (hHeld.2.2.2.keep bd))
        have K13n := Lib.hid (And.intro (K13.out.1.keep bd) K13.out.2); clear K13; have K13 := K13n; clear K13n
        have k6 := OneAt.new w13 p
        have K6 := Lib.hid k6; clear k6
        clear hHeld bd
        generalize w13.alloc (.cells #[.int .i64 p] 3) = w6 at *
        refine hK.out _ _ KS.out (fun hHeld => ?_)
        clear hK K KS
        (try simp only [List.getElem_toArray, List.getElem_cons_succ, List.getElem_cons_zero, Act.put, List.setIfInBounds_toArray, List.set_cons_zero, List.set_cons_succ])
        refine wpAnyH_ready (rs := [4]) (by kernel_rfl) (by simp) (AllReadyH.cons rfl (fun K hK => ?_) AllReadyH.nil)
        go_simp
        go_at_call 78
        refine (HO.out _ (HR.out.old (by rw [HB.out]; exact hHeld.2.2.2.2.2))).mono ?_; rintro e w4 ⟨v4, rfl, own4, bd⟩
        have KS := Lib.hid (RollH.of (hHeld.2.2.2.keep bd))
        have K6n := Lib.hid (K6.out.keep bd); clear K6; have K6 := K6n; clear K6n
        have K13n := Lib.hid (And.intro (K13.out.1.keep bd) K13.out.2); clear K13; have K13 := K13n; clear K13n
        have KO := Lib.hid (And.intro own4 (And.intro bd.size (show B ≤ _ from Nat.le_of_lt hHeld.2.2.2.1.lt))); clear hHeld own4 bd
        go_wp2_with fail
        refine hK.out _ _ KS.out (fun hHeld => ?_)
        clear hK K KS
        (try simp only [List.getElem_toArray, List.getElem_cons_succ, List.getElem_cons_zero, Act.put, List.setIfInBounds_toArray, List.set_cons_zero, List.set_cons_succ])
        refine wpAnyH_ready (rs := [7]) (by kernel_rfl) (by simp) (AllReadyH.cons rfl (fun K hK => ?_) AllReadyH.nil)
        (try simp only [List.getElem_toArray, List.getElem_cons_succ, List.getElem_cons_zero, Act.put, List.setIfInBounds_toArray, List.set_cons_zero, List.set_cons_succ])
        rw [if_pos (by kernel_rfl)]
        refine wp_append_own_wide _ (.tmp 13) (.tmp 15) 22 ?_ _ 3 i0 (.int .i64 0) 1 8 Tryz.underlying22 HI.out.1 HI.out.2.1 HI.out.2.2.1 HI.out.2.2.2 rfl (by decide) _ l.length (ints l) ?_ KO.out.1 _ 1 1 [.int .i64 p] ?_ (by simp) K6.out.news ?_ ?_ ?_ KO.out.2.1 ?_
        · rfl
        · rfl
        · rfl
        · intro u hu; simp at hu; subst hu; rfl
        · unfold maxLen; omega
        · omega
        intro v7 w7 hown hgrow _
        have KS := Lib.hid (RollH.of (hHeld.2.2.2.grow KO.out.1 KO.out.2.2 hgrow))
        have K13n := Lib.hid (And.intro (K13.out.1.grow KO.out.1 hgrow) K13.out.2); clear K13; have K13 := K13n; clear K13n
        rw [show ints l ++ [Value.int .i64 p] = ints (l ++ [p]) from by simp [ints]] at hown
        obtain ⟨a', c', rfl, -⟩ := Reads.own hown
        have K7 := Lib.hid (And.intro hown KO.out.2.2)
        clear hHeld hown hgrow KO K6
        refine hK.out _ _ KS.out (fun hHeld => ?_)
        clear hK K KS
        (try simp only [List.getElem_toArray, List.getElem_cons_succ, List.getElem_cons_zero, Act.put, List.setIfInBounds_toArray, List.set_cons_zero, List.set_cons_succ])
        (refine wpAnyH_take (i := 12) (v := ?_) rfl (by kernel_rfl) (by kernel_rfl) (by kernel_rfl) (fun _ _ _ h => h) (Or.inl ⟨by kernel_rfl, ?_⟩) (by assumption) ?_; rotate_left; focus (intro w hSw; (try dsimp only at hSw); go_simp; try with_reducible rfl); (try simp only [List.getElem_toArray, List.getElem_cons_succ, List.getElem_cons_zero, Act.put, List.setIfInBounds_toArray, List.set_cons_zero, List.set_cons_succ]))
        have hcut := Lib.hid (CutRoll.mk (p := p) K13.out.1 K13.out.2 K7.out.1 hHeld.2.2.2 K7.out.2)
        obtain ⟨z0, z1, z2, z3⟩ := K13.out.1.cells
        have f0 := K13.out.1.free 0
        have f1 := K13.out.1.free 1
        have f2 := K13.out.1.free 2
        have f3 := K13.out.1.free 3
        clear hHeld
        refine wpAnyH_ready (rs := [14]) (by kernel_rfl) (by simp) ?_; refine AllReadyH.cons rfl (fun K hK => ?_) AllReadyH.nil
        go_simp
        clear z0 z1 z2 z3 f0 f1 f2 f3
        refine hK.out _ _ ?_ (fun hHeld => ?_)
        · obtain ⟨g2, a2, c2, e1, e2, e3, e4, e5, e6⟩ := hcut.out
          exact RollH.of e5
        clear hK K hHeld
        (try simp only [List.getElem_toArray, List.getElem_cons_succ, List.getElem_cons_zero, Act.put, List.setIfInBounds_toArray, List.set_cons_zero, List.set_cons_succ])
        refine wpAnyH_done (by kernel_rfl) ?_ _
        go_wp2_with fail
        go_meet
        exact hcut
  case rest =>
    clear HS0 HO HI
    obtain ⟨g, a', c', rfl, hg, hb, hr, hs, hnr⟩ := hcut.out
    clear hcut
    have hgB : w.heap.size ≤ g := by omega
    have HC := Lib.hid (And.intro hb (And.intro hr hs))
    have HNR := Lib.hid hnr; clear hnr
    obtain ⟨g0, g1, g2, g3⟩ := hb.cells
    obtain ⟨b0, -, -, -⟩ := hs.1.cells
    obtain ⟨r0, r1, r2, r3⟩ := hs.2.1.cells
    have q0 := hs.2.1.free 0
    have q1 := hs.2.1.free 1
    have q2 := hs.2.1.free 2
    have q3 := hs.2.1.free 3
    have p2 := hb.free 2
    have p3 := hb.free 3
    clear hb hr hs
    by_cases hm : d + 1 < F
    · have hmi : (d : Int) < (F : Int) - 1 := by omega
      by_cases he : st - p = 0 ∨ l.length + 1 = 2
      · have hfin := (HC.out.2.2.2.1.stored ((d : Int) + 1) (.slice none 0 0) 10 false)
        have HFB := Lib.hid (below_four HC.out.2.2.2.2 (show w.heap.size ≤ w.heap.size + 1 from Nat.le_succ _) (.int .i64 ((d : Int) + 1)) (.slice none 0 0) (.int .i64 10) (.bool false))
        obtain ⟨z0, z1, z2, z3⟩ := hfin.cells
        have Z := Lib.hid (And.intro z0 (And.intro z1 (And.intro z2 z3))); clear z0 z1 z2 z3 hfin
        have HE := Lib.hid he
        cases hq : ((st - p) == 0)
        · have hl1 : l.length = 1 := by
            rcases he with he | he
            · rw [he] at hq; cases hq
            · omega
          have hl2 : (((l.length + 1 : Nat) : Int) == 2) = true := by rw [hl1]; rfl
          have hl3 : (((l.length : Int) + 1) == 2) = true := by rw [hl1]; rfl
          clear he hl1
          go_wp2_with fail
          obtain ⟨z0, z1, z2, z3⟩ := Z.out
          refine bodyPost_ret (v := .agg #[.int .i64 ((d : Int) + 1), .slice none 0 0, .int .i64 10, .bool false]) (by simp [results, Tryz.results60, go_sem, z0, z1, z2, z3]) rfl ?_
          refine ⟨fun _ _ => ⟨none, 0, by push_cast; rfl, .inl rfl, (fun b off e => by cases e), HFB.out⟩, fun _ hh => absurd HE.out hh, fun hh => absurd hm hh⟩
        · clear he
          go_wp2_with fail
          obtain ⟨z0, z1, z2, z3⟩ := Z.out
          refine bodyPost_ret (v := .agg #[.int .i64 ((d : Int) + 1), .slice none 0 0, .int .i64 10, .bool false]) (by simp [results, Tryz.results60, go_sem, z0, z1, z2, z3]) rfl ?_
          refine ⟨fun _ _ => ⟨none, 0, by push_cast; rfl, .inl rfl, (fun b off e => by cases e), HFB.out⟩, fun _ hh => absurd HE.out hh, fun hh => absurd hm hh⟩
      · have hfin := (HC.out.2.2.2.1.stored (d : Int) (.slice a' (l.length + 1) c') (st - p) false)
        have HFB := Lib.hid (below_four HC.out.2.2.2.2 (show w.heap.size ≤ w.heap.size + 1 from Nat.le_succ _) (.int .i64 (d : Int)) (.slice a' (l.length + 1) c') (.int .i64 (st - p)) (.bool false))
        have HRF := Lib.hid (reads_other HC.out.2.1 (fun b off e => (HNR.out b off e).1) (heap_four wc (w.heap.size + 1) (.int .i64 (d : Int)) (.slice a' (l.length + 1) c') (.int .i64 (st - p)) (.bool false)) (by simp))
        obtain ⟨z0, z1, z2, z3⟩ := hfin.cells
        have Z := Lib.hid (And.intro z0 (And.intro z1 (And.intro z2 z3))); clear z0 z1 z2 z3 hfin
        have HE := Lib.hid he
        have hq : ((st - p) == 0) = false := by simp; exact fun hh => he (.inl (by omega))
        have hl2 : (((l.length + 1 : Nat) : Int) == 2) = false := by simp; omega
        have hl3 : (((l.length : Int) + 1) == 2) = false := by simp; omega
        clear he
        go_wp2_with fail
        obtain ⟨z0, z1, z2, z3⟩ := Z.out
        refine bodyPost_ret (v := .agg #[.int .i64 (d : Int), .slice a' (l.length + 1) c', .int .i64 (st - p), .bool false]) (by simp [results, Tryz.results60, go_sem, z0, z1, z2, z3]) rfl ?_
        refine ⟨fun _ hh => absurd hh HE.out, fun _ _ => ⟨a', c', by simp, HRF.out, (fun b off e => (HNR.out b off e).2.2), HFB.out⟩, fun hh => absurd hm hh⟩
    · have hmi : ¬ (d : Int) < (F : Int) - 1 := by omega
      have hsh : l = [] ∨ (∃ x, l = [x]) ∨ (∃ x y, l = [x, y]) := by
        match l, hl with
        | [], _ => exact .inl rfl
        | [x], _ => exact .inr (.inl ⟨x, rfl⟩)
        | [x, y], _ => exact .inr (.inr ⟨x, y, rfl⟩)
      cases hq : ((st - p) == 0)
      · have hst2 : (if st - p = 0 then 10 else st - p) = st - p := by rw [if_neg (by simpa using hq)]
        have hcl : CutLast w.heap.size g w d a' c' st p l (.int .i64 ((l.length + 1 : Nat) : Int)) wc := ⟨rfl, by rw [hst2]; exact HC.out.1, HC.out.2.1, HC.out.2.2.2.1, HC.out.2.2.2.2⟩
        have HW := Lib.hid hcl; clear hcl hst2
        go_wp2_with fail
        clear HC r0 r1 r2 r3 q0 q1 q2 q3 p2 b0 g0 g2 g3 g1 p3 hq
        generalize wc = W at *
        rcases hsh with rfl | ⟨x, rfl⟩ | ⟨x, y, rfl⟩
        · have hov : lastOv [] p = false := by simp [lastOv]
          have HOV := Lib.hid hov; clear hov
          refine wp_region_held_drew (S := fun w' => True) (by kernel_rfl) (by trivial) (fun hHeld => ?_)
          (refine wpAnyH_take (i := 0) (v := ?_) rfl (by kernel_rfl) (by kernel_rfl) (by kernel_rfl) (fun _ _ _ h => h) (Or.inl ⟨by kernel_rfl, ?_⟩) (by assumption) ?_; rotate_left; focus (intro w hSw; (try dsimp only at hSw); go_simp; try with_reducible rfl); (try simp only [List.getElem_toArray, List.getElem_cons_succ, List.getElem_cons_zero, Act.put, List.setIfInBounds_toArray, List.set_cons_zero, List.set_cons_succ])); (refine wpAnyH_take (i := 1) (v := ?_) rfl (by kernel_rfl) (by kernel_rfl) (by kernel_rfl) (fun _ _ _ h => h) (Or.inl ⟨by kernel_rfl, ?_⟩) (by assumption) ?_; rotate_left; focus (intro w hSw; (try dsimp only at hSw); go_simp; try with_reducible rfl); (try simp only [List.getElem_toArray, List.getElem_cons_succ, List.getElem_cons_zero, Act.put, List.setIfInBounds_toArray, List.set_cons_zero, List.set_cons_succ])); (refine wpAnyH_take (i := 2) (v := ?_) rfl (by kernel_rfl) (by kernel_rfl) (by kernel_rfl) (fun _ _ _ h => h) (Or.inl ⟨by kernel_rfl, ?_⟩) (by assumption) ?_; rotate_left; focus (intro w hSw; (try dsimp only at hSw); go_simp; try with_reducible rfl); (try simp only [List.getElem_toArray, List.getElem_cons_succ, List.getElem_cons_zero, Act.put, List.setIfInBounds_toArray, List.set_cons_zero, List.set_cons_succ])); (refine wpAnyH_take (i := 3) (v := ?_) rfl (by kernel_rfl) (by kernel_rfl) (by kernel_rfl) (fun _ _ _ h => h) (Or.inl ⟨by kernel_rfl, ?_⟩) (by assumption) ?_; rotate_left; focus (intro w hSw; (try dsimp only at hSw); go_simp; try with_reducible rfl); (try simp only [List.getElem_toArray, List.getElem_cons_succ, List.getElem_cons_zero, Act.put, List.setIfInBounds_toArray, List.set_cons_zero, List.set_cons_succ])); (refine wpAnyH_take (i := 4) (v := ?_) rfl (by kernel_rfl) (by kernel_rfl) (by kernel_rfl) (fun _ _ _ h => h) (Or.inl ⟨by kernel_rfl, ?_⟩) (by assumption) ?_; rotate_left; focus (intro w hSw; (try dsimp only at hSw); go_simp; try with_reducible rfl); (try simp only [List.getElem_toArray, List.getElem_cons_succ, List.getElem_cons_zero, Act.put, List.setIfInBounds_toArray, List.set_cons_zero, List.set_cons_succ])); (refine wpAnyH_take (i := 5) (v := ?_) rfl (by kernel_rfl) (by kernel_rfl) (by kernel_rfl) (fun _ _ _ h => h) (Or.inl ⟨by kernel_rfl, ?_⟩) (by assumption) ?_; rotate_left; focus (intro w hSw; (try dsimp only at hSw); go_simp; try with_reducible rfl); (try simp only [List.getElem_toArray, List.getElem_cons_succ, List.getElem_cons_zero, Act.put, List.setIfInBounds_toArray, List.set_cons_zero, List.set_cons_succ]))
          (refine wpAnyH_take (i := 6) (v := undef) rfl (by kernel_rfl) (by kernel_rfl) (by kernel_rfl) (fun _ _ _ h => h) (Or.inr ⟨by kernel_rfl, rfl⟩) (by assumption) ?_; (try simp only [List.getElem_toArray, List.getElem_cons_succ, List.getElem_cons_zero, Act.put, List.setIfInBounds_toArray, List.set_cons_zero, List.set_cons_succ])); (refine wpAnyH_take (i := 7) (v := undef) rfl (by kernel_rfl) (by kernel_rfl) (by kernel_rfl) (fun _ _ _ h => h) (Or.inr ⟨by kernel_rfl, rfl⟩) (by assumption) ?_; (try simp only [List.getElem_toArray, List.getElem_cons_succ, List.getElem_cons_zero, Act.put, List.setIfInBounds_toArray, List.set_cons_zero, List.set_cons_succ])); (refine wpAnyH_take (i := 8) (v := undef) rfl (by kernel_rfl) (by kernel_rfl) (by kernel_rfl) (fun _ _ _ h => h) (Or.inr ⟨by kernel_rfl, rfl⟩) (by assumption) ?_; (try simp only [List.getElem_toArray, List.getElem_cons_succ, List.getElem_cons_zero, Act.put, List.setIfInBounds_toArray, List.set_cons_zero, List.set_cons_succ])); (refine wpAnyH_take (i := 9) (v := undef) rfl (by kernel_rfl) (by kernel_rfl) (by kernel_rfl) (fun _ _ _ h => h) (Or.inr ⟨by kernel_rfl, rfl⟩) (by assumption) ?_; (try simp only [List.getElem_toArray, List.getElem_cons_succ, List.getElem_cons_zero, Act.put, List.setIfInBounds_toArray, List.set_cons_zero, List.set_cons_succ])); (refine wpAnyH_take (i := 10) (v := undef) rfl (by kernel_rfl) (by kernel_rfl) (by kernel_rfl) (fun _ _ _ h => h) (Or.inr ⟨by kernel_rfl, rfl⟩) (by assumption) ?_; (try simp only [List.getElem_toArray, List.getElem_cons_succ, List.getElem_cons_zero, Act.put, List.setIfInBounds_toArray, List.set_cons_zero, List.set_cons_succ]))
          (refine wpAnyH_take (i := 11) (v := ?_) rfl (by kernel_rfl) (by kernel_rfl) (by kernel_rfl) (fun _ _ _ h => h) (Or.inl ⟨by kernel_rfl, ?_⟩) (by assumption) ?_; rotate_left; focus (intro w hSw; (try dsimp only at hSw); go_simp; try with_reducible rfl); (try simp only [List.getElem_toArray, List.getElem_cons_succ, List.getElem_cons_zero, Act.put, List.setIfInBounds_toArray, List.set_cons_zero, List.set_cons_succ])); (refine wpAnyH_take (i := 12) (v := ?_) rfl (by kernel_rfl) (by kernel_rfl) (by kernel_rfl) (fun _ _ _ h => h) (Or.inl ⟨by kernel_rfl, ?_⟩) (by assumption) ?_; rotate_left; focus (intro w hSw; (try dsimp only at hSw); go_simp; try with_reducible rfl); (try simp only [List.getElem_toArray, List.getElem_cons_succ, List.getElem_cons_zero, Act.put, List.setIfInBounds_toArray, List.set_cons_zero, List.set_cons_succ]))
          (refine wpAnyH_take (i := 13) (v := undef) rfl (by kernel_rfl) (by kernel_rfl) (by kernel_rfl) (fun _ _ _ h => h) (Or.inr ⟨by kernel_rfl, rfl⟩) (by assumption) ?_; (try simp only [List.getElem_toArray, List.getElem_cons_succ, List.getElem_cons_zero, Act.put, List.setIfInBounds_toArray, List.set_cons_zero, List.set_cons_succ])); (refine wpAnyH_take (i := 14) (v := undef) rfl (by kernel_rfl) (by kernel_rfl) (by kernel_rfl) (fun _ _ _ h => h) (Or.inr ⟨by kernel_rfl, rfl⟩) (by assumption) ?_; (try simp only [List.getElem_toArray, List.getElem_cons_succ, List.getElem_cons_zero, Act.put, List.setIfInBounds_toArray, List.set_cons_zero, List.set_cons_succ])); (refine wpAnyH_take (i := 15) (v := undef) rfl (by kernel_rfl) (by kernel_rfl) (by kernel_rfl) (fun _ _ _ h => h) (Or.inr ⟨by kernel_rfl, rfl⟩) (by assumption) ?_; (try simp only [List.getElem_toArray, List.getElem_cons_succ, List.getElem_cons_zero, Act.put, List.setIfInBounds_toArray, List.set_cons_zero, List.set_cons_succ])); (refine wpAnyH_take (i := 16) (v := undef) rfl (by kernel_rfl) (by kernel_rfl) (by kernel_rfl) (fun _ _ _ h => h) (Or.inr ⟨by kernel_rfl, rfl⟩) (by assumption) ?_; (try simp only [List.getElem_toArray, List.getElem_cons_succ, List.getElem_cons_zero, Act.put, List.setIfInBounds_toArray, List.set_cons_zero, List.set_cons_succ])); (refine wpAnyH_take (i := 17) (v := undef) rfl (by kernel_rfl) (by kernel_rfl) (by kernel_rfl) (fun _ _ _ h => h) (Or.inr ⟨by kernel_rfl, rfl⟩) (by assumption) ?_; (try simp only [List.getElem_toArray, List.getElem_cons_succ, List.getElem_cons_zero, Act.put, List.setIfInBounds_toArray, List.set_cons_zero, List.set_cons_succ])); (refine wpAnyH_take (i := 18) (v := undef) rfl (by kernel_rfl) (by kernel_rfl) (by kernel_rfl) (fun _ _ _ h => h) (Or.inr ⟨by kernel_rfl, rfl⟩) (by assumption) ?_; (try simp only [List.getElem_toArray, List.getElem_cons_succ, List.getElem_cons_zero, Act.put, List.setIfInBounds_toArray, List.set_cons_zero, List.set_cons_succ])); (refine wpAnyH_take (i := 19) (v := undef) rfl (by kernel_rfl) (by kernel_rfl) (by kernel_rfl) (fun _ _ _ h => h) (Or.inr ⟨by kernel_rfl, rfl⟩) (by assumption) ?_; (try simp only [List.getElem_toArray, List.getElem_cons_succ, List.getElem_cons_zero, Act.put, List.setIfInBounds_toArray, List.set_cons_zero, List.set_cons_succ])); (refine wpAnyH_take (i := 20) (v := undef) rfl (by kernel_rfl) (by kernel_rfl) (by kernel_rfl) (fun _ _ _ h => h) (Or.inr ⟨by kernel_rfl, rfl⟩) (by assumption) ?_; (try simp only [List.getElem_toArray, List.getElem_cons_succ, List.getElem_cons_zero, Act.put, List.setIfInBounds_toArray, List.set_cons_zero, List.set_cons_succ])); (refine wpAnyH_take (i := 21) (v := undef) rfl (by kernel_rfl) (by kernel_rfl) (by kernel_rfl) (fun _ _ _ h => h) (Or.inr ⟨by kernel_rfl, rfl⟩) (by assumption) ?_; (try simp only [List.getElem_toArray, List.getElem_cons_succ, List.getElem_cons_zero, Act.put, List.setIfInBounds_toArray, List.set_cons_zero, List.set_cons_succ])); (refine wpAnyH_take (i := 22) (v := undef) rfl (by kernel_rfl) (by kernel_rfl) (by kernel_rfl) (fun _ _ _ h => h) (Or.inr ⟨by kernel_rfl, rfl⟩) (by assumption) ?_; (try simp only [List.getElem_toArray, List.getElem_cons_succ, List.getElem_cons_zero, Act.put, List.setIfInBounds_toArray, List.set_cons_zero, List.set_cons_succ]))
          (refine wpAnyH_take (i := 23) (v := ?_) rfl (by kernel_rfl) (by kernel_rfl) (by kernel_rfl) (fun _ _ _ h => h) (Or.inl ⟨by kernel_rfl, ?_⟩) (by assumption) ?_; rotate_left; focus (intro w hSw; (try dsimp only at hSw); go_simp; try with_reducible rfl); (try simp only [List.getElem_toArray, List.getElem_cons_succ, List.getElem_cons_zero, Act.put, List.setIfInBounds_toArray, List.set_cons_zero, List.set_cons_succ])); (refine wpAnyH_take (i := 24) (v := ?_) rfl (by kernel_rfl) (by kernel_rfl) (by kernel_rfl) (fun _ _ _ h => h) (Or.inl ⟨by kernel_rfl, ?_⟩) (by assumption) ?_; rotate_left; focus (intro w hSw; (try dsimp only at hSw); go_simp; try with_reducible rfl); (try simp only [List.getElem_toArray, List.getElem_cons_succ, List.getElem_cons_zero, Act.put, List.setIfInBounds_toArray, List.set_cons_zero, List.set_cons_succ])); (refine wpAnyH_take (i := 25) (v := ?_) rfl (by kernel_rfl) (by kernel_rfl) (by kernel_rfl) (fun _ _ _ h => h) (Or.inl ⟨by kernel_rfl, ?_⟩) (by assumption) ?_; rotate_left; focus (intro w hSw; (try dsimp only at hSw); go_simp; try with_reducible rfl); (try simp only [List.getElem_toArray, List.getElem_cons_succ, List.getElem_cons_zero, Act.put, List.setIfInBounds_toArray, List.set_cons_zero, List.set_cons_succ]))
          clear hHeld
          have hlast := last_end (ov' := false) HW.out hgB hg HNR.out
          have HL := Lib.hid hlast; clear hlast
          have p3 : W.drew.frozen? ⟨g, 3, none⟩ = false := HW.out.2.1.free 3
          have z3 : W.drew.cell? ⟨g, 3, none⟩ = some (.bool false) := HW.out.2.1.cells.2.2.2
          refine wpAnyH_ready (rs := [26]) (by kernel_rfl) (by simp) ?_; refine AllReadyH.cons rfl (fun K hK => ?_) AllReadyH.nil
          go_simp
          clear p3 z3
          refine hK.out _ _ (trivial) (fun hHeld => ?_)
          clear hK K hHeld HW
          (try simp only [List.getElem_toArray, List.getElem_cons_succ, List.getElem_cons_zero, Act.put, List.setIfInBounds_toArray, List.set_cons_zero, List.set_cons_succ])
          refine wpAnyH_done (by kernel_rfl) ?_ _
          generalize (W.setCell ⟨g, 3, none⟩ (.bool false)).drew = W2 at *
          generalize hs2 : (if st - p = 0 then (10 : Int) else st - p) = st2 at *
          have HS2 := Lib.hid hs2; clear hs2
          have hfb := below_four HL.out.2.2.2 (show w.heap.size ≤ w.heap.size + 1 from Nat.le_succ _) (.int .i64 (d : Int)) (.slice a' 1 c') (.int .i64 st2) (.bool false)
          have hrf := reads_other HL.out.2.1 (fun b off e => (HNR.out b off e).1) (heap_four W2 (w.heap.size + 1) (.int .i64 (d : Int)) (.slice a' 1 c') (.int .i64 st2) (.bool false)) (by simp)
          have hfin := HL.out.2.2.1.stored (d : Int) (.slice a' 1 c') st2 false
          have Z := Lib.hid hfin.cells; clear hfin
          have HFB := Lib.hid (And.intro hfb hrf); clear hfb hrf
          obtain ⟨g0, g1, g2, g3⟩ := HL.out.1.cells
          obtain ⟨r0, r1, r2, r3⟩ := HL.out.2.2.1.cells
          have q0 := HL.out.2.2.1.free 0
          have q1 := HL.out.2.2.1.free 1
          have q2 := HL.out.2.2.1.free 2
          have q3 := HL.out.2.2.1.free 3
          go_wp2_with fail
          obtain ⟨z0, z1, z2, z3⟩ := Z.out
          clear g0 g1 g2 g3 r0 r1 r2 r3 q0 q1 q2 q3
          refine bodyPost_ret (v := .agg #[.int .i64 (d : Int), .slice a' 1 c', .int .i64 st2, .bool false]) (by simp [results, Tryz.results60, go_sem, z0, z1, z2, z3]) rfl ?_
          refine ⟨fun hh => absurd hh hm, fun hh => absurd hh hm, fun _ => ⟨a', c', by rw [HOV.out, HS2.out]; rfl, HFB.out.2, (fun b off e => (HNR.out b off e).2.2), HFB.out.1⟩⟩
        · have hx := hlb x (by simp)
          obtain ⟨b', o', e', -, hcs⟩ := cells_of_reads HW.out.2.2.1 (by simp)
          have x0 : W.drew.cell? ⟨b', o' + 0, none⟩ = some (.int .i64 x) := hcs 0 (by simp)
          have x1 : W.drew.cell? ⟨b', o' + 1, none⟩ = some (.int .i64 p) := hcs 1 (by simp)
          have g1 : W.drew.cell? ⟨g, 1, none⟩ = some (.slice a' ([x].length + 1) c') := HW.out.2.1.cells.2.1
          rw [Nat.add_zero] at x0
          subst e'
          have hne := (HNR.out _ _ rfl).2.1
          have hs0 : W.drew.cell? ⟨g, 1, none⟩ = some (.slice (some ⟨b', o', none⟩) 2 c') ∧ W.drew.cell? ⟨b', o', none⟩ = some (.int .i64 x) ∧ W.drew.cell? ⟨b', o' + 1, none⟩ = some (.int .i64 p) := ⟨g1, x0, x1⟩
          have hsv : ∀ ov, (W.setCell ⟨g, 3, none⟩ (.bool ov)).drew.cell? ⟨g, 1, none⟩ = some (.slice (some ⟨b', o', none⟩) 2 c') ∧ (W.setCell ⟨g, 3, none⟩ (.bool ov)).drew.cell? ⟨b', o', none⟩ = some (.int .i64 x) ∧ (W.setCell ⟨g, 3, none⟩ (.bool ov)).drew.cell? ⟨b', o' + 1, none⟩ = some (.int .i64 p) := by
            intro ov
            show (W.drew.setCell ⟨g, 3, none⟩ (.bool ov)).cell? ⟨g, 1, none⟩ = _ ∧ (W.drew.setCell ⟨g, 3, none⟩ (.bool ov)).cell? ⟨b', o', none⟩ = _ ∧ (W.drew.setCell ⟨g, 3, none⟩ (.bool ov)).cell? ⟨b', o' + 1, none⟩ = _
            refine ⟨?_, ?_, ?_⟩
            · rw [World.cell?_setCell_other _ _ _ _ (by intro e; injection e with _ e2; exact absurd e2 (by decide))]; exact hs0.1
            · rw [World.cell?_setCell_other _ _ _ _ (by intro e; injection e with e1; exact hne e1.symm)]; exact hs0.2.1
            · rw [World.cell?_setCell_other _ _ _ _ (by intro e; injection e with e1; exact hne e1.symm)]; exact hs0.2.2
          have HSV := Lib.hid hsv; clear hsv g1 x0 x1 hcs
          have HS0 := Lib.hid hs0; clear hs0
          have hwx : IntKind.i64.wrap (x + p) = x + p := IntWalk.i64_in _ (by omega)
          by_cases hx1 : x < 10
          · by_cases hx2 : x + p < 10
            · have hov : lastOv [x] p = true := by simp [lastOv]; omega
              have HOV := Lib.hid hov; clear hov
              refine wp_region_held_drew (S := fun w' => w'.cell? ⟨g, 1, none⟩ = some (.slice (some ⟨b', o', none⟩) 2 c') ∧ w'.cell? ⟨b', o', none⟩ = some (.int .i64 x) ∧ w'.cell? ⟨b', o' + 1, none⟩ = some (.int .i64 p)) (by kernel_rfl) (HS0.out) (fun hHeld => ?_)
              (refine wpAnyH_take (i := 0) (v := ?_) rfl (by kernel_rfl) (by kernel_rfl) (by kernel_rfl) (fun _ _ _ h => h) (Or.inl ⟨by kernel_rfl, ?_⟩) (by assumption) ?_; rotate_left; focus (intro w hSw; (try dsimp only at hSw); go_simp; try with_reducible rfl); (try simp only [List.getElem_toArray, List.getElem_cons_succ, List.getElem_cons_zero, Act.put, List.setIfInBounds_toArray, List.set_cons_zero, List.set_cons_succ])); (refine wpAnyH_take (i := 1) (v := ?_) rfl (by kernel_rfl) (by kernel_rfl) (by kernel_rfl) (fun _ _ _ h => h) (Or.inl ⟨by kernel_rfl, ?_⟩) (by assumption) ?_; rotate_left; focus (intro w hSw; (try dsimp only at hSw); go_simp; try with_reducible rfl); (try simp only [List.getElem_toArray, List.getElem_cons_succ, List.getElem_cons_zero, Act.put, List.setIfInBounds_toArray, List.set_cons_zero, List.set_cons_succ])); (refine wpAnyH_take (i := 2) (v := ?_) rfl (by kernel_rfl) (by kernel_rfl) (by kernel_rfl) (fun _ _ _ h => h) (Or.inl ⟨by kernel_rfl, ?_⟩) (by assumption) ?_; rotate_left; focus (intro w hSw; (try dsimp only at hSw); go_simp; try with_reducible rfl); (try simp only [List.getElem_toArray, List.getElem_cons_succ, List.getElem_cons_zero, Act.put, List.setIfInBounds_toArray, List.set_cons_zero, List.set_cons_succ])); (refine wpAnyH_take (i := 3) (v := ?_) rfl (by kernel_rfl) (by kernel_rfl) (by kernel_rfl) (fun _ _ _ h => h) (Or.inl ⟨by kernel_rfl, ?_⟩) (by assumption) ?_; rotate_left; focus (intro w hSw; (try dsimp only at hSw); go_simp; try with_reducible rfl); (try simp only [List.getElem_toArray, List.getElem_cons_succ, List.getElem_cons_zero, Act.put, List.setIfInBounds_toArray, List.set_cons_zero, List.set_cons_succ])); (refine wpAnyH_take (i := 4) (v := ?_) rfl (by kernel_rfl) (by kernel_rfl) (by kernel_rfl) (fun _ _ _ h => h) (Or.inl ⟨by kernel_rfl, ?_⟩) (by assumption) ?_; rotate_left; focus (intro w hSw; (try dsimp only at hSw); go_simp; try with_reducible rfl); (try simp only [List.getElem_toArray, List.getElem_cons_succ, List.getElem_cons_zero, Act.put, List.setIfInBounds_toArray, List.set_cons_zero, List.set_cons_succ])); (refine wpAnyH_take (i := 5) (v := ?_) rfl (by kernel_rfl) (by kernel_rfl) (by kernel_rfl) (fun _ _ _ h => h) (Or.inl ⟨by kernel_rfl, ?_⟩) (by assumption) ?_; rotate_left; focus (intro w hSw; (try dsimp only at hSw); go_simp; try with_reducible rfl); (try simp only [List.getElem_toArray, List.getElem_cons_succ, List.getElem_cons_zero, Act.put, List.setIfInBounds_toArray, List.set_cons_zero, List.set_cons_succ])); (refine wpAnyH_take (i := 6) (v := ?_) rfl (by kernel_rfl) (by kernel_rfl) (by kernel_rfl) (fun _ _ _ h => h) (Or.inl ⟨by kernel_rfl, ?_⟩) (by assumption) ?_; rotate_left; focus (intro w hSw; (try dsimp only at hSw); go_simp; try with_reducible rfl); (try simp only [List.getElem_toArray, List.getElem_cons_succ, List.getElem_cons_zero, Act.put, List.setIfInBounds_toArray, List.set_cons_zero, List.set_cons_succ])); (refine wpAnyH_take (i := 7) (v := ?_) rfl (by kernel_rfl) (by kernel_rfl) (by kernel_rfl) (fun _ _ _ h => h) (Or.inl ⟨by kernel_rfl, ?_⟩) (by assumption) ?_; rotate_left; focus (intro w hSw; (try dsimp only at hSw); go_simp; try with_reducible rfl); (try simp only [List.getElem_toArray, List.getElem_cons_succ, List.getElem_cons_zero, Act.put, List.setIfInBounds_toArray, List.set_cons_zero, List.set_cons_succ])); (refine wpAnyH_take (i := 8) (v := ?_) rfl (by kernel_rfl) (by kernel_rfl) (by kernel_rfl) (fun _ _ _ h => h) (Or.inl ⟨by kernel_rfl, ?_⟩) (by assumption) ?_; rotate_left; focus (intro w hSw; (try dsimp only at hSw); go_simp; try with_reducible rfl); (try simp only [List.getElem_toArray, List.getElem_cons_succ, List.getElem_cons_zero, Act.put, List.setIfInBounds_toArray, List.set_cons_zero, List.set_cons_succ])); (refine wpAnyH_take (i := 9) (v := ?_) rfl (by kernel_rfl) (by kernel_rfl) (by kernel_rfl) (fun _ _ _ h => h) (Or.inl ⟨by kernel_rfl, ?_⟩) (by assumption) ?_; rotate_left; focus (intro w hSw; (try dsimp only at hSw); go_simp; try with_reducible rfl); (try simp only [List.getElem_toArray, List.getElem_cons_succ, List.getElem_cons_zero, Act.put, List.setIfInBounds_toArray, List.set_cons_zero, List.set_cons_succ])); (refine wpAnyH_take (i := 10) (v := ?_) rfl (by kernel_rfl) (by kernel_rfl) (by kernel_rfl) (fun _ _ _ h => h) (Or.inl ⟨by kernel_rfl, ?_⟩) (by assumption) ?_; rotate_left; focus (intro w hSw; (try dsimp only at hSw); go_simp; try with_reducible rfl); (try simp only [List.getElem_toArray, List.getElem_cons_succ, List.getElem_cons_zero, Act.put, List.setIfInBounds_toArray, List.set_cons_zero, List.set_cons_succ])); (refine wpAnyH_take (i := 11) (v := ?_) rfl (by kernel_rfl) (by kernel_rfl) (by kernel_rfl) (fun _ _ _ h => h) (Or.inl ⟨by kernel_rfl, ?_⟩) (by assumption) ?_; rotate_left; focus (intro w hSw; (try dsimp only at hSw); go_simp; try with_reducible rfl); (try simp only [List.getElem_toArray, List.getElem_cons_succ, List.getElem_cons_zero, Act.put, List.setIfInBounds_toArray, List.set_cons_zero, List.set_cons_succ])); (refine wpAnyH_take (i := 12) (v := ?_) rfl (by kernel_rfl) (by kernel_rfl) (by kernel_rfl) (fun _ _ _ h => h) (Or.inl ⟨by kernel_rfl, ?_⟩) (by assumption) ?_; rotate_left; focus (intro w hSw; (try dsimp only at hSw); go_simp; try with_reducible rfl); (try simp only [List.getElem_toArray, List.getElem_cons_succ, List.getElem_cons_zero, Act.put, List.setIfInBounds_toArray, List.set_cons_zero, List.set_cons_succ])); (refine wpAnyH_take (i := 13) (v := ?_) rfl (by kernel_rfl) (by kernel_rfl) (by kernel_rfl) (fun _ _ _ h => h) (Or.inl ⟨by kernel_rfl, ?_⟩) (by assumption) ?_; rotate_left; focus (intro w hSw; (try dsimp only at hSw); go_simp; try with_reducible rfl); (try simp only [List.getElem_toArray, List.getElem_cons_succ, List.getElem_cons_zero, Act.put, List.setIfInBounds_toArray, List.set_cons_zero, List.set_cons_succ])); (refine wpAnyH_take (i := 14) (v := ?_) rfl (by kernel_rfl) (by kernel_rfl) (by kernel_rfl) (fun _ _ _ h => h) (Or.inl ⟨by kernel_rfl, ?_⟩) (by assumption) ?_; rotate_left; focus (intro w hSw; (try dsimp only at hSw); go_simp; try with_reducible rfl); (try simp only [List.getElem_toArray, List.getElem_cons_succ, List.getElem_cons_zero, Act.put, List.setIfInBounds_toArray, List.set_cons_zero, List.set_cons_succ])); (refine wpAnyH_take (i := 15) (v := ?_) rfl (by kernel_rfl) (by kernel_rfl) (by kernel_rfl) (fun _ _ _ h => h) (Or.inl ⟨by kernel_rfl, ?_⟩) (by assumption) ?_; rotate_left; focus (intro w hSw; (try dsimp only at hSw); go_simp; try with_reducible rfl); (try simp only [List.getElem_toArray, List.getElem_cons_succ, List.getElem_cons_zero, Act.put, List.setIfInBounds_toArray, List.set_cons_zero, List.set_cons_succ])); (refine wpAnyH_take (i := 16) (v := ?_) rfl (by kernel_rfl) (by kernel_rfl) (by kernel_rfl) (fun _ _ _ h => h) (Or.inl ⟨by kernel_rfl, ?_⟩) (by assumption) ?_; rotate_left; focus (intro w hSw; (try dsimp only at hSw); go_simp; try with_reducible rfl); (try simp only [List.getElem_toArray, List.getElem_cons_succ, List.getElem_cons_zero, Act.put, List.setIfInBounds_toArray, List.set_cons_zero, List.set_cons_succ])); (refine wpAnyH_take (i := 17) (v := ?_) rfl (by kernel_rfl) (by kernel_rfl) (by kernel_rfl) (fun _ _ _ h => h) (Or.inl ⟨by kernel_rfl, ?_⟩) (by assumption) ?_; rotate_left; focus (intro w hSw; (try dsimp only at hSw); go_simp; try with_reducible rfl); (try simp only [List.getElem_toArray, List.getElem_cons_succ, List.getElem_cons_zero, Act.put, List.setIfInBounds_toArray, List.set_cons_zero, List.set_cons_succ])); (refine wpAnyH_take (i := 18) (v := ?_) rfl (by kernel_rfl) (by kernel_rfl) (by kernel_rfl) (fun _ _ _ h => h) (Or.inl ⟨by kernel_rfl, ?_⟩) (by assumption) ?_; rotate_left; focus (intro w hSw; (try dsimp only at hSw); go_simp; try with_reducible rfl); (try simp only [List.getElem_toArray, List.getElem_cons_succ, List.getElem_cons_zero, Act.put, List.setIfInBounds_toArray, List.set_cons_zero, List.set_cons_succ])); (refine wpAnyH_take (i := 19) (v := ?_) rfl (by kernel_rfl) (by kernel_rfl) (by kernel_rfl) (fun _ _ _ h => h) (Or.inl ⟨by kernel_rfl, ?_⟩) (by assumption) ?_; rotate_left; focus (intro w hSw; (try dsimp only at hSw); go_simp; try with_reducible rfl); (try simp only [List.getElem_toArray, List.getElem_cons_succ, List.getElem_cons_zero, Act.put, List.setIfInBounds_toArray, List.set_cons_zero, List.set_cons_succ])); (refine wpAnyH_take (i := 20) (v := ?_) rfl (by kernel_rfl) (by kernel_rfl) (by kernel_rfl) (fun _ _ _ h => h) (Or.inl ⟨by kernel_rfl, ?_⟩) (by assumption) ?_; rotate_left; focus (intro w hSw; (try dsimp only at hSw); go_simp; try with_reducible rfl); (try simp only [List.getElem_toArray, List.getElem_cons_succ, List.getElem_cons_zero, Act.put, List.setIfInBounds_toArray, List.set_cons_zero, List.set_cons_succ])); (refine wpAnyH_take (i := 21) (v := ?_) rfl (by kernel_rfl) (by kernel_rfl) (by kernel_rfl) (fun _ _ _ h => h) (Or.inl ⟨by kernel_rfl, ?_⟩) (by assumption) ?_; rotate_left; focus (intro w hSw; (try dsimp only at hSw); go_simp; try with_reducible rfl); (try simp only [List.getElem_toArray, List.getElem_cons_succ, List.getElem_cons_zero, Act.put, List.setIfInBounds_toArray, List.set_cons_zero, List.set_cons_succ])); (refine wpAnyH_take (i := 22) (v := ?_) rfl (by kernel_rfl) (by kernel_rfl) (by kernel_rfl) (fun _ _ _ h => h) (Or.inl ⟨by kernel_rfl, ?_⟩) (by assumption) ?_; rotate_left; focus (intro w hSw; (try dsimp only at hSw); go_simp; try with_reducible rfl); (try simp only [List.getElem_toArray, List.getElem_cons_succ, List.getElem_cons_zero, Act.put, List.setIfInBounds_toArray, List.set_cons_zero, List.set_cons_succ])); (refine wpAnyH_take (i := 23) (v := ?_) rfl (by kernel_rfl) (by kernel_rfl) (by kernel_rfl) (fun _ _ _ h => h) (Or.inl ⟨by kernel_rfl, ?_⟩) (by assumption) ?_; rotate_left; focus (intro w hSw; (try dsimp only at hSw); go_simp; try with_reducible rfl); (try simp only [List.getElem_toArray, List.getElem_cons_succ, List.getElem_cons_zero, Act.put, List.setIfInBounds_toArray, List.set_cons_zero, List.set_cons_succ])); (refine wpAnyH_take (i := 24) (v := ?_) rfl (by kernel_rfl) (by kernel_rfl) (by kernel_rfl) (fun _ _ _ h => h) (Or.inl ⟨by kernel_rfl, ?_⟩) (by assumption) ?_; rotate_left; focus (intro w hSw; (try dsimp only at hSw); go_simp; try with_reducible rfl); (try simp only [List.getElem_toArray, List.getElem_cons_succ, List.getElem_cons_zero, Act.put, List.setIfInBounds_toArray, List.set_cons_zero, List.set_cons_succ])); (refine wpAnyH_take (i := 25) (v := ?_) rfl (by kernel_rfl) (by kernel_rfl) (by kernel_rfl) (fun _ _ _ h => h) (Or.inl ⟨by kernel_rfl, ?_⟩) (by assumption) ?_; rotate_left; focus (intro w hSw; (try dsimp only at hSw); go_simp; try with_reducible rfl); (try simp only [List.getElem_toArray, List.getElem_cons_succ, List.getElem_cons_zero, Act.put, List.setIfInBounds_toArray, List.set_cons_zero, List.set_cons_succ]))
              clear hHeld
              have hlast := last_end (ov' := true) HW.out hgB hg HNR.out
              have HL := Lib.hid hlast; clear hlast
              have p3 : W.drew.frozen? ⟨g, 3, none⟩ = false := HW.out.2.1.free 3
              have z3 : W.drew.cell? ⟨g, 3, none⟩ = some (.bool false) := HW.out.2.1.cells.2.2.2
              refine wpAnyH_ready (rs := [26]) (by kernel_rfl) (by simp) ?_; refine AllReadyH.cons rfl (fun K hK => ?_) AllReadyH.nil
              go_simp
              clear p3 z3
              refine hK.out _ _ (HSV.out true) (fun hHeld => ?_)
              clear hK K hHeld HW
              (try simp only [List.getElem_toArray, List.getElem_cons_succ, List.getElem_cons_zero, Act.put, List.setIfInBounds_toArray, List.set_cons_zero, List.set_cons_succ])
              refine wpAnyH_done (by kernel_rfl) ?_ _
              generalize (W.setCell ⟨g, 3, none⟩ (.bool true)).drew = W2 at *
              generalize hs2 : (if st - p = 0 then (10 : Int) else st - p) = st2 at *
              have HS2 := Lib.hid hs2; clear hs2
              have hfb := below_four HL.out.2.2.2 (show w.heap.size ≤ w.heap.size + 1 from Nat.le_succ _) (.int .i64 (d : Int)) (.slice (some ⟨b', o', none⟩) 2 c') (.int .i64 st2) (.bool true)
              have hrf := reads_other HL.out.2.1 (fun b off e => (HNR.out b off e).1) (heap_four W2 (w.heap.size + 1) (.int .i64 (d : Int)) (.slice (some ⟨b', o', none⟩) 2 c') (.int .i64 st2) (.bool true)) (by simp)
              have hfin := HL.out.2.2.1.stored (d : Int) (.slice (some ⟨b', o', none⟩) 2 c') st2 true
              have Z := Lib.hid hfin.cells; clear hfin
              have HFB := Lib.hid (And.intro hfb hrf); clear hfb hrf
              obtain ⟨g0, g1, g2, g3⟩ := HL.out.1.cells
              obtain ⟨r0, r1, r2, r3⟩ := HL.out.2.2.1.cells
              have q0 := HL.out.2.2.1.free 0
              have q1 := HL.out.2.2.1.free 1
              have q2 := HL.out.2.2.1.free 2
              have q3 := HL.out.2.2.1.free 3
              go_wp2_with fail
              obtain ⟨z0, z1, z2, z3⟩ := Z.out
              clear g0 g1 g2 g3 r0 r1 r2 r3 q0 q1 q2 q3
              refine bodyPost_ret (v := .agg #[.int .i64 (d : Int), .slice (some ⟨b', o', none⟩) 2 c', .int .i64 st2, .bool true]) (by simp [results, Tryz.results60, go_sem, z0, z1, z2, z3]) rfl ?_
              refine ⟨fun hh => absurd hh hm, fun hh => absurd hh hm, fun _ => ⟨(some ⟨b', o', none⟩), c', by rw [HOV.out, HS2.out]; rfl, HFB.out.2, (fun b off e => (HNR.out b off e).2.2), HFB.out.1⟩⟩
            · have hov : lastOv [x] p = false := by simp [lastOv]; omega
              have HOV := Lib.hid hov; clear hov
              refine wp_region_held_drew (S := fun w' => w'.cell? ⟨g, 1, none⟩ = some (.slice (some ⟨b', o', none⟩) 2 c') ∧ w'.cell? ⟨b', o', none⟩ = some (.int .i64 x) ∧ w'.cell? ⟨b', o' + 1, none⟩ = some (.int .i64 p)) (by kernel_rfl) (HS0.out) (fun hHeld => ?_)
              (refine wpAnyH_take (i := 0) (v := ?_) rfl (by kernel_rfl) (by kernel_rfl) (by kernel_rfl) (fun _ _ _ h => h) (Or.inl ⟨by kernel_rfl, ?_⟩) (by assumption) ?_; rotate_left; focus (intro w hSw; (try dsimp only at hSw); go_simp; try with_reducible rfl); (try simp only [List.getElem_toArray, List.getElem_cons_succ, List.getElem_cons_zero, Act.put, List.setIfInBounds_toArray, List.set_cons_zero, List.set_cons_succ])); (refine wpAnyH_take (i := 1) (v := ?_) rfl (by kernel_rfl) (by kernel_rfl) (by kernel_rfl) (fun _ _ _ h => h) (Or.inl ⟨by kernel_rfl, ?_⟩) (by assumption) ?_; rotate_left; focus (intro w hSw; (try dsimp only at hSw); go_simp; try with_reducible rfl); (try simp only [List.getElem_toArray, List.getElem_cons_succ, List.getElem_cons_zero, Act.put, List.setIfInBounds_toArray, List.set_cons_zero, List.set_cons_succ])); (refine wpAnyH_take (i := 2) (v := ?_) rfl (by kernel_rfl) (by kernel_rfl) (by kernel_rfl) (fun _ _ _ h => h) (Or.inl ⟨by kernel_rfl, ?_⟩) (by assumption) ?_; rotate_left; focus (intro w hSw; (try dsimp only at hSw); go_simp; try with_reducible rfl); (try simp only [List.getElem_toArray, List.getElem_cons_succ, List.getElem_cons_zero, Act.put, List.setIfInBounds_toArray, List.set_cons_zero, List.set_cons_succ])); (refine wpAnyH_take (i := 3) (v := ?_) rfl (by kernel_rfl) (by kernel_rfl) (by kernel_rfl) (fun _ _ _ h => h) (Or.inl ⟨by kernel_rfl, ?_⟩) (by assumption) ?_; rotate_left; focus (intro w hSw; (try dsimp only at hSw); go_simp; try with_reducible rfl); (try simp only [List.getElem_toArray, List.getElem_cons_succ, List.getElem_cons_zero, Act.put, List.setIfInBounds_toArray, List.set_cons_zero, List.set_cons_succ])); (refine wpAnyH_take (i := 4) (v := ?_) rfl (by kernel_rfl) (by kernel_rfl) (by kernel_rfl) (fun _ _ _ h => h) (Or.inl ⟨by kernel_rfl, ?_⟩) (by assumption) ?_; rotate_left; focus (intro w hSw; (try dsimp only at hSw); go_simp; try with_reducible rfl); (try simp only [List.getElem_toArray, List.getElem_cons_succ, List.getElem_cons_zero, Act.put, List.setIfInBounds_toArray, List.set_cons_zero, List.set_cons_succ])); (refine wpAnyH_take (i := 5) (v := ?_) rfl (by kernel_rfl) (by kernel_rfl) (by kernel_rfl) (fun _ _ _ h => h) (Or.inl ⟨by kernel_rfl, ?_⟩) (by assumption) ?_; rotate_left; focus (intro w hSw; (try dsimp only at hSw); go_simp; try with_reducible rfl); (try simp only [List.getElem_toArray, List.getElem_cons_succ, List.getElem_cons_zero, Act.put, List.setIfInBounds_toArray, List.set_cons_zero, List.set_cons_succ])); (refine wpAnyH_take (i := 6) (v := ?_) rfl (by kernel_rfl) (by kernel_rfl) (by kernel_rfl) (fun _ _ _ h => h) (Or.inl ⟨by kernel_rfl, ?_⟩) (by assumption) ?_; rotate_left; focus (intro w hSw; (try dsimp only at hSw); go_simp; try with_reducible rfl); (try simp only [List.getElem_toArray, List.getElem_cons_succ, List.getElem_cons_zero, Act.put, List.setIfInBounds_toArray, List.set_cons_zero, List.set_cons_succ])); (refine wpAnyH_take (i := 7) (v := ?_) rfl (by kernel_rfl) (by kernel_rfl) (by kernel_rfl) (fun _ _ _ h => h) (Or.inl ⟨by kernel_rfl, ?_⟩) (by assumption) ?_; rotate_left; focus (intro w hSw; (try dsimp only at hSw); go_simp; try with_reducible rfl); (try simp only [List.getElem_toArray, List.getElem_cons_succ, List.getElem_cons_zero, Act.put, List.setIfInBounds_toArray, List.set_cons_zero, List.set_cons_succ])); (refine wpAnyH_take (i := 8) (v := ?_) rfl (by kernel_rfl) (by kernel_rfl) (by kernel_rfl) (fun _ _ _ h => h) (Or.inl ⟨by kernel_rfl, ?_⟩) (by assumption) ?_; rotate_left; focus (intro w hSw; (try dsimp only at hSw); go_simp; try with_reducible rfl); (try simp only [List.getElem_toArray, List.getElem_cons_succ, List.getElem_cons_zero, Act.put, List.setIfInBounds_toArray, List.set_cons_zero, List.set_cons_succ])); (refine wpAnyH_take (i := 9) (v := ?_) rfl (by kernel_rfl) (by kernel_rfl) (by kernel_rfl) (fun _ _ _ h => h) (Or.inl ⟨by kernel_rfl, ?_⟩) (by assumption) ?_; rotate_left; focus (intro w hSw; (try dsimp only at hSw); go_simp; try with_reducible rfl); (try simp only [List.getElem_toArray, List.getElem_cons_succ, List.getElem_cons_zero, Act.put, List.setIfInBounds_toArray, List.set_cons_zero, List.set_cons_succ])); (refine wpAnyH_take (i := 10) (v := ?_) rfl (by kernel_rfl) (by kernel_rfl) (by kernel_rfl) (fun _ _ _ h => h) (Or.inl ⟨by kernel_rfl, ?_⟩) (by assumption) ?_; rotate_left; focus (intro w hSw; (try dsimp only at hSw); go_simp; try with_reducible rfl); (try simp only [List.getElem_toArray, List.getElem_cons_succ, List.getElem_cons_zero, Act.put, List.setIfInBounds_toArray, List.set_cons_zero, List.set_cons_succ])); (refine wpAnyH_take (i := 11) (v := ?_) rfl (by kernel_rfl) (by kernel_rfl) (by kernel_rfl) (fun _ _ _ h => h) (Or.inl ⟨by kernel_rfl, ?_⟩) (by assumption) ?_; rotate_left; focus (intro w hSw; (try dsimp only at hSw); go_simp; try with_reducible rfl); (try simp only [List.getElem_toArray, List.getElem_cons_succ, List.getElem_cons_zero, Act.put, List.setIfInBounds_toArray, List.set_cons_zero, List.set_cons_succ])); (refine wpAnyH_take (i := 12) (v := ?_) rfl (by kernel_rfl) (by kernel_rfl) (by kernel_rfl) (fun _ _ _ h => h) (Or.inl ⟨by kernel_rfl, ?_⟩) (by assumption) ?_; rotate_left; focus (intro w hSw; (try dsimp only at hSw); go_simp; try with_reducible rfl); (try simp only [List.getElem_toArray, List.getElem_cons_succ, List.getElem_cons_zero, Act.put, List.setIfInBounds_toArray, List.set_cons_zero, List.set_cons_succ])); (refine wpAnyH_take (i := 13) (v := ?_) rfl (by kernel_rfl) (by kernel_rfl) (by kernel_rfl) (fun _ _ _ h => h) (Or.inl ⟨by kernel_rfl, ?_⟩) (by assumption) ?_; rotate_left; focus (intro w hSw; (try dsimp only at hSw); go_simp; try with_reducible rfl); (try simp only [List.getElem_toArray, List.getElem_cons_succ, List.getElem_cons_zero, Act.put, List.setIfInBounds_toArray, List.set_cons_zero, List.set_cons_succ])); (refine wpAnyH_take (i := 14) (v := ?_) rfl (by kernel_rfl) (by kernel_rfl) (by kernel_rfl) (fun _ _ _ h => h) (Or.inl ⟨by kernel_rfl, ?_⟩) (by assumption) ?_; rotate_left; focus (intro w hSw; (try dsimp only at hSw); go_simp; try with_reducible rfl); (try simp only [List.getElem_toArray, List.getElem_cons_succ, List.getElem_cons_zero, Act.put, List.setIfInBounds_toArray, List.set_cons_zero, List.set_cons_succ])); (refine wpAnyH_take (i := 15) (v := ?_) rfl (by kernel_rfl) (by kernel_rfl) (by kernel_rfl) (fun _ _ _ h => h) (Or.inl ⟨by kernel_rfl, ?_⟩) (by assumption) ?_; rotate_left; focus (intro w hSw; (try dsimp only at hSw); go_simp; try with_reducible rfl); (try simp only [List.getElem_toArray, List.getElem_cons_succ, List.getElem_cons_zero, Act.put, List.setIfInBounds_toArray, List.set_cons_zero, List.set_cons_succ])); (refine wpAnyH_take (i := 16) (v := ?_) rfl (by kernel_rfl) (by kernel_rfl) (by kernel_rfl) (fun _ _ _ h => h) (Or.inl ⟨by kernel_rfl, ?_⟩) (by assumption) ?_; rotate_left; focus (intro w hSw; (try dsimp only at hSw); go_simp; try with_reducible rfl); (try simp only [List.getElem_toArray, List.getElem_cons_succ, List.getElem_cons_zero, Act.put, List.setIfInBounds_toArray, List.set_cons_zero, List.set_cons_succ])); (refine wpAnyH_take (i := 17) (v := ?_) rfl (by kernel_rfl) (by kernel_rfl) (by kernel_rfl) (fun _ _ _ h => h) (Or.inl ⟨by kernel_rfl, ?_⟩) (by assumption) ?_; rotate_left; focus (intro w hSw; (try dsimp only at hSw); go_simp; try with_reducible rfl); (try simp only [List.getElem_toArray, List.getElem_cons_succ, List.getElem_cons_zero, Act.put, List.setIfInBounds_toArray, List.set_cons_zero, List.set_cons_succ])); (refine wpAnyH_take (i := 18) (v := ?_) rfl (by kernel_rfl) (by kernel_rfl) (by kernel_rfl) (fun _ _ _ h => h) (Or.inl ⟨by kernel_rfl, ?_⟩) (by assumption) ?_; rotate_left; focus (intro w hSw; (try dsimp only at hSw); go_simp; try with_reducible rfl); (try simp only [List.getElem_toArray, List.getElem_cons_succ, List.getElem_cons_zero, Act.put, List.setIfInBounds_toArray, List.set_cons_zero, List.set_cons_succ])); (refine wpAnyH_take (i := 19) (v := ?_) rfl (by kernel_rfl) (by kernel_rfl) (by kernel_rfl) (fun _ _ _ h => h) (Or.inl ⟨by kernel_rfl, ?_⟩) (by assumption) ?_; rotate_left; focus (intro w hSw; (try dsimp only at hSw); go_simp; try with_reducible rfl); (try simp only [List.getElem_toArray, List.getElem_cons_succ, List.getElem_cons_zero, Act.put, List.setIfInBounds_toArray, List.set_cons_zero, List.set_cons_succ])); (refine wpAnyH_take (i := 20) (v := ?_) rfl (by kernel_rfl) (by kernel_rfl) (by kernel_rfl) (fun _ _ _ h => h) (Or.inl ⟨by kernel_rfl, ?_⟩) (by assumption) ?_; rotate_left; focus (intro w hSw; (try dsimp only at hSw); go_simp; try with_reducible rfl); (try simp only [List.getElem_toArray, List.getElem_cons_succ, List.getElem_cons_zero, Act.put, List.setIfInBounds_toArray, List.set_cons_zero, List.set_cons_succ])); (refine wpAnyH_take (i := 21) (v := ?_) rfl (by kernel_rfl) (by kernel_rfl) (by kernel_rfl) (fun _ _ _ h => h) (Or.inl ⟨by kernel_rfl, ?_⟩) (by assumption) ?_; rotate_left; focus (intro w hSw; (try dsimp only at hSw); go_simp; try with_reducible rfl); (try simp only [List.getElem_toArray, List.getElem_cons_succ, List.getElem_cons_zero, Act.put, List.setIfInBounds_toArray, List.set_cons_zero, List.set_cons_succ])); (refine wpAnyH_take (i := 22) (v := ?_) rfl (by kernel_rfl) (by kernel_rfl) (by kernel_rfl) (fun _ _ _ h => h) (Or.inl ⟨by kernel_rfl, ?_⟩) (by assumption) ?_; rotate_left; focus (intro w hSw; (try dsimp only at hSw); go_simp; try with_reducible rfl); (try simp only [List.getElem_toArray, List.getElem_cons_succ, List.getElem_cons_zero, Act.put, List.setIfInBounds_toArray, List.set_cons_zero, List.set_cons_succ])); (refine wpAnyH_take (i := 23) (v := ?_) rfl (by kernel_rfl) (by kernel_rfl) (by kernel_rfl) (fun _ _ _ h => h) (Or.inl ⟨by kernel_rfl, ?_⟩) (by assumption) ?_; rotate_left; focus (intro w hSw; (try dsimp only at hSw); go_simp; try with_reducible rfl); (try simp only [List.getElem_toArray, List.getElem_cons_succ, List.getElem_cons_zero, Act.put, List.setIfInBounds_toArray, List.set_cons_zero, List.set_cons_succ])); (refine wpAnyH_take (i := 24) (v := ?_) rfl (by kernel_rfl) (by kernel_rfl) (by kernel_rfl) (fun _ _ _ h => h) (Or.inl ⟨by kernel_rfl, ?_⟩) (by assumption) ?_; rotate_left; focus (intro w hSw; (try dsimp only at hSw); go_simp; try with_reducible rfl); (try simp only [List.getElem_toArray, List.getElem_cons_succ, List.getElem_cons_zero, Act.put, List.setIfInBounds_toArray, List.set_cons_zero, List.set_cons_succ])); (refine wpAnyH_take (i := 25) (v := ?_) rfl (by kernel_rfl) (by kernel_rfl) (by kernel_rfl) (fun _ _ _ h => h) (Or.inl ⟨by kernel_rfl, ?_⟩) (by assumption) ?_; rotate_left; focus (intro w hSw; (try dsimp only at hSw); go_simp; try with_reducible rfl); (try simp only [List.getElem_toArray, List.getElem_cons_succ, List.getElem_cons_zero, Act.put, List.setIfInBounds_toArray, List.set_cons_zero, List.set_cons_succ]))
              clear hHeld
              have hlast := last_end (ov' := false) HW.out hgB hg HNR.out
              have HL := Lib.hid hlast; clear hlast
              have p3 : W.drew.frozen? ⟨g, 3, none⟩ = false := HW.out.2.1.free 3
              have z3 : W.drew.cell? ⟨g, 3, none⟩ = some (.bool false) := HW.out.2.1.cells.2.2.2
              refine wpAnyH_ready (rs := [26]) (by kernel_rfl) (by simp) ?_; refine AllReadyH.cons rfl (fun K hK => ?_) AllReadyH.nil
              go_simp
              clear p3 z3
              refine hK.out _ _ (HSV.out false) (fun hHeld => ?_)
              clear hK K hHeld HW
              (try simp only [List.getElem_toArray, List.getElem_cons_succ, List.getElem_cons_zero, Act.put, List.setIfInBounds_toArray, List.set_cons_zero, List.set_cons_succ])
              refine wpAnyH_done (by kernel_rfl) ?_ _
              generalize (W.setCell ⟨g, 3, none⟩ (.bool false)).drew = W2 at *
              generalize hs2 : (if st - p = 0 then (10 : Int) else st - p) = st2 at *
              have HS2 := Lib.hid hs2; clear hs2
              have hfb := below_four HL.out.2.2.2 (show w.heap.size ≤ w.heap.size + 1 from Nat.le_succ _) (.int .i64 (d : Int)) (.slice (some ⟨b', o', none⟩) 2 c') (.int .i64 st2) (.bool false)
              have hrf := reads_other HL.out.2.1 (fun b off e => (HNR.out b off e).1) (heap_four W2 (w.heap.size + 1) (.int .i64 (d : Int)) (.slice (some ⟨b', o', none⟩) 2 c') (.int .i64 st2) (.bool false)) (by simp)
              have hfin := HL.out.2.2.1.stored (d : Int) (.slice (some ⟨b', o', none⟩) 2 c') st2 false
              have Z := Lib.hid hfin.cells; clear hfin
              have HFB := Lib.hid (And.intro hfb hrf); clear hfb hrf
              obtain ⟨g0, g1, g2, g3⟩ := HL.out.1.cells
              obtain ⟨r0, r1, r2, r3⟩ := HL.out.2.2.1.cells
              have q0 := HL.out.2.2.1.free 0
              have q1 := HL.out.2.2.1.free 1
              have q2 := HL.out.2.2.1.free 2
              have q3 := HL.out.2.2.1.free 3
              go_wp2_with fail
              obtain ⟨z0, z1, z2, z3⟩ := Z.out
              clear g0 g1 g2 g3 r0 r1 r2 r3 q0 q1 q2 q3
              refine bodyPost_ret (v := .agg #[.int .i64 (d : Int), .slice (some ⟨b', o', none⟩) 2 c', .int .i64 st2, .bool false]) (by simp [results, Tryz.results60, go_sem, z0, z1, z2, z3]) rfl ?_
              refine ⟨fun hh => absurd hh hm, fun hh => absurd hh hm, fun _ => ⟨(some ⟨b', o', none⟩), c', by rw [HOV.out, HS2.out]; rfl, HFB.out.2, (fun b off e => (HNR.out b off e).2.2), HFB.out.1⟩⟩
          · have hov : lastOv [x] p = false := by simp [lastOv]; omega
            have HOV := Lib.hid hov; clear hov
            refine wp_region_held_drew (S := fun w' => w'.cell? ⟨g, 1, none⟩ = some (.slice (some ⟨b', o', none⟩) 2 c') ∧ w'.cell? ⟨b', o', none⟩ = some (.int .i64 x) ∧ w'.cell? ⟨b', o' + 1, none⟩ = some (.int .i64 p)) (by kernel_rfl) (HS0.out) (fun hHeld => ?_)
            (refine wpAnyH_take (i := 0) (v := ?_) rfl (by kernel_rfl) (by kernel_rfl) (by kernel_rfl) (fun _ _ _ h => h) (Or.inl ⟨by kernel_rfl, ?_⟩) (by assumption) ?_; rotate_left; focus (intro w hSw; (try dsimp only at hSw); go_simp; try with_reducible rfl); (try simp only [List.getElem_toArray, List.getElem_cons_succ, List.getElem_cons_zero, Act.put, List.setIfInBounds_toArray, List.set_cons_zero, List.set_cons_succ])); (refine wpAnyH_take (i := 1) (v := ?_) rfl (by kernel_rfl) (by kernel_rfl) (by kernel_rfl) (fun _ _ _ h => h) (Or.inl ⟨by kernel_rfl, ?_⟩) (by assumption) ?_; rotate_left; focus (intro w hSw; (try dsimp only at hSw); go_simp; try with_reducible rfl); (try simp only [List.getElem_toArray, List.getElem_cons_succ, List.getElem_cons_zero, Act.put, List.setIfInBounds_toArray, List.set_cons_zero, List.set_cons_succ])); (refine wpAnyH_take (i := 2) (v := ?_) rfl (by kernel_rfl) (by kernel_rfl) (by kernel_rfl) (fun _ _ _ h => h) (Or.inl ⟨by kernel_rfl, ?_⟩) (by assumption) ?_; rotate_left; focus (intro w hSw; (try dsimp only at hSw); go_simp; try with_reducible rfl); (try simp only [List.getElem_toArray, List.getElem_cons_succ, List.getElem_cons_zero, Act.put, List.setIfInBounds_toArray, List.set_cons_zero, List.set_cons_succ])); (refine wpAnyH_take (i := 3) (v := ?_) rfl (by kernel_rfl) (by kernel_rfl) (by kernel_rfl) (fun _ _ _ h => h) (Or.inl ⟨by kernel_rfl, ?_⟩) (by assumption) ?_; rotate_left; focus (intro w hSw; (try dsimp only at hSw); go_simp; try with_reducible rfl); (try simp only [List.getElem_toArray, List.getElem_cons_succ, List.getElem_cons_zero, Act.put, List.setIfInBounds_toArray, List.set_cons_zero, List.set_cons_succ])); (refine wpAnyH_take (i := 4) (v := ?_) rfl (by kernel_rfl) (by kernel_rfl) (by kernel_rfl) (fun _ _ _ h => h) (Or.inl ⟨by kernel_rfl, ?_⟩) (by assumption) ?_; rotate_left; focus (intro w hSw; (try dsimp only at hSw); go_simp; try with_reducible rfl); (try simp only [List.getElem_toArray, List.getElem_cons_succ, List.getElem_cons_zero, Act.put, List.setIfInBounds_toArray, List.set_cons_zero, List.set_cons_succ])); (refine wpAnyH_take (i := 5) (v := ?_) rfl (by kernel_rfl) (by kernel_rfl) (by kernel_rfl) (fun _ _ _ h => h) (Or.inl ⟨by kernel_rfl, ?_⟩) (by assumption) ?_; rotate_left; focus (intro w hSw; (try dsimp only at hSw); go_simp; try with_reducible rfl); (try simp only [List.getElem_toArray, List.getElem_cons_succ, List.getElem_cons_zero, Act.put, List.setIfInBounds_toArray, List.set_cons_zero, List.set_cons_succ])); (refine wpAnyH_take (i := 6) (v := ?_) rfl (by kernel_rfl) (by kernel_rfl) (by kernel_rfl) (fun _ _ _ h => h) (Or.inl ⟨by kernel_rfl, ?_⟩) (by assumption) ?_; rotate_left; focus (intro w hSw; (try dsimp only at hSw); go_simp; try with_reducible rfl); (try simp only [List.getElem_toArray, List.getElem_cons_succ, List.getElem_cons_zero, Act.put, List.setIfInBounds_toArray, List.set_cons_zero, List.set_cons_succ])); (refine wpAnyH_take (i := 7) (v := ?_) rfl (by kernel_rfl) (by kernel_rfl) (by kernel_rfl) (fun _ _ _ h => h) (Or.inl ⟨by kernel_rfl, ?_⟩) (by assumption) ?_; rotate_left; focus (intro w hSw; (try dsimp only at hSw); go_simp; try with_reducible rfl); (try simp only [List.getElem_toArray, List.getElem_cons_succ, List.getElem_cons_zero, Act.put, List.setIfInBounds_toArray, List.set_cons_zero, List.set_cons_succ])); (refine wpAnyH_take (i := 8) (v := ?_) rfl (by kernel_rfl) (by kernel_rfl) (by kernel_rfl) (fun _ _ _ h => h) (Or.inl ⟨by kernel_rfl, ?_⟩) (by assumption) ?_; rotate_left; focus (intro w hSw; (try dsimp only at hSw); go_simp; try with_reducible rfl); (try simp only [List.getElem_toArray, List.getElem_cons_succ, List.getElem_cons_zero, Act.put, List.setIfInBounds_toArray, List.set_cons_zero, List.set_cons_succ])); (refine wpAnyH_take (i := 9) (v := ?_) rfl (by kernel_rfl) (by kernel_rfl) (by kernel_rfl) (fun _ _ _ h => h) (Or.inl ⟨by kernel_rfl, ?_⟩) (by assumption) ?_; rotate_left; focus (intro w hSw; (try dsimp only at hSw); go_simp; try with_reducible rfl); (try simp only [List.getElem_toArray, List.getElem_cons_succ, List.getElem_cons_zero, Act.put, List.setIfInBounds_toArray, List.set_cons_zero, List.set_cons_succ])); (refine wpAnyH_take (i := 10) (v := ?_) rfl (by kernel_rfl) (by kernel_rfl) (by kernel_rfl) (fun _ _ _ h => h) (Or.inl ⟨by kernel_rfl, ?_⟩) (by assumption) ?_; rotate_left; focus (intro w hSw; (try dsimp only at hSw); go_simp; try with_reducible rfl); (try simp only [List.getElem_toArray, List.getElem_cons_succ, List.getElem_cons_zero, Act.put, List.setIfInBounds_toArray, List.set_cons_zero, List.set_cons_succ])); (refine wpAnyH_take (i := 11) (v := ?_) rfl (by kernel_rfl) (by kernel_rfl) (by kernel_rfl) (fun _ _ _ h => h) (Or.inl ⟨by kernel_rfl, ?_⟩) (by assumption) ?_; rotate_left; focus (intro w hSw; (try dsimp only at hSw); go_simp; try with_reducible rfl); (try simp only [List.getElem_toArray, List.getElem_cons_succ, List.getElem_cons_zero, Act.put, List.setIfInBounds_toArray, List.set_cons_zero, List.set_cons_succ])); (refine wpAnyH_take (i := 12) (v := ?_) rfl (by kernel_rfl) (by kernel_rfl) (by kernel_rfl) (fun _ _ _ h => h) (Or.inl ⟨by kernel_rfl, ?_⟩) (by assumption) ?_; rotate_left; focus (intro w hSw; (try dsimp only at hSw); go_simp; try with_reducible rfl); (try simp only [List.getElem_toArray, List.getElem_cons_succ, List.getElem_cons_zero, Act.put, List.setIfInBounds_toArray, List.set_cons_zero, List.set_cons_succ]))
            (refine wpAnyH_take (i := 13) (v := undef) rfl (by kernel_rfl) (by kernel_rfl) (by kernel_rfl) (fun _ _ _ h => h) (Or.inr ⟨by kernel_rfl, rfl⟩) (by assumption) ?_; (try simp only [List.getElem_toArray, List.getElem_cons_succ, List.getElem_cons_zero, Act.put, List.setIfInBounds_toArray, List.set_cons_zero, List.set_cons_succ])); (refine wpAnyH_take (i := 14) (v := undef) rfl (by kernel_rfl) (by kernel_rfl) (by kernel_rfl) (fun _ _ _ h => h) (Or.inr ⟨by kernel_rfl, rfl⟩) (by assumption) ?_; (try simp only [List.getElem_toArray, List.getElem_cons_succ, List.getElem_cons_zero, Act.put, List.setIfInBounds_toArray, List.set_cons_zero, List.set_cons_succ])); (refine wpAnyH_take (i := 15) (v := undef) rfl (by kernel_rfl) (by kernel_rfl) (by kernel_rfl) (fun _ _ _ h => h) (Or.inr ⟨by kernel_rfl, rfl⟩) (by assumption) ?_; (try simp only [List.getElem_toArray, List.getElem_cons_succ, List.getElem_cons_zero, Act.put, List.setIfInBounds_toArray, List.set_cons_zero, List.set_cons_succ])); (refine wpAnyH_take (i := 16) (v := undef) rfl (by kernel_rfl) (by kernel_rfl) (by kernel_rfl) (fun _ _ _ h => h) (Or.inr ⟨by kernel_rfl, rfl⟩) (by assumption) ?_; (try simp only [List.getElem_toArray, List.getElem_cons_succ, List.getElem_cons_zero, Act.put, List.setIfInBounds_toArray, List.set_cons_zero, List.set_cons_succ])); (refine wpAnyH_take (i := 17) (v := undef) rfl (by kernel_rfl) (by kernel_rfl) (by kernel_rfl) (fun _ _ _ h => h) (Or.inr ⟨by kernel_rfl, rfl⟩) (by assumption) ?_; (try simp only [List.getElem_toArray, List.getElem_cons_succ, List.getElem_cons_zero, Act.put, List.setIfInBounds_toArray, List.set_cons_zero, List.set_cons_succ])); (refine wpAnyH_take (i := 18) (v := undef) rfl (by kernel_rfl) (by kernel_rfl) (by kernel_rfl) (fun _ _ _ h => h) (Or.inr ⟨by kernel_rfl, rfl⟩) (by assumption) ?_; (try simp only [List.getElem_toArray, List.getElem_cons_succ, List.getElem_cons_zero, Act.put, List.setIfInBounds_toArray, List.set_cons_zero, List.set_cons_succ])); (refine wpAnyH_take (i := 19) (v := undef) rfl (by kernel_rfl) (by kernel_rfl) (by kernel_rfl) (fun _ _ _ h => h) (Or.inr ⟨by kernel_rfl, rfl⟩) (by assumption) ?_; (try simp only [List.getElem_toArray, List.getElem_cons_succ, List.getElem_cons_zero, Act.put, List.setIfInBounds_toArray, List.set_cons_zero, List.set_cons_succ])); (refine wpAnyH_take (i := 20) (v := undef) rfl (by kernel_rfl) (by kernel_rfl) (by kernel_rfl) (fun _ _ _ h => h) (Or.inr ⟨by kernel_rfl, rfl⟩) (by assumption) ?_; (try simp only [List.getElem_toArray, List.getElem_cons_succ, List.getElem_cons_zero, Act.put, List.setIfInBounds_toArray, List.set_cons_zero, List.set_cons_succ])); (refine wpAnyH_take (i := 21) (v := undef) rfl (by kernel_rfl) (by kernel_rfl) (by kernel_rfl) (fun _ _ _ h => h) (Or.inr ⟨by kernel_rfl, rfl⟩) (by assumption) ?_; (try simp only [List.getElem_toArray, List.getElem_cons_succ, List.getElem_cons_zero, Act.put, List.setIfInBounds_toArray, List.set_cons_zero, List.set_cons_succ])); (refine wpAnyH_take (i := 22) (v := undef) rfl (by kernel_rfl) (by kernel_rfl) (by kernel_rfl) (fun _ _ _ h => h) (Or.inr ⟨by kernel_rfl, rfl⟩) (by assumption) ?_; (try simp only [List.getElem_toArray, List.getElem_cons_succ, List.getElem_cons_zero, Act.put, List.setIfInBounds_toArray, List.set_cons_zero, List.set_cons_succ]))
            (refine wpAnyH_take (i := 23) (v := ?_) rfl (by kernel_rfl) (by kernel_rfl) (by kernel_rfl) (fun _ _ _ h => h) (Or.inl ⟨by kernel_rfl, ?_⟩) (by assumption) ?_; rotate_left; focus (intro w hSw; (try dsimp only at hSw); go_simp; try with_reducible rfl); (try simp only [List.getElem_toArray, List.getElem_cons_succ, List.getElem_cons_zero, Act.put, List.setIfInBounds_toArray, List.set_cons_zero, List.set_cons_succ])); (refine wpAnyH_take (i := 24) (v := ?_) rfl (by kernel_rfl) (by kernel_rfl) (by kernel_rfl) (fun _ _ _ h => h) (Or.inl ⟨by kernel_rfl, ?_⟩) (by assumption) ?_; rotate_left; focus (intro w hSw; (try dsimp only at hSw); go_simp; try with_reducible rfl); (try simp only [List.getElem_toArray, List.getElem_cons_succ, List.getElem_cons_zero, Act.put, List.setIfInBounds_toArray, List.set_cons_zero, List.set_cons_succ])); (refine wpAnyH_take (i := 25) (v := ?_) rfl (by kernel_rfl) (by kernel_rfl) (by kernel_rfl) (fun _ _ _ h => h) (Or.inl ⟨by kernel_rfl, ?_⟩) (by assumption) ?_; rotate_left; focus (intro w hSw; (try dsimp only at hSw); go_simp; try with_reducible rfl); (try simp only [List.getElem_toArray, List.getElem_cons_succ, List.getElem_cons_zero, Act.put, List.setIfInBounds_toArray, List.set_cons_zero, List.set_cons_succ]))
            clear hHeld
            have hlast := last_end (ov' := false) HW.out hgB hg HNR.out
            have HL := Lib.hid hlast; clear hlast
            have p3 : W.drew.frozen? ⟨g, 3, none⟩ = false := HW.out.2.1.free 3
            have z3 : W.drew.cell? ⟨g, 3, none⟩ = some (.bool false) := HW.out.2.1.cells.2.2.2
            refine wpAnyH_ready (rs := [26]) (by kernel_rfl) (by simp) ?_; refine AllReadyH.cons rfl (fun K hK => ?_) AllReadyH.nil
            go_simp
            clear p3 z3
            refine hK.out _ _ (HSV.out false) (fun hHeld => ?_)
            clear hK K hHeld HW
            (try simp only [List.getElem_toArray, List.getElem_cons_succ, List.getElem_cons_zero, Act.put, List.setIfInBounds_toArray, List.set_cons_zero, List.set_cons_succ])
            refine wpAnyH_done (by kernel_rfl) ?_ _
            generalize (W.setCell ⟨g, 3, none⟩ (.bool false)).drew = W2 at *
            generalize hs2 : (if st - p = 0 then (10 : Int) else st - p) = st2 at *
            have HS2 := Lib.hid hs2; clear hs2
            have hfb := below_four HL.out.2.2.2 (show w.heap.size ≤ w.heap.size + 1 from Nat.le_succ _) (.int .i64 (d : Int)) (.slice (some ⟨b', o', none⟩) 2 c') (.int .i64 st2) (.bool false)
            have hrf := reads_other HL.out.2.1 (fun b off e => (HNR.out b off e).1) (heap_four W2 (w.heap.size + 1) (.int .i64 (d : Int)) (.slice (some ⟨b', o', none⟩) 2 c') (.int .i64 st2) (.bool false)) (by simp)
            have hfin := HL.out.2.2.1.stored (d : Int) (.slice (some ⟨b', o', none⟩) 2 c') st2 false
            have Z := Lib.hid hfin.cells; clear hfin
            have HFB := Lib.hid (And.intro hfb hrf); clear hfb hrf
            obtain ⟨g0, g1, g2, g3⟩ := HL.out.1.cells
            obtain ⟨r0, r1, r2, r3⟩ := HL.out.2.2.1.cells
            have q0 := HL.out.2.2.1.free 0
            have q1 := HL.out.2.2.1.free 1
            have q2 := HL.out.2.2.1.free 2
            have q3 := HL.out.2.2.1.free 3
            go_wp2_with fail
            obtain ⟨z0, z1, z2, z3⟩ := Z.out
            clear g0 g1 g2 g3 r0 r1 r2 r3 q0 q1 q2 q3
            refine bodyPost_ret (v := .agg #[.int .i64 (d : Int), .slice (some ⟨b', o', none⟩) 2 c', .int .i64 st2, .bool false]) (by simp [results, Tryz.results60, go_sem, z0, z1, z2, z3]) rfl ?_
            refine ⟨fun hh => absurd hh hm, fun hh => absurd hh hm, fun _ => ⟨(some ⟨b', o', none⟩), c', by rw [HOV.out, HS2.out]; rfl, HFB.out.2, (fun b off e => (HNR.out b off e).2.2), HFB.out.1⟩⟩
        · have hov : lastOv [x, y] p = true := by simp [lastOv]
          have HOV := Lib.hid hov; clear hov
          refine wp_region_held_drew (S := fun w' => True) (by kernel_rfl) (by trivial) (fun hHeld => ?_)
          (refine wpAnyH_take (i := 0) (v := ?_) rfl (by kernel_rfl) (by kernel_rfl) (by kernel_rfl) (fun _ _ _ h => h) (Or.inl ⟨by kernel_rfl, ?_⟩) (by assumption) ?_; rotate_left; focus (intro w hSw; (try dsimp only at hSw); go_simp; try with_reducible rfl); (try simp only [List.getElem_toArray, List.getElem_cons_succ, List.getElem_cons_zero, Act.put, List.setIfInBounds_toArray, List.set_cons_zero, List.set_cons_succ])); (refine wpAnyH_take (i := 1) (v := ?_) rfl (by kernel_rfl) (by kernel_rfl) (by kernel_rfl) (fun _ _ _ h => h) (Or.inl ⟨by kernel_rfl, ?_⟩) (by assumption) ?_; rotate_left; focus (intro w hSw; (try dsimp only at hSw); go_simp; try with_reducible rfl); (try simp only [List.getElem_toArray, List.getElem_cons_succ, List.getElem_cons_zero, Act.put, List.setIfInBounds_toArray, List.set_cons_zero, List.set_cons_succ])); (refine wpAnyH_take (i := 2) (v := ?_) rfl (by kernel_rfl) (by kernel_rfl) (by kernel_rfl) (fun _ _ _ h => h) (Or.inl ⟨by kernel_rfl, ?_⟩) (by assumption) ?_; rotate_left; focus (intro w hSw; (try dsimp only at hSw); go_simp; try with_reducible rfl); (try simp only [List.getElem_toArray, List.getElem_cons_succ, List.getElem_cons_zero, Act.put, List.setIfInBounds_toArray, List.set_cons_zero, List.set_cons_succ]))
          (refine wpAnyH_take (i := 3) (v := undef) rfl (by kernel_rfl) (by kernel_rfl) (by kernel_rfl) (fun _ _ _ h => h) (Or.inr ⟨by kernel_rfl, rfl⟩) (by assumption) ?_; (try simp only [List.getElem_toArray, List.getElem_cons_succ, List.getElem_cons_zero, Act.put, List.setIfInBounds_toArray, List.set_cons_zero, List.set_cons_succ])); (refine wpAnyH_take (i := 4) (v := undef) rfl (by kernel_rfl) (by kernel_rfl) (by kernel_rfl) (fun _ _ _ h => h) (Or.inr ⟨by kernel_rfl, rfl⟩) (by assumption) ?_; (try simp only [List.getElem_toArray, List.getElem_cons_succ, List.getElem_cons_zero, Act.put, List.setIfInBounds_toArray, List.set_cons_zero, List.set_cons_succ])); (refine wpAnyH_take (i := 5) (v := undef) rfl (by kernel_rfl) (by kernel_rfl) (by kernel_rfl) (fun _ _ _ h => h) (Or.inr ⟨by kernel_rfl, rfl⟩) (by assumption) ?_; (try simp only [List.getElem_toArray, List.getElem_cons_succ, List.getElem_cons_zero, Act.put, List.setIfInBounds_toArray, List.set_cons_zero, List.set_cons_succ])); (refine wpAnyH_take (i := 6) (v := undef) rfl (by kernel_rfl) (by kernel_rfl) (by kernel_rfl) (fun _ _ _ h => h) (Or.inr ⟨by kernel_rfl, rfl⟩) (by assumption) ?_; (try simp only [List.getElem_toArray, List.getElem_cons_succ, List.getElem_cons_zero, Act.put, List.setIfInBounds_toArray, List.set_cons_zero, List.set_cons_succ])); (refine wpAnyH_take (i := 7) (v := undef) rfl (by kernel_rfl) (by kernel_rfl) (by kernel_rfl) (fun _ _ _ h => h) (Or.inr ⟨by kernel_rfl, rfl⟩) (by assumption) ?_; (try simp only [List.getElem_toArray, List.getElem_cons_succ, List.getElem_cons_zero, Act.put, List.setIfInBounds_toArray, List.set_cons_zero, List.set_cons_succ])); (refine wpAnyH_take (i := 8) (v := undef) rfl (by kernel_rfl) (by kernel_rfl) (by kernel_rfl) (fun _ _ _ h => h) (Or.inr ⟨by kernel_rfl, rfl⟩) (by assumption) ?_; (try simp only [List.getElem_toArray, List.getElem_cons_succ, List.getElem_cons_zero, Act.put, List.setIfInBounds_toArray, List.set_cons_zero, List.set_cons_succ])); (refine wpAnyH_take (i := 9) (v := undef) rfl (by kernel_rfl) (by kernel_rfl) (by kernel_rfl) (fun _ _ _ h => h) (Or.inr ⟨by kernel_rfl, rfl⟩) (by assumption) ?_; (try simp only [List.getElem_toArray, List.getElem_cons_succ, List.getElem_cons_zero, Act.put, List.setIfInBounds_toArray, List.set_cons_zero, List.set_cons_succ])); (refine wpAnyH_take (i := 10) (v := undef) rfl (by kernel_rfl) (by kernel_rfl) (by kernel_rfl) (fun _ _ _ h => h) (Or.inr ⟨by kernel_rfl, rfl⟩) (by assumption) ?_; (try simp only [List.getElem_toArray, List.getElem_cons_succ, List.getElem_cons_zero, Act.put, List.setIfInBounds_toArray, List.set_cons_zero, List.set_cons_succ])); (refine wpAnyH_take (i := 11) (v := undef) rfl (by kernel_rfl) (by kernel_rfl) (by kernel_rfl) (fun _ _ _ h => h) (Or.inr ⟨by kernel_rfl, rfl⟩) (by assumption) ?_; (try simp only [List.getElem_toArray, List.getElem_cons_succ, List.getElem_cons_zero, Act.put, List.setIfInBounds_toArray, List.set_cons_zero, List.set_cons_succ])); (refine wpAnyH_take (i := 12) (v := undef) rfl (by kernel_rfl) (by kernel_rfl) (by kernel_rfl) (fun _ _ _ h => h) (Or.inr ⟨by kernel_rfl, rfl⟩) (by assumption) ?_; (try simp only [List.getElem_toArray, List.getElem_cons_succ, List.getElem_cons_zero, Act.put, List.setIfInBounds_toArray, List.set_cons_zero, List.set_cons_succ])); (refine wpAnyH_take (i := 13) (v := undef) rfl (by kernel_rfl) (by kernel_rfl) (by kernel_rfl) (fun _ _ _ h => h) (Or.inr ⟨by kernel_rfl, rfl⟩) (by assumption) ?_; (try simp only [List.getElem_toArray, List.getElem_cons_succ, List.getElem_cons_zero, Act.put, List.setIfInBounds_toArray, List.set_cons_zero, List.set_cons_succ])); (refine wpAnyH_take (i := 14) (v := undef) rfl (by kernel_rfl) (by kernel_rfl) (by kernel_rfl) (fun _ _ _ h => h) (Or.inr ⟨by kernel_rfl, rfl⟩) (by assumption) ?_; (try simp only [List.getElem_toArray, List.getElem_cons_succ, List.getElem_cons_zero, Act.put, List.setIfInBounds_toArray, List.set_cons_zero, List.set_cons_succ])); (refine wpAnyH_take (i := 15) (v := undef) rfl (by kernel_rfl) (by kernel_rfl) (by kernel_rfl) (fun _ _ _ h => h) (Or.inr ⟨by kernel_rfl, rfl⟩) (by assumption) ?_; (try simp only [List.getElem_toArray, List.getElem_cons_succ, List.getElem_cons_zero, Act.put, List.setIfInBounds_toArray, List.set_cons_zero, List.set_cons_succ])); (refine wpAnyH_take (i := 16) (v := undef) rfl (by kernel_rfl) (by kernel_rfl) (by kernel_rfl) (fun _ _ _ h => h) (Or.inr ⟨by kernel_rfl, rfl⟩) (by assumption) ?_; (try simp only [List.getElem_toArray, List.getElem_cons_succ, List.getElem_cons_zero, Act.put, List.setIfInBounds_toArray, List.set_cons_zero, List.set_cons_succ])); (refine wpAnyH_take (i := 17) (v := undef) rfl (by kernel_rfl) (by kernel_rfl) (by kernel_rfl) (fun _ _ _ h => h) (Or.inr ⟨by kernel_rfl, rfl⟩) (by assumption) ?_; (try simp only [List.getElem_toArray, List.getElem_cons_succ, List.getElem_cons_zero, Act.put, List.setIfInBounds_toArray, List.set_cons_zero, List.set_cons_succ])); (refine wpAnyH_take (i := 18) (v := undef) rfl (by kernel_rfl) (by kernel_rfl) (by kernel_rfl) (fun _ _ _ h => h) (Or.inr ⟨by kernel_rfl, rfl⟩) (by assumption) ?_; (try simp only [List.getElem_toArray, List.getElem_cons_succ, List.getElem_cons_zero, Act.put, List.setIfInBounds_toArray, List.set_cons_zero, List.set_cons_succ])); (refine wpAnyH_take (i := 19) (v := undef) rfl (by kernel_rfl) (by kernel_rfl) (by kernel_rfl) (fun _ _ _ h => h) (Or.inr ⟨by kernel_rfl, rfl⟩) (by assumption) ?_; (try simp only [List.getElem_toArray, List.getElem_cons_succ, List.getElem_cons_zero, Act.put, List.setIfInBounds_toArray, List.set_cons_zero, List.set_cons_succ])); (refine wpAnyH_take (i := 20) (v := undef) rfl (by kernel_rfl) (by kernel_rfl) (by kernel_rfl) (fun _ _ _ h => h) (Or.inr ⟨by kernel_rfl, rfl⟩) (by assumption) ?_; (try simp only [List.getElem_toArray, List.getElem_cons_succ, List.getElem_cons_zero, Act.put, List.setIfInBounds_toArray, List.set_cons_zero, List.set_cons_succ])); (refine wpAnyH_take (i := 21) (v := undef) rfl (by kernel_rfl) (by kernel_rfl) (by kernel_rfl) (fun _ _ _ h => h) (Or.inr ⟨by kernel_rfl, rfl⟩) (by assumption) ?_; (try simp only [List.getElem_toArray, List.getElem_cons_succ, List.getElem_cons_zero, Act.put, List.setIfInBounds_toArray, List.set_cons_zero, List.set_cons_succ])); (refine wpAnyH_take (i := 22) (v := undef) rfl (by kernel_rfl) (by kernel_rfl) (by kernel_rfl) (fun _ _ _ h => h) (Or.inr ⟨by kernel_rfl, rfl⟩) (by assumption) ?_; (try simp only [List.getElem_toArray, List.getElem_cons_succ, List.getElem_cons_zero, Act.put, List.setIfInBounds_toArray, List.set_cons_zero, List.set_cons_succ])); (refine wpAnyH_take (i := 23) (v := undef) rfl (by kernel_rfl) (by kernel_rfl) (by kernel_rfl) (fun _ _ _ h => h) (Or.inr ⟨by kernel_rfl, rfl⟩) (by assumption) ?_; (try simp only [List.getElem_toArray, List.getElem_cons_succ, List.getElem_cons_zero, Act.put, List.setIfInBounds_toArray, List.set_cons_zero, List.set_cons_succ]))
          (refine wpAnyH_take (i := 24) (v := ?_) rfl (by kernel_rfl) (by kernel_rfl) (by kernel_rfl) (fun _ _ _ h => h) (Or.inl ⟨by kernel_rfl, ?_⟩) (by assumption) ?_; rotate_left; focus (intro w hSw; (try dsimp only at hSw); go_simp; try with_reducible rfl); (try simp only [List.getElem_toArray, List.getElem_cons_succ, List.getElem_cons_zero, Act.put, List.setIfInBounds_toArray, List.set_cons_zero, List.set_cons_succ])); (refine wpAnyH_take (i := 25) (v := ?_) rfl (by kernel_rfl) (by kernel_rfl) (by kernel_rfl) (fun _ _ _ h => h) (Or.inl ⟨by kernel_rfl, ?_⟩) (by assumption) ?_; rotate_left; focus (intro w hSw; (try dsimp only at hSw); go_simp; try with_reducible rfl); (try simp only [List.getElem_toArray, List.getElem_cons_succ, List.getElem_cons_zero, Act.put, List.setIfInBounds_toArray, List.set_cons_zero, List.set_cons_succ]))
          clear hHeld
          have hlast := last_end (ov' := true) HW.out hgB hg HNR.out
          have HL := Lib.hid hlast; clear hlast
          have p3 : W.drew.frozen? ⟨g, 3, none⟩ = false := HW.out.2.1.free 3
          have z3 : W.drew.cell? ⟨g, 3, none⟩ = some (.bool false) := HW.out.2.1.cells.2.2.2
          refine wpAnyH_ready (rs := [26]) (by kernel_rfl) (by simp) ?_; refine AllReadyH.cons rfl (fun K hK => ?_) AllReadyH.nil
          go_simp
          clear p3 z3
          refine hK.out _ _ (trivial) (fun hHeld => ?_)
          clear hK K hHeld HW
          (try simp only [List.getElem_toArray, List.getElem_cons_succ, List.getElem_cons_zero, Act.put, List.setIfInBounds_toArray, List.set_cons_zero, List.set_cons_succ])
          refine wpAnyH_done (by kernel_rfl) ?_ _
          generalize (W.setCell ⟨g, 3, none⟩ (.bool true)).drew = W2 at *
          generalize hs2 : (if st - p = 0 then (10 : Int) else st - p) = st2 at *
          have HS2 := Lib.hid hs2; clear hs2
          have hfb := below_four HL.out.2.2.2 (show w.heap.size ≤ w.heap.size + 1 from Nat.le_succ _) (.int .i64 (d : Int)) (.slice a' 3 c') (.int .i64 st2) (.bool true)
          have hrf := reads_other HL.out.2.1 (fun b off e => (HNR.out b off e).1) (heap_four W2 (w.heap.size + 1) (.int .i64 (d : Int)) (.slice a' 3 c') (.int .i64 st2) (.bool true)) (by simp)
          have hfin := HL.out.2.2.1.stored (d : Int) (.slice a' 3 c') st2 true
          have Z := Lib.hid hfin.cells; clear hfin
          have HFB := Lib.hid (And.intro hfb hrf); clear hfb hrf
          obtain ⟨g0, g1, g2, g3⟩ := HL.out.1.cells
          obtain ⟨r0, r1, r2, r3⟩ := HL.out.2.2.1.cells
          have q0 := HL.out.2.2.1.free 0
          have q1 := HL.out.2.2.1.free 1
          have q2 := HL.out.2.2.1.free 2
          have q3 := HL.out.2.2.1.free 3
          go_wp2_with fail
          obtain ⟨z0, z1, z2, z3⟩ := Z.out
          clear g0 g1 g2 g3 r0 r1 r2 r3 q0 q1 q2 q3
          refine bodyPost_ret (v := .agg #[.int .i64 (d : Int), .slice a' 3 c', .int .i64 st2, .bool true]) (by simp [results, Tryz.results60, go_sem, z0, z1, z2, z3]) rfl ?_
          refine ⟨fun hh => absurd hh hm, fun hh => absurd hh hm, fun _ => ⟨a', c', by rw [HOV.out, HS2.out]; rfl, HFB.out.2, (fun b off e => (HNR.out b off e).2.2), HFB.out.1⟩⟩
      · have hst2 : (if st - p = 0 then 10 else st - p) = 10 := by rw [if_pos (by simpa using hq)]
        have hcl : CutLast w.heap.size g w d a' c' st p l (.int .i64 ((l.length + 1 : Nat) : Int)) (wc.setCell ⟨g, 2, none⟩ (.int .i64 10)) := by
          refine ⟨rfl, by rw [hst2]; exact HC.out.1.stand 10, reads_other HC.out.2.1 (fun b off e => (HNR.out b off e).2.1) (fun k hk => Below.heap_setCell _ _ _ _ hk) (by simp), HC.out.2.2.2.1.other (by omega) _, HC.out.2.2.2.2.setCell (p := ⟨g, 2, none⟩) hgB _⟩
        have HW := Lib.hid hcl; clear hcl hst2
        go_wp2_with fail
        clear HC r0 r1 r2 r3 q0 q1 q2 q3 p2 b0 g0 g2 g3 g1 p3 hq
        generalize wc.setCell ⟨g, 2, none⟩ (.int .i64 10) = W at *
        rcases hsh with rfl | ⟨x, rfl⟩ | ⟨x, y, rfl⟩
        · have hov : lastOv [] p = false := by simp [lastOv]
          have HOV := Lib.hid hov; clear hov
          refine wp_region_held_drew (S := fun w' => True) (by kernel_rfl) (by trivial) (fun hHeld => ?_)
          (refine wpAnyH_take (i := 0) (v := ?_) rfl (by kernel_rfl) (by kernel_rfl) (by kernel_rfl) (fun _ _ _ h => h) (Or.inl ⟨by kernel_rfl, ?_⟩) (by assumption) ?_; rotate_left; focus (intro w hSw; (try dsimp only at hSw); go_simp; try with_reducible rfl); (try simp only [List.getElem_toArray, List.getElem_cons_succ, List.getElem_cons_zero, Act.put, List.setIfInBounds_toArray, List.set_cons_zero, List.set_cons_succ])); (refine wpAnyH_take (i := 1) (v := ?_) rfl (by kernel_rfl) (by kernel_rfl) (by kernel_rfl) (fun _ _ _ h => h) (Or.inl ⟨by kernel_rfl, ?_⟩) (by assumption) ?_; rotate_left; focus (intro w hSw; (try dsimp only at hSw); go_simp; try with_reducible rfl); (try simp only [List.getElem_toArray, List.getElem_cons_succ, List.getElem_cons_zero, Act.put, List.setIfInBounds_toArray, List.set_cons_zero, List.set_cons_succ])); (refine wpAnyH_take (i := 2) (v := ?_) rfl (by kernel_rfl) (by kernel_rfl) (by kernel_rfl) (fun _ _ _ h => h) (Or.inl ⟨by kernel_rfl, ?_⟩) (by assumption) ?_; rotate_left; focus (intro w hSw; (try dsimp only at hSw); go_simp; try with_reducible rfl); (try simp only [List.getElem_toArray, List.getElem_cons_succ, List.getElem_cons_zero, Act.put, List.setIfInBounds_toArray, List.set_cons_zero, List.set_cons_succ])); (refine wpAnyH_take (i := 3) (v := ?_) rfl (by kernel_rfl) (by kernel_rfl) (by kernel_rfl) (fun _ _ _ h => h) (Or.inl ⟨by kernel_rfl, ?_⟩) (by assumption) ?_; rotate_left; focus (intro w hSw; (try dsimp only at hSw); go_simp; try with_reducible rfl); (try simp only [List.getElem_toArray, List.getElem_cons_succ, List.getElem_cons_zero, Act.put, List.setIfInBounds_toArray, List.set_cons_zero, List.set_cons_succ])); (refine wpAnyH_take (i := 4) (v := ?_) rfl (by kernel_rfl) (by kernel_rfl) (by kernel_rfl) (fun _ _ _ h => h) (Or.inl ⟨by kernel_rfl, ?_⟩) (by assumption) ?_; rotate_left; focus (intro w hSw; (try dsimp only at hSw); go_simp; try with_reducible rfl); (try simp only [List.getElem_toArray, List.getElem_cons_succ, List.getElem_cons_zero, Act.put, List.setIfInBounds_toArray, List.set_cons_zero, List.set_cons_succ])); (refine wpAnyH_take (i := 5) (v := ?_) rfl (by kernel_rfl) (by kernel_rfl) (by kernel_rfl) (fun _ _ _ h => h) (Or.inl ⟨by kernel_rfl, ?_⟩) (by assumption) ?_; rotate_left; focus (intro w hSw; (try dsimp only at hSw); go_simp; try with_reducible rfl); (try simp only [List.getElem_toArray, List.getElem_cons_succ, List.getElem_cons_zero, Act.put, List.setIfInBounds_toArray, List.set_cons_zero, List.set_cons_succ]))
          (refine wpAnyH_take (i := 6) (v := undef) rfl (by kernel_rfl) (by kernel_rfl) (by kernel_rfl) (fun _ _ _ h => h) (Or.inr ⟨by kernel_rfl, rfl⟩) (by assumption) ?_; (try simp only [List.getElem_toArray, List.getElem_cons_succ, List.getElem_cons_zero, Act.put, List.setIfInBounds_toArray, List.set_cons_zero, List.set_cons_succ])); (refine wpAnyH_take (i := 7) (v := undef) rfl (by kernel_rfl) (by kernel_rfl) (by kernel_rfl) (fun _ _ _ h => h) (Or.inr ⟨by kernel_rfl, rfl⟩) (by assumption) ?_; (try simp only [List.getElem_toArray, List.getElem_cons_succ, List.getElem_cons_zero, Act.put, List.setIfInBounds_toArray, List.set_cons_zero, List.set_cons_succ])); (refine wpAnyH_take (i := 8) (v := undef) rfl (by kernel_rfl) (by kernel_rfl) (by kernel_rfl) (fun _ _ _ h => h) (Or.inr ⟨by kernel_rfl, rfl⟩) (by assumption) ?_; (try simp only [List.getElem_toArray, List.getElem_cons_succ, List.getElem_cons_zero, Act.put, List.setIfInBounds_toArray, List.set_cons_zero, List.set_cons_succ])); (refine wpAnyH_take (i := 9) (v := undef) rfl (by kernel_rfl) (by kernel_rfl) (by kernel_rfl) (fun _ _ _ h => h) (Or.inr ⟨by kernel_rfl, rfl⟩) (by assumption) ?_; (try simp only [List.getElem_toArray, List.getElem_cons_succ, List.getElem_cons_zero, Act.put, List.setIfInBounds_toArray, List.set_cons_zero, List.set_cons_succ])); (refine wpAnyH_take (i := 10) (v := undef) rfl (by kernel_rfl) (by kernel_rfl) (by kernel_rfl) (fun _ _ _ h => h) (Or.inr ⟨by kernel_rfl, rfl⟩) (by assumption) ?_; (try simp only [List.getElem_toArray, List.getElem_cons_succ, List.getElem_cons_zero, Act.put, List.setIfInBounds_toArray, List.set_cons_zero, List.set_cons_succ]))
          (refine wpAnyH_take (i := 11) (v := ?_) rfl (by kernel_rfl) (by kernel_rfl) (by kernel_rfl) (fun _ _ _ h => h) (Or.inl ⟨by kernel_rfl, ?_⟩) (by assumption) ?_; rotate_left; focus (intro w hSw; (try dsimp only at hSw); go_simp; try with_reducible rfl); (try simp only [List.getElem_toArray, List.getElem_cons_succ, List.getElem_cons_zero, Act.put, List.setIfInBounds_toArray, List.set_cons_zero, List.set_cons_succ])); (refine wpAnyH_take (i := 12) (v := ?_) rfl (by kernel_rfl) (by kernel_rfl) (by kernel_rfl) (fun _ _ _ h => h) (Or.inl ⟨by kernel_rfl, ?_⟩) (by assumption) ?_; rotate_left; focus (intro w hSw; (try dsimp only at hSw); go_simp; try with_reducible rfl); (try simp only [List.getElem_toArray, List.getElem_cons_succ, List.getElem_cons_zero, Act.put, List.setIfInBounds_toArray, List.set_cons_zero, List.set_cons_succ]))
          (refine wpAnyH_take (i := 13) (v := undef) rfl (by kernel_rfl) (by kernel_rfl) (by kernel_rfl) (fun _ _ _ h => h) (Or.inr ⟨by kernel_rfl, rfl⟩) (by assumption) ?_; (try simp only [List.getElem_toArray, List.getElem_cons_succ, List.getElem_cons_zero, Act.put, List.setIfInBounds_toArray, List.set_cons_zero, List.set_cons_succ])); (refine wpAnyH_take (i := 14) (v := undef) rfl (by kernel_rfl) (by kernel_rfl) (by kernel_rfl) (fun _ _ _ h => h) (Or.inr ⟨by kernel_rfl, rfl⟩) (by assumption) ?_; (try simp only [List.getElem_toArray, List.getElem_cons_succ, List.getElem_cons_zero, Act.put, List.setIfInBounds_toArray, List.set_cons_zero, List.set_cons_succ])); (refine wpAnyH_take (i := 15) (v := undef) rfl (by kernel_rfl) (by kernel_rfl) (by kernel_rfl) (fun _ _ _ h => h) (Or.inr ⟨by kernel_rfl, rfl⟩) (by assumption) ?_; (try simp only [List.getElem_toArray, List.getElem_cons_succ, List.getElem_cons_zero, Act.put, List.setIfInBounds_toArray, List.set_cons_zero, List.set_cons_succ])); (refine wpAnyH_take (i := 16) (v := undef) rfl (by kernel_rfl) (by kernel_rfl) (by kernel_rfl) (fun _ _ _ h => h) (Or.inr ⟨by kernel_rfl, rfl⟩) (by assumption) ?_; (try simp only [List.getElem_toArray, List.getElem_cons_succ, List.getElem_cons_zero, Act.put, List.setIfInBounds_toArray, List.set_cons_zero, List.set_cons_succ])); (refine wpAnyH_take (i := 17) (v := undef) rfl (by kernel_rfl) (by kernel_rfl) (by kernel_rfl) (fun _ _ _ h => h) (Or.inr ⟨by kernel_rfl, rfl⟩) (by assumption) ?_; (try simp only [List.getElem_toArray, List.getElem_cons_succ, List.getElem_cons_zero, Act.put, List.setIfInBounds_toArray, List.set_cons_zero, List.set_cons_succ])); (refine wpAnyH_take (i := 18) (v := undef) rfl (by kernel_rfl) (by kernel_rfl) (by kernel_rfl) (fun _ _ _ h => h) (Or.inr ⟨by kernel_rfl, rfl⟩) (by assumption) ?_; (try simp only [List.getElem_toArray, List.getElem_cons_succ, List.getElem_cons_zero, Act.put, List.setIfInBounds_toArray, List.set_cons_zero, List.set_cons_succ])); (refine wpAnyH_take (i := 19) (v := undef) rfl (by kernel_rfl) (by kernel_rfl) (by kernel_rfl) (fun _ _ _ h => h) (Or.inr ⟨by kernel_rfl, rfl⟩) (by assumption) ?_; (try simp only [List.getElem_toArray, List.getElem_cons_succ, List.getElem_cons_zero, Act.put, List.setIfInBounds_toArray, List.set_cons_zero, List.set_cons_succ])); (refine wpAnyH_take (i := 20) (v := undef) rfl (by kernel_rfl) (by kernel_rfl) (by kernel_rfl) (fun _ _ _ h => h) (Or.inr ⟨by kernel_rfl, rfl⟩) (by assumption) ?_; (try simp only [List.getElem_toArray, List.getElem_cons_succ, List.getElem_cons_zero, Act.put, List.setIfInBounds_toArray, List.set_cons_zero, List.set_cons_succ])); (refine wpAnyH_take (i := 21) (v := undef) rfl (by kernel_rfl) (by kernel_rfl) (by kernel_rfl) (fun _ _ _ h => h) (Or.inr ⟨by kernel_rfl, rfl⟩) (by assumption) ?_; (try simp only [List.getElem_toArray, List.getElem_cons_succ, List.getElem_cons_zero, Act.put, List.setIfInBounds_toArray, List.set_cons_zero, List.set_cons_succ])); (refine wpAnyH_take (i := 22) (v := undef) rfl (by kernel_rfl) (by kernel_rfl) (by kernel_rfl) (fun _ _ _ h => h) (Or.inr ⟨by kernel_rfl, rfl⟩) (by assumption) ?_; (try simp only [List.getElem_toArray, List.getElem_cons_succ, List.getElem_cons_zero, Act.put, List.setIfInBounds_toArray, List.set_cons_zero, List.set_cons_succ]))
          (refine wpAnyH_take (i := 23) (v := ?_) rfl (by kernel_rfl) (by kernel_rfl) (by kernel_rfl) (fun _ _ _ h => h) (Or.inl ⟨by kernel_rfl, ?_⟩) (by assumption) ?_; rotate_left; focus (intro w hSw; (try dsimp only at hSw); go_simp; try with_reducible rfl); (try simp only [List.getElem_toArray, List.getElem_cons_succ, List.getElem_cons_zero, Act.put, List.setIfInBounds_toArray, List.set_cons_zero, List.set_cons_succ])); (refine wpAnyH_take (i := 24) (v := ?_) rfl (by kernel_rfl) (by kernel_rfl) (by kernel_rfl) (fun _ _ _ h => h) (Or.inl ⟨by kernel_rfl, ?_⟩) (by assumption) ?_; rotate_left; focus (intro w hSw; (try dsimp only at hSw); go_simp; try with_reducible rfl); (try simp only [List.getElem_toArray, List.getElem_cons_succ, List.getElem_cons_zero, Act.put, List.setIfInBounds_toArray, List.set_cons_zero, List.set_cons_succ])); (refine wpAnyH_take (i := 25) (v := ?_) rfl (by kernel_rfl) (by kernel_rfl) (by kernel_rfl) (fun _ _ _ h => h) (Or.inl ⟨by kernel_rfl, ?_⟩) (by assumption) ?_; rotate_left; focus (intro w hSw; (try dsimp only at hSw); go_simp; try with_reducible rfl); (try simp only [List.getElem_toArray, List.getElem_cons_succ, List.getElem_cons_zero, Act.put, List.setIfInBounds_toArray, List.set_cons_zero, List.set_cons_succ]))
          clear hHeld
          have hlast := last_end (ov' := false) HW.out hgB hg HNR.out
          have HL := Lib.hid hlast; clear hlast
          have p3 : W.drew.frozen? ⟨g, 3, none⟩ = false := HW.out.2.1.free 3
          have z3 : W.drew.cell? ⟨g, 3, none⟩ = some (.bool false) := HW.out.2.1.cells.2.2.2
          refine wpAnyH_ready (rs := [26]) (by kernel_rfl) (by simp) ?_; refine AllReadyH.cons rfl (fun K hK => ?_) AllReadyH.nil
          go_simp
          clear p3 z3
          refine hK.out _ _ (trivial) (fun hHeld => ?_)
          clear hK K hHeld HW
          (try simp only [List.getElem_toArray, List.getElem_cons_succ, List.getElem_cons_zero, Act.put, List.setIfInBounds_toArray, List.set_cons_zero, List.set_cons_succ])
          refine wpAnyH_done (by kernel_rfl) ?_ _
          generalize (W.setCell ⟨g, 3, none⟩ (.bool false)).drew = W2 at *
          generalize hs2 : (if st - p = 0 then (10 : Int) else st - p) = st2 at *
          have HS2 := Lib.hid hs2; clear hs2
          have hfb := below_four HL.out.2.2.2 (show w.heap.size ≤ w.heap.size + 1 from Nat.le_succ _) (.int .i64 (d : Int)) (.slice a' 1 c') (.int .i64 st2) (.bool false)
          have hrf := reads_other HL.out.2.1 (fun b off e => (HNR.out b off e).1) (heap_four W2 (w.heap.size + 1) (.int .i64 (d : Int)) (.slice a' 1 c') (.int .i64 st2) (.bool false)) (by simp)
          have hfin := HL.out.2.2.1.stored (d : Int) (.slice a' 1 c') st2 false
          have Z := Lib.hid hfin.cells; clear hfin
          have HFB := Lib.hid (And.intro hfb hrf); clear hfb hrf
          obtain ⟨g0, g1, g2, g3⟩ := HL.out.1.cells
          obtain ⟨r0, r1, r2, r3⟩ := HL.out.2.2.1.cells
          have q0 := HL.out.2.2.1.free 0
          have q1 := HL.out.2.2.1.free 1
          have q2 := HL.out.2.2.1.free 2
          have q3 := HL.out.2.2.1.free 3
          go_wp2_with fail
          obtain ⟨z0, z1, z2, z3⟩ := Z.out
          clear g0 g1 g2 g3 r0 r1 r2 r3 q0 q1 q2 q3
          refine bodyPost_ret (v := .agg #[.int .i64 (d : Int), .slice a' 1 c', .int .i64 st2, .bool false]) (by simp [results, Tryz.results60, go_sem, z0, z1, z2, z3]) rfl ?_
          refine ⟨fun hh => absurd hh hm, fun hh => absurd hh hm, fun _ => ⟨a', c', by rw [HOV.out, HS2.out]; rfl, HFB.out.2, (fun b off e => (HNR.out b off e).2.2), HFB.out.1⟩⟩
        · have hx := hlb x (by simp)
          obtain ⟨b', o', e', -, hcs⟩ := cells_of_reads HW.out.2.2.1 (by simp)
          have x0 : W.drew.cell? ⟨b', o' + 0, none⟩ = some (.int .i64 x) := hcs 0 (by simp)
          have x1 : W.drew.cell? ⟨b', o' + 1, none⟩ = some (.int .i64 p) := hcs 1 (by simp)
          have g1 : W.drew.cell? ⟨g, 1, none⟩ = some (.slice a' ([x].length + 1) c') := HW.out.2.1.cells.2.1
          rw [Nat.add_zero] at x0
          subst e'
          have hne := (HNR.out _ _ rfl).2.1
          have hs0 : W.drew.cell? ⟨g, 1, none⟩ = some (.slice (some ⟨b', o', none⟩) 2 c') ∧ W.drew.cell? ⟨b', o', none⟩ = some (.int .i64 x) ∧ W.drew.cell? ⟨b', o' + 1, none⟩ = some (.int .i64 p) := ⟨g1, x0, x1⟩
          have hsv : ∀ ov, (W.setCell ⟨g, 3, none⟩ (.bool ov)).drew.cell? ⟨g, 1, none⟩ = some (.slice (some ⟨b', o', none⟩) 2 c') ∧ (W.setCell ⟨g, 3, none⟩ (.bool ov)).drew.cell? ⟨b', o', none⟩ = some (.int .i64 x) ∧ (W.setCell ⟨g, 3, none⟩ (.bool ov)).drew.cell? ⟨b', o' + 1, none⟩ = some (.int .i64 p) := by
            intro ov
            show (W.drew.setCell ⟨g, 3, none⟩ (.bool ov)).cell? ⟨g, 1, none⟩ = _ ∧ (W.drew.setCell ⟨g, 3, none⟩ (.bool ov)).cell? ⟨b', o', none⟩ = _ ∧ (W.drew.setCell ⟨g, 3, none⟩ (.bool ov)).cell? ⟨b', o' + 1, none⟩ = _
            refine ⟨?_, ?_, ?_⟩
            · rw [World.cell?_setCell_other _ _ _ _ (by intro e; injection e with _ e2; exact absurd e2 (by decide))]; exact hs0.1
            · rw [World.cell?_setCell_other _ _ _ _ (by intro e; injection e with e1; exact hne e1.symm)]; exact hs0.2.1
            · rw [World.cell?_setCell_other _ _ _ _ (by intro e; injection e with e1; exact hne e1.symm)]; exact hs0.2.2
          have HSV := Lib.hid hsv; clear hsv g1 x0 x1 hcs
          have HS0 := Lib.hid hs0; clear hs0
          have hwx : IntKind.i64.wrap (x + p) = x + p := IntWalk.i64_in _ (by omega)
          by_cases hx1 : x < 10
          · by_cases hx2 : x + p < 10
            · have hov : lastOv [x] p = true := by simp [lastOv]; omega
              have HOV := Lib.hid hov; clear hov
              refine wp_region_held_drew (S := fun w' => w'.cell? ⟨g, 1, none⟩ = some (.slice (some ⟨b', o', none⟩) 2 c') ∧ w'.cell? ⟨b', o', none⟩ = some (.int .i64 x) ∧ w'.cell? ⟨b', o' + 1, none⟩ = some (.int .i64 p)) (by kernel_rfl) (HS0.out) (fun hHeld => ?_)
              (refine wpAnyH_take (i := 0) (v := ?_) rfl (by kernel_rfl) (by kernel_rfl) (by kernel_rfl) (fun _ _ _ h => h) (Or.inl ⟨by kernel_rfl, ?_⟩) (by assumption) ?_; rotate_left; focus (intro w hSw; (try dsimp only at hSw); go_simp; try with_reducible rfl); (try simp only [List.getElem_toArray, List.getElem_cons_succ, List.getElem_cons_zero, Act.put, List.setIfInBounds_toArray, List.set_cons_zero, List.set_cons_succ])); (refine wpAnyH_take (i := 1) (v := ?_) rfl (by kernel_rfl) (by kernel_rfl) (by kernel_rfl) (fun _ _ _ h => h) (Or.inl ⟨by kernel_rfl, ?_⟩) (by assumption) ?_; rotate_left; focus (intro w hSw; (try dsimp only at hSw); go_simp; try with_reducible rfl); (try simp only [List.getElem_toArray, List.getElem_cons_succ, List.getElem_cons_zero, Act.put, List.setIfInBounds_toArray, List.set_cons_zero, List.set_cons_succ])); (refine wpAnyH_take (i := 2) (v := ?_) rfl (by kernel_rfl) (by kernel_rfl) (by kernel_rfl) (fun _ _ _ h => h) (Or.inl ⟨by kernel_rfl, ?_⟩) (by assumption) ?_; rotate_left; focus (intro w hSw; (try dsimp only at hSw); go_simp; try with_reducible rfl); (try simp only [List.getElem_toArray, List.getElem_cons_succ, List.getElem_cons_zero, Act.put, List.setIfInBounds_toArray, List.set_cons_zero, List.set_cons_succ])); (refine wpAnyH_take (i := 3) (v := ?_) rfl (by kernel_rfl) (by kernel_rfl) (by kernel_rfl) (fun _ _ _ h => h) (Or.inl ⟨by kernel_rfl, ?_⟩) (by assumption) ?_; rotate_left; focus (intro w hSw; (try dsimp only at hSw); go_simp; try with_reducible rfl); (try simp only [List.getElem_toArray, List.getElem_cons_succ, List.getElem_cons_zero, Act.put, List.setIfInBounds_toArray, List.set_cons_zero, List.set_cons_succ])); (refine wpAnyH_take (i := 4) (v := ?_) rfl (by kernel_rfl) (by kernel_rfl) (by kernel_rfl) (fun _ _ _ h => h) (Or.inl ⟨by kernel_rfl, ?_⟩) (by assumption) ?_; rotate_left; focus (intro w hSw; (try dsimp only at hSw); go_simp; try with_reducible rfl); (try simp only [List.getElem_toArray, List.getElem_cons_succ, List.getElem_cons_zero, Act.put, List.setIfInBounds_toArray, List.set_cons_zero, List.set_cons_succ])); (refine wpAnyH_take (i := 5) (v := ?_) rfl (by kernel_rfl) (by kernel_rfl) (by kernel_rfl) (fun _ _ _ h => h) (Or.inl ⟨by kernel_rfl, ?_⟩) (by assumption) ?_; rotate_left; focus (intro w hSw; (try dsimp only at hSw); go_simp; try with_reducible rfl); (try simp only [List.getElem_toArray, List.getElem_cons_succ, List.getElem_cons_zero, Act.put, List.setIfInBounds_toArray, List.set_cons_zero, List.set_cons_succ])); (refine wpAnyH_take (i := 6) (v := ?_) rfl (by kernel_rfl) (by kernel_rfl) (by kernel_rfl) (fun _ _ _ h => h) (Or.inl ⟨by kernel_rfl, ?_⟩) (by assumption) ?_; rotate_left; focus (intro w hSw; (try dsimp only at hSw); go_simp; try with_reducible rfl); (try simp only [List.getElem_toArray, List.getElem_cons_succ, List.getElem_cons_zero, Act.put, List.setIfInBounds_toArray, List.set_cons_zero, List.set_cons_succ])); (refine wpAnyH_take (i := 7) (v := ?_) rfl (by kernel_rfl) (by kernel_rfl) (by kernel_rfl) (fun _ _ _ h => h) (Or.inl ⟨by kernel_rfl, ?_⟩) (by assumption) ?_; rotate_left; focus (intro w hSw; (try dsimp only at hSw); go_simp; try with_reducible rfl); (try simp only [List.getElem_toArray, List.getElem_cons_succ, List.getElem_cons_zero, Act.put, List.setIfInBounds_toArray, List.set_cons_zero, List.set_cons_succ])); (refine wpAnyH_take (i := 8) (v := ?_) rfl (by kernel_rfl) (by kernel_rfl) (by kernel_rfl) (fun _ _ _ h => h) (Or.inl ⟨by kernel_rfl, ?_⟩) (by assumption) ?_; rotate_left; focus (intro w hSw; (try dsimp only at hSw); go_simp; try with_reducible rfl); (try simp only [List.getElem_toArray, List.getElem_cons_succ, List.getElem_cons_zero, Act.put, List.setIfInBounds_toArray, List.set_cons_zero, List.set_cons_succ])); (refine wpAnyH_take (i := 9) (v := ?_) rfl (by kernel_rfl) (by kernel_rfl) (by kernel_rfl) (fun _ _ _ h => h) (Or.inl ⟨by kernel_rfl, ?_⟩) (by assumption) ?_; rotate_left; focus (intro w hSw; (try dsimp only at hSw); go_simp; try with_reducible rfl); (try simp only [List.getElem_toArray, List.getElem_cons_succ, List.getElem_cons_zero, Act.put, List.setIfInBounds_toArray, List.set_cons_zero, List.set_cons_succ])); (refine wpAnyH_take (i := 10) (v := ?_) rfl (by kernel_rfl) (by kernel_rfl) (by kernel_rfl) (fun _ _ _ h => h) (Or.inl ⟨by kernel_rfl, ?_⟩) (by assumption) ?_; rotate_left; focus (intro w hSw; (try dsimp only at hSw); go_simp; try with_reducible rfl); (try simp only [List.getElem_toArray, List.getElem_cons_succ, List.getElem_cons_zero, Act.put, List.setIfInBounds_toArray, List.set_cons_zero, List.set_cons_succ])); (refine wpAnyH_take (i := 11) (v := ?_) rfl (by kernel_rfl) (by kernel_rfl) (by kernel_rfl) (fun _ _ _ h => h) (Or.inl ⟨by kernel_rfl, ?_⟩) (by assumption) ?_; rotate_left; focus (intro w hSw; (try dsimp only at hSw); go_simp; try with_reducible rfl); (try simp only [List.getElem_toArray, List.getElem_cons_succ, List.getElem_cons_zero, Act.put, List.setIfInBounds_toArray, List.set_cons_zero, List.set_cons_succ])); (refine wpAnyH_take (i := 12) (v := ?_) rfl (by kernel_rfl) (by kernel_rfl) (by kernel_rfl) (fun _ _ _ h => h) (Or.inl ⟨by kernel_rfl, ?_⟩) (by assumption) ?_; rotate_left; focus (intro w hSw; (try dsimp only at hSw); go_simp; try with_reducible rfl); (try simp only [List.getElem_toArray, List.getElem_cons_succ, List.getElem_cons_zero, Act.put, List.setIfInBounds_toArray, List.set_cons_zero, List.set_cons_succ])); (refine wpAnyH_take (i := 13) (v := ?_) rfl (by kernel_rfl) (by kernel_rfl) (by kernel_rfl) (fun _ _ _ h => h) (Or.inl ⟨by kernel_rfl, ?_⟩) (by assumption) ?_; rotate_left; focus (intro w hSw; (try dsimp only at hSw); go_simp; try with_reducible rfl); (try simp only [List.getElem_toArray, List.getElem_cons_succ, List.getElem_cons_zero, Act.put, List.setIfInBounds_toArray, List.set_cons_zero, List.set_cons_succ])); (refine wpAnyH_take (i := 14) (v := ?_) rfl (by kernel_rfl) (by kernel_rfl) (by kernel_rfl) (fun _ _ _ h => h) (Or.inl ⟨by kernel_rfl, ?_⟩) (by assumption) ?_; rotate_left; focus (intro w hSw; (try dsimp only at hSw); go_simp; try with_reducible rfl); (try simp only [List.getElem_toArray, List.getElem_cons_succ, List.getElem_cons_zero, Act.put, List.setIfInBounds_toArray, List.set_cons_zero, List.set_cons_succ])); (refine wpAnyH_take (i := 15) (v := ?_) rfl (by kernel_rfl) (by kernel_rfl) (by kernel_rfl) (fun _ _ _ h => h) (Or.inl ⟨by kernel_rfl, ?_⟩) (by assumption) ?_; rotate_left; focus (intro w hSw; (try dsimp only at hSw); go_simp; try with_reducible rfl); (try simp only [List.getElem_toArray, List.getElem_cons_succ, List.getElem_cons_zero, Act.put, List.setIfInBounds_toArray, List.set_cons_zero, List.set_cons_succ])); (refine wpAnyH_take (i := 16) (v := ?_) rfl (by kernel_rfl) (by kernel_rfl) (by kernel_rfl) (fun _ _ _ h => h) (Or.inl ⟨by kernel_rfl, ?_⟩) (by assumption) ?_; rotate_left; focus (intro w hSw; (try dsimp only at hSw); go_simp; try with_reducible rfl); (try simp only [List.getElem_toArray, List.getElem_cons_succ, List.getElem_cons_zero, Act.put, List.setIfInBounds_toArray, List.set_cons_zero, List.set_cons_succ])); (refine wpAnyH_take (i := 17) (v := ?_) rfl (by kernel_rfl) (by kernel_rfl) (by kernel_rfl) (fun _ _ _ h => h) (Or.inl ⟨by kernel_rfl, ?_⟩) (by assumption) ?_; rotate_left; focus (intro w hSw; (try dsimp only at hSw); go_simp; try with_reducible rfl); (try simp only [List.getElem_toArray, List.getElem_cons_succ, List.getElem_cons_zero, Act.put, List.setIfInBounds_toArray, List.set_cons_zero, List.set_cons_succ])); (refine wpAnyH_take (i := 18) (v := ?_) rfl (by kernel_rfl) (by kernel_rfl) (by kernel_rfl) (fun _ _ _ h => h) (Or.inl ⟨by kernel_rfl, ?_⟩) (by assumption) ?_; rotate_left; focus (intro w hSw; (try dsimp only at hSw); go_simp; try with_reducible rfl); (try simp only [List.getElem_toArray, List.getElem_cons_succ, List.getElem_cons_zero, Act.put, List.setIfInBounds_toArray, List.set_cons_zero, List.set_cons_succ])); (refine wpAnyH_take (i := 19) (v := ?_) rfl (by kernel_rfl) (by kernel_rfl) (by kernel_rfl) (fun _ _ _ h => h) (Or.inl ⟨by kernel_rfl, ?_⟩) (by assumption) ?_; rotate_left; focus (intro w hSw; (try dsimp only at hSw); go_simp; try with_reducible rfl); (try simp only [List.getElem_toArray, List.getElem_cons_succ, List.getElem_cons_zero, Act.put, List.setIfInBounds_toArray, List.set_cons_zero, List.set_cons_succ])); (refine wpAnyH_take (i := 20) (v := ?_) rfl (by kernel_rfl) (by kernel_rfl) (by kernel_rfl) (fun _ _ _ h => h) (Or.inl ⟨by kernel_rfl, ?_⟩) (by assumption) ?_; rotate_left; focus (intro w hSw; (try dsimp only at hSw); go_simp; try with_reducible rfl); (try simp only [List.getElem_toArray, List.getElem_cons_succ, List.getElem_cons_zero, Act.put, List.setIfInBounds_toArray, List.set_cons_zero, List.set_cons_succ])); (refine wpAnyH_take (i := 21) (v := ?_) rfl (by kernel_rfl) (by kernel_rfl) (by kernel_rfl) (fun _ _ _ h => h) (Or.inl ⟨by kernel_rfl, ?_⟩) (by assumption) ?_; rotate_left; focus (intro w hSw; (try dsimp only at hSw); go_simp; try with_reducible rfl); (try simp only [List.getElem_toArray, List.getElem_cons_succ, List.getElem_cons_zero, Act.put, List.setIfInBounds_toArray, List.set_cons_zero, List.set_cons_succ])); (refine wpAnyH_take (i := 22) (v := ?_) rfl (by kernel_rfl) (by kernel_rfl) (by kernel_rfl) (fun _ _ _ h => h) (Or.inl ⟨by kernel_rfl, ?_⟩) (by assumption) ?_; rotate_left; focus (intro w hSw; (try dsimp only at hSw); go_simp; try with_reducible rfl); (try simp only [List.getElem_toArray, List.getElem_cons_succ, List.getElem_cons_zero, Act.put, List.setIfInBounds_toArray, List.set_cons_zero, List.set_cons_succ])); (refine wpAnyH_take (i := 23) (v := ?_) rfl (by kernel_rfl) (by kernel_rfl) (by kernel_rfl) (fun _ _ _ h => h) (Or.inl ⟨by kernel_rfl, ?_⟩) (by assumption) ?_; rotate_left; focus (intro w hSw; (try dsimp only at hSw); go_simp; try with_reducible rfl); (try simp only [List.getElem_toArray, List.getElem_cons_succ, List.getElem_cons_zero, Act.put, List.setIfInBounds_toArray, List.set_cons_zero, List.set_cons_succ])); (refine wpAnyH_take (i := 24) (v := ?_) rfl (by kernel_rfl) (by kernel_rfl) (by kernel_rfl) (fun _ _ _ h => h) (Or.inl ⟨by kernel_rfl, ?_⟩) (by assumption) ?_; rotate_left; focus (intro w hSw; (try dsimp only at hSw); go_simp; try with_reducible rfl); (try simp only [List.getElem_toArray, List.getElem_cons_succ, List.getElem_cons_zero, Act.put, List.setIfInBounds_toArray, List.set_cons_zero, List.set_cons_succ])); (refine wpAnyH_take (i := 25) (v := ?_) rfl (by kernel_rfl) (by kernel_rfl) (by kernel_rfl) (fun _ _ _ h => h) (Or.inl ⟨by kernel_rfl, ?_⟩) (by assumption) ?_; rotate_left; focus (intro w hSw; (try dsimp only at hSw); go_simp; try with_reducible rfl); (try simp only [List.getElem_toArray, List.getElem_cons_succ, List.getElem_cons_zero, Act.put, List.setIfInBounds_toArray, List.set_cons_zero, List.set_cons_succ]))
              clear hHeld
              have hlast := last_end (ov' := true) HW.out hgB hg HNR.out
              have HL := Lib.hid hlast; clear hlast
              have p3 : W.drew.frozen? ⟨g, 3, none⟩ = false := HW.out.2.1.free 3
              have z3 : W.drew.cell? ⟨g, 3, none⟩ = some (.bool false) := HW.out.2.1.cells.2.2.2
              refine wpAnyH_ready (rs := [26]) (by kernel_rfl) (by simp) ?_; refine AllReadyH.cons rfl (fun K hK => ?_) AllReadyH.nil
              go_simp
              clear p3 z3
              refine hK.out _ _ (HSV.out true) (fun hHeld => ?_)
              clear hK K hHeld HW
              (try simp only [List.getElem_toArray, List.getElem_cons_succ, List.getElem_cons_zero, Act.put, List.setIfInBounds_toArray, List.set_cons_zero, List.set_cons_succ])
              refine wpAnyH_done (by kernel_rfl) ?_ _
              generalize (W.setCell ⟨g, 3, none⟩ (.bool true)).drew = W2 at *
              generalize hs2 : (if st - p = 0 then (10 : Int) else st - p) = st2 at *
              have HS2 := Lib.hid hs2; clear hs2
              have hfb := below_four HL.out.2.2.2 (show w.heap.size ≤ w.heap.size + 1 from Nat.le_succ _) (.int .i64 (d : Int)) (.slice (some ⟨b', o', none⟩) 2 c') (.int .i64 st2) (.bool true)
              have hrf := reads_other HL.out.2.1 (fun b off e => (HNR.out b off e).1) (heap_four W2 (w.heap.size + 1) (.int .i64 (d : Int)) (.slice (some ⟨b', o', none⟩) 2 c') (.int .i64 st2) (.bool true)) (by simp)
              have hfin := HL.out.2.2.1.stored (d : Int) (.slice (some ⟨b', o', none⟩) 2 c') st2 true
              have Z := Lib.hid hfin.cells; clear hfin
              have HFB := Lib.hid (And.intro hfb hrf); clear hfb hrf
              obtain ⟨g0, g1, g2, g3⟩ := HL.out.1.cells
              obtain ⟨r0, r1, r2, r3⟩ := HL.out.2.2.1.cells
              have q0 := HL.out.2.2.1.free 0
              have q1 := HL.out.2.2.1.free 1
              have q2 := HL.out.2.2.1.free 2
              have q3 := HL.out.2.2.1.free 3
              go_wp2_with fail
              obtain ⟨z0, z1, z2, z3⟩ := Z.out
              clear g0 g1 g2 g3 r0 r1 r2 r3 q0 q1 q2 q3
              refine bodyPost_ret (v := .agg #[.int .i64 (d : Int), .slice (some ⟨b', o', none⟩) 2 c', .int .i64 st2, .bool true]) (by simp [results, Tryz.results60, go_sem, z0, z1, z2, z3]) rfl ?_
              refine ⟨fun hh => absurd hh hm, fun hh => absurd hh hm, fun _ => ⟨(some ⟨b', o', none⟩), c', by rw [HOV.out, HS2.out]; rfl, HFB.out.2, (fun b off e => (HNR.out b off e).2.2), HFB.out.1⟩⟩
            · have hov : lastOv [x] p = false := by simp [lastOv]; omega
              have HOV := Lib.hid hov; clear hov
              refine wp_region_held_drew (S := fun w' => w'.cell? ⟨g, 1, none⟩ = some (.slice (some ⟨b', o', none⟩) 2 c') ∧ w'.cell? ⟨b', o', none⟩ = some (.int .i64 x) ∧ w'.cell? ⟨b', o' + 1, none⟩ = some (.int .i64 p)) (by kernel_rfl) (HS0.out) (fun hHeld => ?_)
              (refine wpAnyH_take (i := 0) (v := ?_) rfl (by kernel_rfl) (by kernel_rfl) (by kernel_rfl) (fun _ _ _ h => h) (Or.inl ⟨by kernel_rfl, ?_⟩) (by assumption) ?_; rotate_left; focus (intro w hSw; (try dsimp only at hSw); go_simp; try with_reducible rfl); (try simp only [List.getElem_toArray, List.getElem_cons_succ, List.getElem_cons_zero, Act.put, List.setIfInBounds_toArray, List.set_cons_zero, List.set_cons_succ])); (refine wpAnyH_take (i := 1) (v := ?_) rfl (by kernel_rfl) (by kernel_rfl) (by kernel_rfl) (fun _ _ _ h => h) (Or.inl ⟨by kernel_rfl, ?_⟩) (by assumption) ?_; rotate_left; focus (intro w hSw; (try dsimp only at hSw); go_simp; try with_reducible rfl); (try simp only [List.getElem_toArray, List.getElem_cons_succ, List.getElem_cons_zero, Act.put, List.setIfInBounds_toArray, List.set_cons_zero, List.set_cons_succ])); (refine wpAnyH_take (i := 2) (v := ?_) rfl (by kernel_rfl) (by kernel_rfl) (by kernel_rfl) (fun _ _ _ h => h) (Or.inl ⟨by kernel_rfl, ?_⟩) (by assumption) ?_; rotate_left; focus (intro w hSw; (try dsimp only at hSw); go_simp; try with_reducible rfl); (try simp only [List.getElem_toArray, List.getElem_cons_succ, List.getElem_cons_zero, Act.put, List.setIfInBounds_toArray, List.set_cons_zero, List.set_cons_succ])); (refine wpAnyH_take (i := 3) (v := ?_) rfl (by kernel_rfl) (by kernel_rfl) (by kernel_rfl) (fun _ _ _ h => h) (Or.inl ⟨by kernel_rfl, ?_⟩) (by assumption) ?_; rotate_left; focus (intro w hSw; (try dsimp only at hSw); go_simp; try with_reducible rfl); (try simp only [List.getElem_toArray, List.getElem_cons_succ, List.getElem_cons_zero, Act.put, List.setIfInBounds_toArray, List.set_cons_zero, List.set_cons_succ])); (refine wpAnyH_take (i := 4) (v := ?_) rfl (by kernel_rfl) (by kernel_rfl) (by kernel_rfl) (fun _ _ _ h => h) (Or.inl ⟨by kernel_rfl, ?_⟩) (by assumption) ?_; rotate_left; focus (intro w hSw; (try dsimp only at hSw); go_simp; try with_reducible rfl); (try simp only [List.getElem_toArray, List.getElem_cons_succ, List.getElem_cons_zero, Act.put, List.setIfInBounds_toArray, List.set_cons_zero, List.set_cons_succ])); (refine wpAnyH_take (i := 5) (v := ?_) rfl (by kernel_rfl) (by kernel_rfl) (by kernel_rfl) (fun _ _ _ h => h) (Or.inl ⟨by kernel_rfl, ?_⟩) (by assumption) ?_; rotate_left; focus (intro w hSw; (try dsimp only at hSw); go_simp; try with_reducible rfl); (try simp only [List.getElem_toArray, List.getElem_cons_succ, List.getElem_cons_zero, Act.put, List.setIfInBounds_toArray, List.set_cons_zero, List.set_cons_succ])); (refine wpAnyH_take (i := 6) (v := ?_) rfl (by kernel_rfl) (by kernel_rfl) (by kernel_rfl) (fun _ _ _ h => h) (Or.inl ⟨by kernel_rfl, ?_⟩) (by assumption) ?_; rotate_left; focus (intro w hSw; (try dsimp only at hSw); go_simp; try with_reducible rfl); (try simp only [List.getElem_toArray, List.getElem_cons_succ, List.getElem_cons_zero, Act.put, List.setIfInBounds_toArray, List.set_cons_zero, List.set_cons_succ])); (refine wpAnyH_take (i := 7) (v := ?_) rfl (by kernel_rfl) (by kernel_rfl) (by kernel_rfl) (fun _ _ _ h => h) (Or.inl ⟨by kernel_rfl, ?_⟩) (by assumption) ?_; rotate_left; focus (intro w hSw; (try dsimp only at hSw); go_simp; try with_reducible rfl); (try simp only [List.getElem_toArray, List.getElem_cons_succ, List.getElem_cons_zero, Act.put, List.setIfInBounds_toArray, List.set_cons_zero, List.set_cons_succ])); (refine wpAnyH_take (i := 8) (v := ?_) rfl (by kernel_rfl) (by kernel_rfl) (by kernel_rfl) (fun _ _ _ h => h) (Or.inl ⟨by kernel_rfl, ?_⟩) (by assumption) ?_; rotate_left; focus (intro w hSw; (try dsimp only at hSw); go_simp; try with_reducible rfl); (try simp only [List.getElem_toArray, List.getElem_cons_succ, List.getElem_cons_zero, Act.put, List.setIfInBounds_toArray, List.set_cons_zero, List.set_cons_succ])); (refine wpAnyH_take (i := 9) (v := ?_) rfl (by kernel_rfl) (by kernel_rfl) (by kernel_rfl) (fun _ _ _ h => h) (Or.inl ⟨by kernel_rfl, ?_⟩) (by assumption) ?_; rotate_left; focus (intro w hSw; (try dsimp only at hSw); go_simp; try with_reducible rfl); (try simp only [List.getElem_toArray, List.getElem_cons_succ, List.getElem_cons_zero, Act.put, List.setIfInBounds_toArray, List.set_cons_zero, List.set_cons_succ])); (refine wpAnyH_take (i := 10) (v := ?_) rfl (by kernel_rfl) (by kernel_rfl) (by kernel_rfl) (fun _ _ _ h => h) (Or.inl ⟨by kernel_rfl, ?_⟩) (by assumption) ?_; rotate_left; focus (intro w hSw; (try dsimp only at hSw); go_simp; try with_reducible rfl); (try simp only [List.getElem_toArray, List.getElem_cons_succ, List.getElem_cons_zero, Act.put, List.setIfInBounds_toArray, List.set_cons_zero, List.set_cons_succ])); (refine wpAnyH_take (i := 11) (v := ?_) rfl (by kernel_rfl) (by kernel_rfl) (by kernel_rfl) (fun _ _ _ h => h) (Or.inl ⟨by kernel_rfl, ?_⟩) (by assumption) ?_; rotate_left; focus (intro w hSw; (try dsimp only at hSw); go_simp; try with_reducible rfl); (try simp only [List.getElem_toArray, List.getElem_cons_succ, List.getElem_cons_zero, Act.put, List.setIfInBounds_toArray, List.set_cons_zero, List.set_cons_succ])); (refine wpAnyH_take (i := 12) (v := ?_) rfl (by kernel_rfl) (by kernel_rfl) (by kernel_rfl) (fun _ _ _ h => h) (Or.inl ⟨by kernel_rfl, ?_⟩) (by assumption) ?_; rotate_left; focus (intro w hSw; (try dsimp only at hSw); go_simp; try with_reducible rfl); (try simp only [List.getElem_toArray, List.getElem_cons_succ, List.getElem_cons_zero, Act.put, List.setIfInBounds_toArray, List.set_cons_zero, List.set_cons_succ])); (refine wpAnyH_take (i := 13) (v := ?_) rfl (by kernel_rfl) (by kernel_rfl) (by kernel_rfl) (fun _ _ _ h => h) (Or.inl ⟨by kernel_rfl, ?_⟩) (by assumption) ?_; rotate_left; focus (intro w hSw; (try dsimp only at hSw); go_simp; try with_reducible rfl); (try simp only [List.getElem_toArray, List.getElem_cons_succ, List.getElem_cons_zero, Act.put, List.setIfInBounds_toArray, List.set_cons_zero, List.set_cons_succ])); (refine wpAnyH_take (i := 14) (v := ?_) rfl (by kernel_rfl) (by kernel_rfl) (by kernel_rfl) (fun _ _ _ h => h) (Or.inl ⟨by kernel_rfl, ?_⟩) (by assumption) ?_; rotate_left; focus (intro w hSw; (try dsimp only at hSw); go_simp; try with_reducible rfl); (try simp only [List.getElem_toArray, List.getElem_cons_succ, List.getElem_cons_zero, Act.put, List.setIfInBounds_toArray, List.set_cons_zero, List.set_cons_succ])); (refine wpAnyH_take (i := 15) (v := ?_) rfl (by kernel_rfl) (by kernel_rfl) (by kernel_rfl) (fun _ _ _ h => h) (Or.inl ⟨by kernel_rfl, ?_⟩) (by assumption) ?_; rotate_left; focus (intro w hSw; (try dsimp only at hSw); go_simp; try with_reducible rfl); (try simp only [List.getElem_toArray, List.getElem_cons_succ, List.getElem_cons_zero, Act.put, List.setIfInBounds_toArray, List.set_cons_zero, List.set_cons_succ])); (refine wpAnyH_take (i := 16) (v := ?_) rfl (by kernel_rfl) (by kernel_rfl) (by kernel_rfl) (fun _ _ _ h => h) (Or.inl ⟨by kernel_rfl, ?_⟩) (by assumption) ?_; rotate_left; focus (intro w hSw; (try dsimp only at hSw); go_simp; try with_reducible rfl); (try simp only [List.getElem_toArray, List.getElem_cons_succ, List.getElem_cons_zero, Act.put, List.setIfInBounds_toArray, List.set_cons_zero, List.set_cons_succ])); (refine wpAnyH_take (i := 17) (v := ?_) rfl (by kernel_rfl) (by kernel_rfl) (by kernel_rfl) (fun _ _ _ h => h) (Or.inl ⟨by kernel_rfl, ?_⟩) (by assumption) ?_; rotate_left; focus (intro w hSw; (try dsimp only at hSw); go_simp; try with_reducible rfl); (try simp only [List.getElem_toArray, List.getElem_cons_succ, List.getElem_cons_zero, Act.put, List.setIfInBounds_toArray, List.set_cons_zero, List.set_cons_succ])); (refine wpAnyH_take (i := 18) (v := ?_) rfl (by kernel_rfl) (by kernel_rfl) (by kernel_rfl) (fun _ _ _ h => h) (Or.inl ⟨by kernel_rfl, ?_⟩) (by assumption) ?_; rotate_left; focus (intro w hSw; (try dsimp only at hSw); go_simp; try with_reducible rfl); (try simp only [List.getElem_toArray, List.getElem_cons_succ, List.getElem_cons_zero, Act.put, List.setIfInBounds_toArray, List.set_cons_zero, List.set_cons_succ])); (refine wpAnyH_take (i := 19) (v := ?_) rfl (by kernel_rfl) (by kernel_rfl) (by kernel_rfl) (fun _ _ _ h => h) (Or.inl ⟨by kernel_rfl, ?_⟩) (by assumption) ?_; rotate_left; focus (intro w hSw; (try dsimp only at hSw); go_simp; try with_reducible rfl); (try simp only [List.getElem_toArray, List.getElem_cons_succ, List.getElem_cons_zero, Act.put, List.setIfInBounds_toArray, List.set_cons_zero, List.set_cons_succ])); (refine wpAnyH_take (i := 20) (v := ?_) rfl (by kernel_rfl) (by kernel_rfl) (by kernel_rfl) (fun _ _ _ h => h) (Or.inl ⟨by kernel_rfl, ?_⟩) (by assumption) ?_; rotate_left; focus (intro w hSw; (try dsimp only at hSw); go_simp; try with_reducible rfl); (try simp only [List.getElem_toArray, List.getElem_cons_succ, List.getElem_cons_zero, Act.put, List.setIfInBounds_toArray, List.set_cons_zero, List.set_cons_succ])); (refine wpAnyH_take (i := 21) (v := ?_) rfl (by kernel_rfl) (by kernel_rfl) (by kernel_rfl) (fun _ _ _ h => h) (Or.inl ⟨by kernel_rfl, ?_⟩) (by assumption) ?_; rotate_left; focus (intro w hSw; (try dsimp only at hSw); go_simp; try with_reducible rfl); (try simp only [List.getElem_toArray, List.getElem_cons_succ, List.getElem_cons_zero, Act.put, List.setIfInBounds_toArray, List.set_cons_zero, List.set_cons_succ])); (refine wpAnyH_take (i := 22) (v := ?_) rfl (by kernel_rfl) (by kernel_rfl) (by kernel_rfl) (fun _ _ _ h => h) (Or.inl ⟨by kernel_rfl, ?_⟩) (by assumption) ?_; rotate_left; focus (intro w hSw; (try dsimp only at hSw); go_simp; try with_reducible rfl); (try simp only [List.getElem_toArray, List.getElem_cons_succ, List.getElem_cons_zero, Act.put, List.setIfInBounds_toArray, List.set_cons_zero, List.set_cons_succ])); (refine wpAnyH_take (i := 23) (v := ?_) rfl (by kernel_rfl) (by kernel_rfl) (by kernel_rfl) (fun _ _ _ h => h) (Or.inl ⟨by kernel_rfl, ?_⟩) (by assumption) ?_; rotate_left; focus (intro w hSw; (try dsimp only at hSw); go_simp; try with_reducible rfl); (try simp only [List.getElem_toArray, List.getElem_cons_succ, List.getElem_cons_zero, Act.put, List.setIfInBounds_toArray, List.set_cons_zero, List.set_cons_succ])); (refine wpAnyH_take (i := 24) (v := ?_) rfl (by kernel_rfl) (by kernel_rfl) (by kernel_rfl) (fun _ _ _ h => h) (Or.inl ⟨by kernel_rfl, ?_⟩) (by assumption) ?_; rotate_left; focus (intro w hSw; (try dsimp only at hSw); go_simp; try with_reducible rfl); (try simp only [List.getElem_toArray, List.getElem_cons_succ, List.getElem_cons_zero, Act.put, List.setIfInBounds_toArray, List.set_cons_zero, List.set_cons_succ])); (refine wpAnyH_take (i := 25) (v := ?_) rfl (by kernel_rfl) (by kernel_rfl) (by kernel_rfl) (fun _ _ _ h => h) (Or.inl ⟨by kernel_rfl, ?_⟩) (by assumption) ?_; rotate_left; focus (intro w hSw; (try dsimp only at hSw); go_simp; try with_reducible rfl); (try simp only [List.getElem_toArray, List.getElem_cons_succ, List.getElem_cons_zero, Act.put, List.setIfInBounds_toArray, List.set_cons_zero, List.set_cons_succ]))
              clear hHeld
              have hlast := last_end (ov' := false) HW.out hgB hg HNR.out
              have HL := Lib.hid hlast; clear hlast
              have p3 : W.drew.frozen? ⟨g, 3, none⟩ = false := HW.out.2.1.free 3
              have z3 : W.drew.cell? ⟨g, 3, none⟩ = some (.bool false) := HW.out.2.1.cells.2.2.2
              refine wpAnyH_ready (rs := [26]) (by kernel_rfl) (by simp) ?_; refine AllReadyH.cons rfl (fun K hK => ?_) AllReadyH.nil
              go_simp
              clear p3 z3
              refine hK.out _ _ (HSV.out false) (fun hHeld => ?_)
              clear hK K hHeld HW
              (try simp only [List.getElem_toArray, List.getElem_cons_succ, List.getElem_cons_zero, Act.put, List.setIfInBounds_toArray, List.set_cons_zero, List.set_cons_succ])
              refine wpAnyH_done (by kernel_rfl) ?_ _
              generalize (W.setCell ⟨g, 3, none⟩ (.bool false)).drew = W2 at *
              generalize hs2 : (if st - p = 0 then (10 : Int) else st - p) = st2 at *
              have HS2 := Lib.hid hs2; clear hs2
              have hfb := below_four HL.out.2.2.2 (show w.heap.size ≤ w.heap.size + 1 from Nat.le_succ _) (.int .i64 (d : Int)) (.slice (some ⟨b', o', none⟩) 2 c') (.int .i64 st2) (.bool false)
              have hrf := reads_other HL.out.2.1 (fun b off e => (HNR.out b off e).1) (heap_four W2 (w.heap.size + 1) (.int .i64 (d : Int)) (.slice (some ⟨b', o', none⟩) 2 c') (.int .i64 st2) (.bool false)) (by simp)
              have hfin := HL.out.2.2.1.stored (d : Int) (.slice (some ⟨b', o', none⟩) 2 c') st2 false
              have Z := Lib.hid hfin.cells; clear hfin
              have HFB := Lib.hid (And.intro hfb hrf); clear hfb hrf
              obtain ⟨g0, g1, g2, g3⟩ := HL.out.1.cells
              obtain ⟨r0, r1, r2, r3⟩ := HL.out.2.2.1.cells
              have q0 := HL.out.2.2.1.free 0
              have q1 := HL.out.2.2.1.free 1
              have q2 := HL.out.2.2.1.free 2
              have q3 := HL.out.2.2.1.free 3
              go_wp2_with fail
              obtain ⟨z0, z1, z2, z3⟩ := Z.out
              clear g0 g1 g2 g3 r0 r1 r2 r3 q0 q1 q2 q3
              refine bodyPost_ret (v := .agg #[.int .i64 (d : Int), .slice (some ⟨b', o', none⟩) 2 c', .int .i64 st2, .bool false]) (by simp [results, Tryz.results60, go_sem, z0, z1, z2, z3]) rfl ?_
              refine ⟨fun hh => absurd hh hm, fun hh => absurd hh hm, fun _ => ⟨(some ⟨b', o', none⟩), c', by rw [HOV.out, HS2.out]; rfl, HFB.out.2, (fun b off e => (HNR.out b off e).2.2), HFB.out.1⟩⟩
          · have hov : lastOv [x] p = false := by simp [lastOv]; omega
            have HOV := Lib.hid hov; clear hov
            refine wp_region_held_drew (S := fun w' => w'.cell? ⟨g, 1, none⟩ = some (.slice (some ⟨b', o', none⟩) 2 c') ∧ w'.cell? ⟨b', o', none⟩ = some (.int .i64 x) ∧ w'.cell? ⟨b', o' + 1, none⟩ = some (.int .i64 p)) (by kernel_rfl) (HS0.out) (fun hHeld => ?_)
            (refine wpAnyH_take (i := 0) (v := ?_) rfl (by kernel_rfl) (by kernel_rfl) (by kernel_rfl) (fun _ _ _ h => h) (Or.inl ⟨by kernel_rfl, ?_⟩) (by assumption) ?_; rotate_left; focus (intro w hSw; (try dsimp only at hSw); go_simp; try with_reducible rfl); (try simp only [List.getElem_toArray, List.getElem_cons_succ, List.getElem_cons_zero, Act.put, List.setIfInBounds_toArray, List.set_cons_zero, List.set_cons_succ])); (refine wpAnyH_take (i := 1) (v := ?_) rfl (by kernel_rfl) (by kernel_rfl) (by kernel_rfl) (fun _ _ _ h => h) (Or.inl ⟨by kernel_rfl, ?_⟩) (by assumption) ?_; rotate_left; focus (intro w hSw; (try dsimp only at hSw); go_simp; try with_reducible rfl); (try simp only [List.getElem_toArray, List.getElem_cons_succ, List.getElem_cons_zero, Act.put, List.setIfInBounds_toArray, List.set_cons_zero, List.set_cons_succ])); (refine wpAnyH_take (i := 2) (v := ?_) rfl (by kernel_rfl) (by kernel_rfl) (by kernel_rfl) (fun _ _ _ h => h) (Or.inl ⟨by kernel_rfl, ?_⟩) (by assumption) ?_; rotate_left; focus (intro w hSw; (try dsimp only at hSw); go_simp; try with_reducible rfl); (try simp only [List.getElem_toArray, List.getElem_cons_succ, List.getElem_cons_zero, Act.put, List.setIfInBounds_toArray, List.set_cons_zero, List.set_cons_succ])); (refine wpAnyH_take (i := 3) (v := ?_) rfl (by kernel_rfl) (by kernel_rfl) (by kernel_rfl) (fun _ _ _ h => h) (Or.inl ⟨by kernel_rfl, ?_⟩) (by assumption) ?_; rotate_left; focus (intro w hSw; (try dsimp only at hSw); go_simp; try with_reducible rfl); (try simp only [List.getElem_toArray, List.getElem_cons_succ, List.getElem_cons_zero, Act.put, List.setIfInBounds_toArray, List.set_cons_zero, List.set_cons_succ])); (refine wpAnyH_take (i := 4) (v := ?_) rfl (by kernel_rfl) (by kernel_rfl) (by kernel_rfl) (fun _ _ _ h => h) (Or.inl ⟨by kernel_rfl, ?_⟩) (by assumption) ?_; rotate_left; focus (intro w hSw; (try dsimp only at hSw); go_simp; try with_reducible rfl); (try simp only [List.getElem_toArray, List.getElem_cons_succ, List.getElem_cons_zero, Act.put, List.setIfInBounds_toArray, List.set_cons_zero, List.set_cons_succ])); (refine wpAnyH_take (i := 5) (v := ?_) rfl (by kernel_rfl) (by kernel_rfl) (by kernel_rfl) (fun _ _ _ h => h) (Or.inl ⟨by kernel_rfl, ?_⟩) (by assumption) ?_; rotate_left; focus (intro w hSw; (try dsimp only at hSw); go_simp; try with_reducible rfl); (try simp only [List.getElem_toArray, List.getElem_cons_succ, List.getElem_cons_zero, Act.put, List.setIfInBounds_toArray, List.set_cons_zero, List.set_cons_succ])); (refine wpAnyH_take (i := 6) (v := ?_) rfl (by kernel_rfl) (by kernel_rfl) (by kernel_rfl) (fun _ _ _ h => h) (Or.inl ⟨by kernel_rfl, ?_⟩) (by assumption) ?_; rotate_left; focus (intro w hSw; (try dsimp only at hSw); go_simp; try with_reducible rfl); (try simp only [List.getElem_toArray, List.getElem_cons_succ, List.getElem_cons_zero, Act.put, List.setIfInBounds_toArray, List.set_cons_zero, List.set_cons_succ])); (refine wpAnyH_take (i := 7) (v := ?_) rfl (by kernel_rfl) (by kernel_rfl) (by kernel_rfl) (fun _ _ _ h => h) (Or.inl ⟨by kernel_rfl, ?_⟩) (by assumption) ?_; rotate_left; focus (intro w hSw; (try dsimp only at hSw); go_simp; try with_reducible rfl); (try simp only [List.getElem_toArray, List.getElem_cons_succ, List.getElem_cons_zero, Act.put, List.setIfInBounds_toArray, List.set_cons_zero, List.set_cons_succ])); (refine wpAnyH_take (i := 8) (v := ?_) rfl (by kernel_rfl) (by kernel_rfl) (by kernel_rfl) (fun _ _ _ h => h) (Or.inl ⟨by kernel_rfl, ?_⟩) (by assumption) ?_; rotate_left; focus (intro w hSw; (try dsimp only at hSw); go_simp; try with_reducible rfl); (try simp only [List.getElem_toArray, List.getElem_cons_succ, List.getElem_cons_zero, Act.put, List.setIfInBounds_toArray, List.set_cons_zero, List.set_cons_succ])); (refine wpAnyH_take (i := 9) (v := ?_) rfl (by kernel_rfl) (by kernel_rfl) (by kernel_rfl) (fun _ _ _ h => h) (Or.inl ⟨by kernel_rfl, ?_⟩) (by assumption) ?_; rotate_left; focus (intro w hSw; (try dsimp only at hSw); go_simp; try with_reducible rfl); (try simp only [List.getElem_toArray, List.getElem_cons_succ, List.getElem_cons_zero, Act.put, List.setIfInBounds_toArray, List.set_cons_zero, List.set_cons_succ])); (refine wpAnyH_take (i := 10) (v := ?_) rfl (by kernel_rfl) (by kernel_rfl) (by kernel_rfl) (fun _ _ _ h => h) (Or.inl ⟨by kernel_rfl, ?_⟩) (by assumption) ?_; rotate_left; focus (intro w hSw; (try dsimp only at hSw); go_simp; try with_reducible rfl); (try simp only [List.getElem_toArray, List.getElem_cons_succ, List.getElem_cons_zero, Act.put, List.setIfInBounds_toArray, List.set_cons_zero, List.set_cons_succ])); (refine wpAnyH_take (i := 11) (v := ?_) rfl (by kernel_rfl) (by kernel_rfl) (by kernel_rfl) (fun _ _ _ h => h) (Or.inl ⟨by kernel_rfl, ?_⟩) (by assumption) ?_; rotate_left; focus (intro w hSw; (try dsimp only at hSw); go_simp; try with_reducible rfl); (try simp only [List.getElem_toArray, List.getElem_cons_succ, List.getElem_cons_zero, Act.put, List.setIfInBounds_toArray, List.set_cons_zero, List.set_cons_succ])); (refine wpAnyH_take (i := 12) (v := ?_) rfl (by kernel_rfl) (by kernel_rfl) (by kernel_rfl) (fun _ _ _ h => h) (Or.inl ⟨by kernel_rfl, ?_⟩) (by assumption) ?_; rotate_left; focus (intro w hSw; (try dsimp only at hSw); go_simp; try with_reducible rfl); (try simp only [List.getElem_toArray, List.getElem_cons_succ, List.getElem_cons_zero, Act.put, List.setIfInBounds_toArray, List.set_cons_zero, List.set_cons_succ]))
            (refine wpAnyH_take (i := 13) (v := undef) rfl (by kernel_rfl) (by kernel_rfl) (by kernel_rfl) (fun _ _ _ h => h) (Or.inr ⟨by kernel_rfl, rfl⟩) (by assumption) ?_; (try simp only [List.getElem_toArray, List.getElem_cons_succ, List.getElem_cons_zero, Act.put, List.setIfInBounds_toArray, List.set_cons_zero, List.set_cons_succ])); (refine wpAnyH_take (i := 14) (v := undef) rfl (by kernel_rfl) (by kernel_rfl) (by kernel_rfl) (fun _ _ _ h => h) (Or.inr ⟨by kernel_rfl, rfl⟩) (by assumption) ?_; (try simp only [List.getElem_toArray, List.getElem_cons_succ, List.getElem_cons_zero, Act.put, List.setIfInBounds_toArray, List.set_cons_zero, List.set_cons_succ])); (refine wpAnyH_take (i := 15) (v := undef) rfl (by kernel_rfl) (by kernel_rfl) (by kernel_rfl) (fun _ _ _ h => h) (Or.inr ⟨by kernel_rfl, rfl⟩) (by assumption) ?_; (try simp only [List.getElem_toArray, List.getElem_cons_succ, List.getElem_cons_zero, Act.put, List.setIfInBounds_toArray, List.set_cons_zero, List.set_cons_succ])); (refine wpAnyH_take (i := 16) (v := undef) rfl (by kernel_rfl) (by kernel_rfl) (by kernel_rfl) (fun _ _ _ h => h) (Or.inr ⟨by kernel_rfl, rfl⟩) (by assumption) ?_; (try simp only [List.getElem_toArray, List.getElem_cons_succ, List.getElem_cons_zero, Act.put, List.setIfInBounds_toArray, List.set_cons_zero, List.set_cons_succ])); (refine wpAnyH_take (i := 17) (v := undef) rfl (by kernel_rfl) (by kernel_rfl) (by kernel_rfl) (fun _ _ _ h => h) (Or.inr ⟨by kernel_rfl, rfl⟩) (by assumption) ?_; (try simp only [List.getElem_toArray, List.getElem_cons_succ, List.getElem_cons_zero, Act.put, List.setIfInBounds_toArray, List.set_cons_zero, List.set_cons_succ])); (refine wpAnyH_take (i := 18) (v := undef) rfl (by kernel_rfl) (by kernel_rfl) (by kernel_rfl) (fun _ _ _ h => h) (Or.inr ⟨by kernel_rfl, rfl⟩) (by assumption) ?_; (try simp only [List.getElem_toArray, List.getElem_cons_succ, List.getElem_cons_zero, Act.put, List.setIfInBounds_toArray, List.set_cons_zero, List.set_cons_succ])); (refine wpAnyH_take (i := 19) (v := undef) rfl (by kernel_rfl) (by kernel_rfl) (by kernel_rfl) (fun _ _ _ h => h) (Or.inr ⟨by kernel_rfl, rfl⟩) (by assumption) ?_; (try simp only [List.getElem_toArray, List.getElem_cons_succ, List.getElem_cons_zero, Act.put, List.setIfInBounds_toArray, List.set_cons_zero, List.set_cons_succ])); (refine wpAnyH_take (i := 20) (v := undef) rfl (by kernel_rfl) (by kernel_rfl) (by kernel_rfl) (fun _ _ _ h => h) (Or.inr ⟨by kernel_rfl, rfl⟩) (by assumption) ?_; (try simp only [List.getElem_toArray, List.getElem_cons_succ, List.getElem_cons_zero, Act.put, List.setIfInBounds_toArray, List.set_cons_zero, List.set_cons_succ])); (refine wpAnyH_take (i := 21) (v := undef) rfl (by kernel_rfl) (by kernel_rfl) (by kernel_rfl) (fun _ _ _ h => h) (Or.inr ⟨by kernel_rfl, rfl⟩) (by assumption) ?_; (try simp only [List.getElem_toArray, List.getElem_cons_succ, List.getElem_cons_zero, Act.put, List.setIfInBounds_toArray, List.set_cons_zero, List.set_cons_succ])); (refine wpAnyH_take (i := 22) (v := undef) rfl (by kernel_rfl) (by kernel_rfl) (by kernel_rfl) (fun _ _ _ h => h) (Or.inr ⟨by kernel_rfl, rfl⟩) (by assumption) ?_; (try simp only [List.getElem_toArray, List.getElem_cons_succ, List.getElem_cons_zero, Act.put, List.setIfInBounds_toArray, List.set_cons_zero, List.set_cons_succ]))
            (refine wpAnyH_take (i := 23) (v := ?_) rfl (by kernel_rfl) (by kernel_rfl) (by kernel_rfl) (fun _ _ _ h => h) (Or.inl ⟨by kernel_rfl, ?_⟩) (by assumption) ?_; rotate_left; focus (intro w hSw; (try dsimp only at hSw); go_simp; try with_reducible rfl); (try simp only [List.getElem_toArray, List.getElem_cons_succ, List.getElem_cons_zero, Act.put, List.setIfInBounds_toArray, List.set_cons_zero, List.set_cons_succ])); (refine wpAnyH_take (i := 24) (v := ?_) rfl (by kernel_rfl) (by kernel_rfl) (by kernel_rfl) (fun _ _ _ h => h) (Or.inl ⟨by kernel_rfl, ?_⟩) (by assumption) ?_; rotate_left; focus (intro w hSw; (try dsimp only at hSw); go_simp; try with_reducible rfl); (try simp only [List.getElem_toArray, List.getElem_cons_succ, List.getElem_cons_zero, Act.put, List.setIfInBounds_toArray, List.set_cons_zero, List.set_cons_succ])); (refine wpAnyH_take (i := 25) (v := ?_) rfl (by kernel_rfl) (by kernel_rfl) (by kernel_rfl) (fun _ _ _ h => h) (Or.inl ⟨by kernel_rfl, ?_⟩) (by assumption) ?_; rotate_left; focus (intro w hSw; (try dsimp only at hSw); go_simp; try with_reducible rfl); (try simp only [List.getElem_toArray, List.getElem_cons_succ, List.getElem_cons_zero, Act.put, List.setIfInBounds_toArray, List.set_cons_zero, List.set_cons_succ]))
            clear hHeld
            have hlast := last_end (ov' := false) HW.out hgB hg HNR.out
            have HL := Lib.hid hlast; clear hlast
            have p3 : W.drew.frozen? ⟨g, 3, none⟩ = false := HW.out.2.1.free 3
            have z3 : W.drew.cell? ⟨g, 3, none⟩ = some (.bool false) := HW.out.2.1.cells.2.2.2
            refine wpAnyH_ready (rs := [26]) (by kernel_rfl) (by simp) ?_; refine AllReadyH.cons rfl (fun K hK => ?_) AllReadyH.nil
            go_simp
            clear p3 z3
            refine hK.out _ _ (HSV.out false) (fun hHeld => ?_)
            clear hK K hHeld HW
            (try simp only [List.getElem_toArray, List.getElem_cons_succ, List.getElem_cons_zero, Act.put, List.setIfInBounds_toArray, List.set_cons_zero, List.set_cons_succ])
            refine wpAnyH_done (by kernel_rfl) ?_ _
            generalize (W.setCell ⟨g, 3, none⟩ (.bool false)).drew = W2 at *
            generalize hs2 : (if st - p = 0 then (10 : Int) else st - p) = st2 at *
            have HS2 := Lib.hid hs2; clear hs2
            have hfb := below_four HL.out.2.2.2 (show w.heap.size ≤ w.heap.size + 1 from Nat.le_succ _) (.int .i64 (d : Int)) (.slice (some ⟨b', o', none⟩) 2 c') (.int .i64 st2) (.bool false)
            have hrf := reads_other HL.out.2.1 (fun b off e => (HNR.out b off e).1) (heap_four W2 (w.heap.size + 1) (.int .i64 (d : Int)) (.slice (some ⟨b', o', none⟩) 2 c') (.int .i64 st2) (.bool false)) (by simp)
            have hfin := HL.out.2.2.1.stored (d : Int) (.slice (some ⟨b', o', none⟩) 2 c') st2 false
            have Z := Lib.hid hfin.cells; clear hfin
            have HFB := Lib.hid (And.intro hfb hrf); clear hfb hrf
            obtain ⟨g0, g1, g2, g3⟩ := HL.out.1.cells
            obtain ⟨r0, r1, r2, r3⟩ := HL.out.2.2.1.cells
            have q0 := HL.out.2.2.1.free 0
            have q1 := HL.out.2.2.1.free 1
            have q2 := HL.out.2.2.1.free 2
            have q3 := HL.out.2.2.1.free 3
            go_wp2_with fail
            obtain ⟨z0, z1, z2, z3⟩ := Z.out
            clear g0 g1 g2 g3 r0 r1 r2 r3 q0 q1 q2 q3
            refine bodyPost_ret (v := .agg #[.int .i64 (d : Int), .slice (some ⟨b', o', none⟩) 2 c', .int .i64 st2, .bool false]) (by simp [results, Tryz.results60, go_sem, z0, z1, z2, z3]) rfl ?_
            refine ⟨fun hh => absurd hh hm, fun hh => absurd hh hm, fun _ => ⟨(some ⟨b', o', none⟩), c', by rw [HOV.out, HS2.out]; rfl, HFB.out.2, (fun b off e => (HNR.out b off e).2.2), HFB.out.1⟩⟩
        · have hov : lastOv [x, y] p = true := by simp [lastOv]
          have HOV := Lib.hid hov; clear hov
          refine wp_region_held_drew (S := fun w' => True) (by kernel_rfl) (by trivial) (fun hHeld => ?_)
          (refine wpAnyH_take (i := 0) (v := ?_) rfl (by kernel_rfl) (by kernel_rfl) (by kernel_rfl) (fun _ _ _ h => h) (Or.inl ⟨by kernel_rfl, ?_⟩) (by assumption) ?_; rotate_left; focus (intro w hSw; (try dsimp only at hSw); go_simp; try with_reducible rfl); (try simp only [List.getElem_toArray, List.getElem_cons_succ, List.getElem_cons_zero, Act.put, List.setIfInBounds_toArray, List.set_cons_zero, List.set_cons_succ])); (refine wpAnyH_take (i := 1) (v := ?_) rfl (by kernel_rfl) (by kernel_rfl) (by kernel_rfl) (fun _ _ _ h => h) (Or.inl ⟨by kernel_rfl, ?_⟩) (by assumption) ?_; rotate_left; focus (intro w hSw; (try dsimp only at hSw); go_simp; try with_reducible rfl); (try simp only [List.getElem_toArray, List.getElem_cons_succ, List.getElem_cons_zero, Act.put, List.setIfInBounds_toArray, List.set_cons_zero, List.set_cons_succ])); (refine wpAnyH_take (i := 2) (v := ?_) rfl (by kernel_rfl) (by kernel_rfl) (by kernel_rfl) (fun _ _ _ h => h) (Or.inl ⟨by kernel_rfl, ?_⟩) (by assumption) ?_; rotate_left; focus (intro w hSw; (try dsimp only at hSw); go_simp; try with_reducible rfl); (try simp only [List.getElem_toArray, List.getElem_cons_succ, List.getElem_cons_zero, Act.put, List.setIfInBounds_toArray, List.set_cons_zero, List.set_cons_succ]))
          (refine wpAnyH_take (i := 3) (v := undef) rfl (by kernel_rfl) (by kernel_rfl) (by kernel_rfl) (fun _ _ _ h => h) (Or.inr ⟨by kernel_rfl, rfl⟩) (by assumption) ?_; (try simp only [List.getElem_toArray, List.getElem_cons_succ, List.getElem_cons_zero, Act.put, List.setIfInBounds_toArray, List.set_cons_zero, List.set_cons_succ])); (refine wpAnyH_take (i := 4) (v := undef) rfl (by kernel_rfl) (by kernel_rfl) (by kernel_rfl) (fun _ _ _ h => h) (Or.inr ⟨by kernel_rfl, rfl⟩) (by assumption) ?_; (try simp only [List.getElem_toArray, List.getElem_cons_succ, List.getElem_cons_zero, Act.put, List.setIfInBounds_toArray, List.set_cons_zero, List.set_cons_succ])); (refine wpAnyH_take (i := 5) (v := undef) rfl (by kernel_rfl) (by kernel_rfl) (by kernel_rfl) (fun _ _ _ h => h) (Or.inr ⟨by kernel_rfl, rfl⟩) (by assumption) ?_; (try simp only [List.getElem_toArray, List.getElem_cons_succ, List.getElem_cons_zero, Act.put, List.setIfInBounds_toArray, List.set_cons_zero, List.set_cons_succ])); (refine wpAnyH_take (i := 6) (v := undef) rfl (by kernel_rfl) (by kernel_rfl) (by kernel_rfl) (fun _ _ _ h => h) (Or.inr ⟨by kernel_rfl, rfl⟩) (by assumption) ?_; (try simp only [List.getElem_toArray, List.getElem_cons_succ, List.getElem_cons_zero, Act.put, List.setIfInBounds_toArray, List.set_cons_zero, List.set_cons_succ])); (refine wpAnyH_take (i := 7) (v := undef) rfl (by kernel_rfl) (by kernel_rfl) (by kernel_rfl) (fun _ _ _ h => h) (Or.inr ⟨by kernel_rfl, rfl⟩) (by assumption) ?_; (try simp only [List.getElem_toArray, List.getElem_cons_succ, List.getElem_cons_zero, Act.put, List.setIfInBounds_toArray, List.set_cons_zero, List.set_cons_succ])); (refine wpAnyH_take (i := 8) (v := undef) rfl (by kernel_rfl) (by kernel_rfl) (by kernel_rfl) (fun _ _ _ h => h) (Or.inr ⟨by kernel_rfl, rfl⟩) (by assumption) ?_; (try simp only [List.getElem_toArray, List.getElem_cons_succ, List.getElem_cons_zero, Act.put, List.setIfInBounds_toArray, List.set_cons_zero, List.set_cons_succ])); (refine wpAnyH_take (i := 9) (v := undef) rfl (by kernel_rfl) (by kernel_rfl) (by kernel_rfl) (fun _ _ _ h => h) (Or.inr ⟨by kernel_rfl, rfl⟩) (by assumption) ?_; (try simp only [List.getElem_toArray, List.getElem_cons_succ, List.getElem_cons_zero, Act.put, List.setIfInBounds_toArray, List.set_cons_zero, List.set_cons_succ])); (refine wpAnyH_take (i := 10) (v := undef) rfl (by kernel_rfl) (by kernel_rfl) (by kernel_rfl) (fun _ _ _ h => h) (Or.inr ⟨by kernel_rfl, rfl⟩) (by assumption) ?_; (try simp only [List.getElem_toArray, List.getElem_cons_succ, List.getElem_cons_zero, Act.put, List.setIfInBounds_toArray, List.set_cons_zero, List.set_cons_succ])); (refine wpAnyH_take (i := 11) (v := undef) rfl (by kernel_rfl) (by kernel_rfl) (by kernel_rfl) (fun _ _ _ h => h) (Or.inr ⟨by kernel_rfl, rfl⟩) (by assumption) ?_; (try simp only [List.getElem_toArray, List.getElem_cons_succ, List.getElem_cons_zero, Act.put, List.setIfInBounds_toArray, List.set_cons_zero, List.set_cons_succ])); (refine wpAnyH_take (i := 12) (v := undef) rfl (by kernel_rfl) (by kernel_rfl) (by kernel_rfl) (fun _ _ _ h => h) (Or.inr ⟨by kernel_rfl, rfl⟩) (by assumption) ?_; (try simp only [List.getElem_toArray, List.getElem_cons_succ, List.getElem_cons_zero, Act.put, List.setIfInBounds_toArray, List.set_cons_zero, List.set_cons_succ])); (refine wpAnyH_take (i := 13) (v := undef) rfl (by kernel_rfl) (by kernel_rfl) (by kernel_rfl) (fun _ _ _ h => h) (Or.inr ⟨by kernel_rfl, rfl⟩) (by assumption) ?_; (try simp only [List.getElem_toArray, List.getElem_cons_succ, List.getElem_cons_zero, Act.put, List.setIfInBounds_toArray, List.set_cons_zero, List.set_cons_succ])); (refine wpAnyH_take (i := 14) (v := undef) rfl (by kernel_rfl) (by kernel_rfl) (by kernel_rfl) (fun _ _ _ h => h) (Or.inr ⟨by kernel_rfl, rfl⟩) (by assumption) ?_; (try simp only [List.getElem_toArray, List.getElem_cons_succ, List.getElem_cons_zero, Act.put, List.setIfInBounds_toArray, List.set_cons_zero, List.set_cons_succ])); (refine wpAnyH_take (i := 15) (v := undef) rfl (by kernel_rfl) (by kernel_rfl) (by kernel_rfl) (fun _ _ _ h => h) (Or.inr ⟨by kernel_rfl, rfl⟩) (by assumption) ?_; (try simp only [List.getElem_toArray, List.getElem_cons_succ, List.getElem_cons_zero, Act.put, List.setIfInBounds_toArray, List.set_cons_zero, List.set_cons_succ])); (refine wpAnyH_take (i := 16) (v := undef) rfl (by kernel_rfl) (by kernel_rfl) (by kernel_rfl) (fun _ _ _ h => h) (Or.inr ⟨by kernel_rfl, rfl⟩) (by assumption) ?_; (try simp only [List.getElem_toArray, List.getElem_cons_succ, List.getElem_cons_zero, Act.put, List.setIfInBounds_toArray, List.set_cons_zero, List.set_cons_succ])); (refine wpAnyH_take (i := 17) (v := undef) rfl (by kernel_rfl) (by kernel_rfl) (by kernel_rfl) (fun _ _ _ h => h) (Or.inr ⟨by kernel_rfl, rfl⟩) (by assumption) ?_; (try simp only [List.getElem_toArray, List.getElem_cons_succ, List.getElem_cons_zero, Act.put, List.setIfInBounds_toArray, List.set_cons_zero, List.set_cons_succ])); (refine wpAnyH_take (i := 18) (v := undef) rfl (by kernel_rfl) (by kernel_rfl) (by kernel_rfl) (fun _ _ _ h => h) (Or.inr ⟨by kernel_rfl, rfl⟩) (by assumption) ?_; (try simp only [List.getElem_toArray, List.getElem_cons_succ, List.getElem_cons_zero, Act.put, List.setIfInBounds_toArray, List.set_cons_zero, List.set_cons_succ])); (refine wpAnyH_take (i := 19) (v := undef) rfl (by kernel_rfl) (by kernel_rfl) (by kernel_rfl) (fun _ _ _ h => h) (Or.inr ⟨by kernel_rfl, rfl⟩) (by assumption) ?_; (try simp only [List.getElem_toArray, List.getElem_cons_succ, List.getElem_cons_zero, Act.put, List.setIfInBounds_toArray, List.set_cons_zero, List.set_cons_succ])); (refine wpAnyH_take (i := 20) (v := undef) rfl (by kernel_rfl) (by kernel_rfl) (by kernel_rfl) (fun _ _ _ h => h) (Or.inr ⟨by kernel_rfl, rfl⟩) (by assumption) ?_; (try simp only [List.getElem_toArray, List.getElem_cons_succ, List.getElem_cons_zero, Act.put, List.setIfInBounds_toArray, List.set_cons_zero, List.set_cons_succ])); (refine wpAnyH_take (i := 21) (v := undef) rfl (by kernel_rfl) (by kernel_rfl) (by kernel_rfl) (fun _ _ _ h => h) (Or.inr ⟨by kernel_rfl, rfl⟩) (by assumption) ?_; (try simp only [List.getElem_toArray, List.getElem_cons_succ, List.getElem_cons_zero, Act.put, List.setIfInBounds_toArray, List.set_cons_zero, List.set_cons_succ])); (refine wpAnyH_take (i := 22) (v := undef) rfl (by kernel_rfl) (by kernel_rfl) (by kernel_rfl) (fun _ _ _ h => h) (Or.inr ⟨by kernel_rfl, rfl⟩) (by assumption) ?_; (try simp only [List.getElem_toArray, List.getElem_cons_succ, List.getElem_cons_zero, Act.put, List.setIfInBounds_toArray, List.set_cons_zero, List.set_cons_succ])); (refine wpAnyH_take (i := 23) (v := undef) rfl (by kernel_rfl) (by kernel_rfl) (by kernel_rfl) (fun _ _ _ h => h) (Or.inr ⟨by kernel_rfl, rfl⟩) (by assumption) ?_; (try simp only [List.getElem_toArray, List.getElem_cons_succ, List.getElem_cons_zero, Act.put, List.setIfInBounds_toArray, List.set_cons_zero, List.set_cons_succ]))
          (refine wpAnyH_take (i := 24) (v := ?_) rfl (by kernel_rfl) (by kernel_rfl) (by kernel_rfl) (fun _ _ _ h => h) (Or.inl ⟨by kernel_rfl, ?_⟩) (by assumption) ?_; rotate_left; focus (intro w hSw; (try dsimp only at hSw); go_simp; try with_reducible rfl); (try simp only [List.getElem_toArray, List.getElem_cons_succ, List.getElem_cons_zero, Act.put, List.setIfInBounds_toArray, List.set_cons_zero, List.set_cons_succ])); (refine wpAnyH_take (i := 25) (v := ?_) rfl (by kernel_rfl) (by kernel_rfl) (by kernel_rfl) (fun _ _ _ h => h) (Or.inl ⟨by kernel_rfl, ?_⟩) (by assumption) ?_; rotate_left; focus (intro w hSw; (try dsimp only at hSw); go_simp; try with_reducible rfl); (try simp only [List.getElem_toArray, List.getElem_cons_succ, List.getElem_cons_zero, Act.put, List.setIfInBounds_toArray, List.set_cons_zero, List.set_cons_succ]))
          clear hHeld
          have hlast := last_end (ov' := true) HW.out hgB hg HNR.out
          have HL := Lib.hid hlast; clear hlast
          have p3 : W.drew.frozen? ⟨g, 3, none⟩ = false := HW.out.2.1.free 3
          have z3 : W.drew.cell? ⟨g, 3, none⟩ = some (.bool false) := HW.out.2.1.cells.2.2.2
          refine wpAnyH_ready (rs := [26]) (by kernel_rfl) (by simp) ?_; refine AllReadyH.cons rfl (fun K hK => ?_) AllReadyH.nil
          go_simp
          clear p3 z3
          refine hK.out _ _ (trivial) (fun hHeld => ?_)
          clear hK K hHeld HW
          (try simp only [List.getElem_toArray, List.getElem_cons_succ, List.getElem_cons_zero, Act.put, List.setIfInBounds_toArray, List.set_cons_zero, List.set_cons_succ])
          refine wpAnyH_done (by kernel_rfl) ?_ _
          generalize (W.setCell ⟨g, 3, none⟩ (.bool true)).drew = W2 at *
          generalize hs2 : (if st - p = 0 then (10 : Int) else st - p) = st2 at *
          have HS2 := Lib.hid hs2; clear hs2
          have hfb := below_four HL.out.2.2.2 (show w.heap.size ≤ w.heap.size + 1 from Nat.le_succ _) (.int .i64 (d : Int)) (.slice a' 3 c') (.int .i64 st2) (.bool true)
          have hrf := reads_other HL.out.2.1 (fun b off e => (HNR.out b off e).1) (heap_four W2 (w.heap.size + 1) (.int .i64 (d : Int)) (.slice a' 3 c') (.int .i64 st2) (.bool true)) (by simp)
          have hfin := HL.out.2.2.1.stored (d : Int) (.slice a' 3 c') st2 true
          have Z := Lib.hid hfin.cells; clear hfin
          have HFB := Lib.hid (And.intro hfb hrf); clear hfb hrf
          obtain ⟨g0, g1, g2, g3⟩ := HL.out.1.cells
          obtain ⟨r0, r1, r2, r3⟩ := HL.out.2.2.1.cells
          have q0 := HL.out.2.2.1.free 0
          have q1 := HL.out.2.2.1.free 1
          have q2 := HL.out.2.2.1.free 2
          have q3 := HL.out.2.2.1.free 3
          go_wp2_with fail
          obtain ⟨z0, z1, z2, z3⟩ := Z.out
          clear g0 g1 g2 g3 r0 r1 r2 r3 q0 q1 q2 q3
          refine bodyPost_ret (v := .agg #[.int .i64 (d : Int), .slice a' 3 c', .int .i64 st2, .bool true]) (by simp [results, Tryz.results60, go_sem, z0, z1, z2, z3]) rfl ?_
          refine ⟨fun hh => absurd hh hm, fun hh => absurd hh hm, fun _ => ⟨a', c', by rw [HOV.out, HS2.out]; rfl, HFB.out.2, (fun b off e => (HNR.out b off e).2.2), HFB.out.1⟩⟩
end Go.Proofs.YtgkkjlpfkoplhaaGreatDoor.Pn
