/-
  Puzzles: the puzzle with a clue more: the program.
-/
import Derived.Test.YtbgdngfjeikheaaDoorPzDrop
import Derived.ArgAppend
namespace Go.Proofs.YtbgdngfjeikheaaDoor
open Go.RowKit
set_option linter.unusedVariables false
set_option linter.unusedSimpArgs false

/-- A puzzle and a clue in their blocks, and behind them the block of the result, still empty. -/
def Thr (w : World) (p : Int) (v : Value) (x y z : Int) (wi : World) : Prop :=
  ObAt wi w.heap.size 24 #[.int .i64 p, v] ∧ ObAt wi (w.heap.size + 1) 75 #[.int .i64 x, .int .i64 y, .int .i64 z] ∧ ObAt wi (w.heap.size + 1 + 1) 24 #[.int .i64 0, .slice none 0 0] ∧ Below w.heap.size w wi
theorem Thr.new (w : World) (p : Int) (v : Value) (x y z : Int) : Thr w p v x y z (((w.alloc (.cells #[.int .i64 p, v] 24)).alloc (.cells #[.int .i64 x, .int .i64 y, .int .i64 z] 75)).alloc (.cells #[.int .i64 0, .slice none 0 0] 24)) := by
  have h := ObAt.new (w.alloc (.cells #[.int .i64 p, v] 24)) 75 #[.int .i64 x, .int .i64 y, .int .i64 z]
  have h2 := ObAt.new ((w.alloc (.cells #[.int .i64 p, v] 24)).alloc (.cells #[.int .i64 x, .int .i64 y, .int .i64 z] 75)) 24 #[.int .i64 0, .slice none 0 0]
  rw [World.size_alloc] at h
  rw [World.size_alloc, World.size_alloc] at h2
  have b1 := Below.ofNew (w := w) (.cells #[.int .i64 p, v] 24)
  have b2 := b1.alloc b1.size (.cells #[.int .i64 x, .int .i64 y, .int .i64 z] 75)
  exact ⟨((ObAt.new _ _ _).old _).old _, h.old _, h2, b2.alloc b2.size _⟩
theorem Thr.keep {w : World} {p : Int} {v : Value} {x y z : Int} {wi wj : World} (h : Thr w p v x y z wi) (hb : Below wi.heap.size wi wj) : Thr w p v x y z wj := ⟨h.1.keep hb, h.2.1.keep hb, h.2.2.1.keep hb, h.2.2.2.trans (hb.mono h.2.2.2.size)⟩
theorem Thr.cells {w : World} {p : Int} {v : Value} {x y z : Int} {wi : World} (h : Thr w p v x y z wi) :
    wi.cell? ⟨w.heap.size, 0, none⟩ = some (.int .i64 p) ∧ wi.cell? ⟨w.heap.size, 1, none⟩ = some v ∧ wi.cell? ⟨w.heap.size + 1, 0, none⟩ = some (.int .i64 x) ∧ wi.cell? ⟨w.heap.size + 1, 1, none⟩ = some (.int .i64 y) ∧ wi.cell? ⟨w.heap.size + 1, 2, none⟩ = some (.int .i64 z) := ⟨h.1.cell 0, h.1.cell 1, h.2.1.cell 0, h.2.1.cell 1, h.2.1.cell 2⟩
theorem Thr.res {w : World} {p : Int} {v : Value} {x y z : Int} {wi : World} (h : Thr w p v x y z wi) :
    wi.cell? ⟨w.heap.size + 1 + 1, 0, none⟩ = some (.int .i64 0) ∧ wi.cell? ⟨w.heap.size + 1 + 1, 1, none⟩ = some (.slice none 0 0) ∧ wi.frozen? ⟨w.heap.size + 1 + 1, 0, none⟩ = false ∧ wi.frozen? ⟨w.heap.size + 1 + 1, 1, none⟩ = false := ⟨h.2.2.1.cell 0, h.2.2.1.cell 1, h.2.2.1.free 0, h.2.2.1.free 1⟩
theorem Thr.put {w : World} {p : Int} {v : Value} {x y z : Int} {wi : World} (h : Thr w p v x y z wi) (u0 u1 : Value) : Below w.heap.size w ((wi.setCell ⟨w.heap.size + 1 + 1, 0, none⟩ u0).setCell ⟨w.heap.size + 1 + 1, 1, none⟩ u1) :=
  (h.2.2.2.setCell (p := ⟨w.heap.size + 1 + 1, 0, none⟩) (by simp only; omega) u0).setCell (p := ⟨w.heap.size + 1 + 1, 1, none⟩) (by simp only; omega) u1
theorem Thr.putOwn {w : World} {p : Int} {v : Value} {x y z : Int} {wi : World} (h : Thr w p v x y z wi) {r : Value} {n : Nat} {xs : List Value} (ho : wi.ownsRow w.heap.size 75 3 r n xs) (u0 u1 : Value) :
    ((wi.setCell ⟨w.heap.size + 1 + 1, 0, none⟩ u0).setCell ⟨w.heap.size + 1 + 1, 1, none⟩ u1).ownsRow w.heap.size 75 3 r n xs ∧ Below w.heap.size w ((wi.setCell ⟨w.heap.size + 1 + 1, 0, none⟩ u0).setCell ⟨w.heap.size + 1 + 1, 1, none⟩ u1) ∧ ObAt ((wi.setCell ⟨w.heap.size + 1 + 1, 0, none⟩ u0).setCell ⟨w.heap.size + 1 + 1, 1, none⟩ u1) (w.heap.size + 1 + 1) 24 #[u0, u1] ∧ ObAt ((wi.setCell ⟨w.heap.size + 1 + 1, 0, none⟩ u0).setCell ⟨w.heap.size + 1 + 1, 1, none⟩ u1) w.heap.size 24 #[.int .i64 p, v] ∧ ObAt ((wi.setCell ⟨w.heap.size + 1 + 1, 0, none⟩ u0).setCell ⟨w.heap.size + 1 + 1, 1, none⟩ u1) (w.heap.size + 1) 75 #[.int .i64 x, .int .i64 y, .int .i64 z] := by
  refine ⟨owns_heap ho (fun g e => ?_), h.put u0 u1, (h.2.2.1.put 0 u0).put 1 u1, (h.1.other (by omega) u0).other (by omega) u1, (h.2.1.other (by omega) u0).other (by omega) u1⟩
  have hne : g ≠ w.heap.size + 1 + 1 := by
    intro e2
    subst e2
    exact owns_apart (g := w.heap.size + 1 + 1) (T := 24) (fr := (0, 0)) h.2.2.1 (by decide) ho e
  rw [Below.heap_setCell _ _ _ _ hne, Below.heap_setCell _ _ _ _ hne]

theorem one_cells {w : World} {g : Nat} {T : TypeId} {x y z : Int} (h : ObAt w g T #[.int .i64 x, .int .i64 y, .int .i64 z]) : ∀ j u, ([.int .i64 x, .int .i64 y, .int .i64 z] : List Value)[j]? = some u → w.cell? ((⟨g, 0, none⟩ : Addr).add j) = some u := by
  intro j u hj
  have e : (⟨g, 0, none⟩ : Addr).add j = ⟨g, 0 + j, none⟩ := by unfold Addr.add; split <;> simp_all
  rw [e, Nat.zero_add, h.cell j]
  simpa using hj
theorem read_cells {w : World} {ad : Option Addr} {cs : List Value} (h : Reads w ad cs) : ∀ b, ad = some b → ∀ j u, cs[j]? = some u → w.cell? (b.add j) = some u := by
  intro b hb j u hj
  rcases h with h | ⟨g, off, rfl, hlt, hc⟩
  · rw [h] at hj; simp at hj
  · cases hb
    have hjl := (List.getElem?_eq_some_iff.1 hj).1
    have e : (⟨g, off, none⟩ : Addr).add j = ⟨g, off + j, none⟩ := by unfold Addr.add; split <;> simp_all
    rw [e, hc j hjl, hj]
theorem cutA_all {ad : Option Addr} {n : Nat} : cutA ad 0 n = ad := by
  unfold cutA; split
  · rfl
  · cases ad with
    | none => rfl
    | some a => simp [Addr.add]

set_option maxHeartbeats 3200000 in
set_option maxRecDepth 100000 in
theorem with_any (p : Int) (l : List Cl) (ad : Option Addr) (c : Nat) (x y z : Int) (w : World) (hl : l.length ≤ 1000) (hlc : l.length ≤ c) (hr : Reads w ad (clus l)) :
    Calls Tryd.prog 56 #[.agg #[.int .i64 p, .slice ad l.length c], .agg #[.int .i64 x, .int .i64 y, .int .i64 z]] w fun e w' => ∃ a c', e = .returned (.agg #[.int .i64 p, .slice a (l.length + 1) c']) ∧ w'.ownsRow w.heap.size 75 3 (.slice a (l.length + 1) c') (l.length + 1) (clus (l ++ [(x, y, z)])) ∧ Below w.heap.size w w' := by
  have hc1 : ∀ W, Calls Tryd.prog 108 #[.agg #[.int .i64 p, .slice ad l.length c], .int .i64 0, .int .i64 l.length] W fun e w' => e = .returned (.agg #[.int .i64 p, .slice ad l.length l.length]) ∧ Below W.heap.size W w' := fun W => by
    have := cut_any p ad l.length c 0 l.length W (by omega) (by omega) hlc
    rw [cutA_all] at this
    exact this
  have hnone : ad = none → l.length = 0 ∧ l.length = 0 := fun e => by
    subst e
    have : l = [] := by
      rcases hr with h | ⟨b, off, h, _⟩
      · exact clus_nil h
      · cases h
    simp [this]
  have HC1 := Lib.hid (And.intro hc1 (And.intro hnone hr)); clear hc1 hnone hr
  obtain ⟨i0, hi, hz0, hz1, hz2⟩ := info_parts infoClue
  have HI := Lib.hid (And.intro hi (And.intro hz0 (And.intro hz1 hz2))); clear hi hz0 hz1 hz2
  have T0 := Lib.hid (Thr.new w p (.slice ad l.length c) x y z)
  obtain ⟨p0, p1, p2, p3, p4⟩ := T0.out.cells
  have happ : clus (l ++ [(x, y, z)]) = clus l ++ [.int .i64 x, .int .i64 y, .int .i64 z] := by rw [clus_append]; rfl
  have HAP := Lib.hid happ; clear happ
  go_enter Tryd.func56, Tryd.ntmps56
  go_wp2_with fail
  refine (HC1.out.1 _).mono ?_; rintro e w1 ⟨rfl, b1⟩
  have T1 := Lib.hid (And.intro (T0.out.keep b1) (ObAt.new w1 24 #[.int .i64 p, .slice ad l.length l.length])); clear b1 p0 p1 p2 p3 p4 T0
  have bn := Below.ofNew (w := w1) (.cells #[.int .i64 p, .slice ad l.length l.length] 24)
  have T2 := Lib.hid (And.intro (T1.out.1.keep bn) T1.out.2)
  have bn2 := Below.ofNew (w := w1.alloc (.cells #[.int .i64 p, .slice ad l.length l.length] 24)) (.cells #[.int .i64 x, .int .i64 y, .int .i64 z] 75)
  have T3 := Lib.hid (And.intro (T2.out.1.keep bn2) (And.intro (T2.out.2.keep bn2) (show ObAt ((w1.alloc (.cells #[.int .i64 p, .slice ad l.length l.length] 24)).alloc (.cells #[.int .i64 x, .int .i64 y, .int .i64 z] 75)) (w1.heap.size + 1) 75 #[.int .i64 x, .int .i64 y, .int .i64 z] from by have h := ObAt.new (w1.alloc (.cells #[.int .i64 p, .slice ad l.length l.length] 24)) 75 #[.int .i64 x, .int .i64 y, .int .i64 z]; rw [World.size_alloc] at h; exact h)))
  clear bn bn2
  obtain ⟨p0, p1, p2, p3, p4⟩ := T2.out.1.cells
  obtain ⟨q0, q1, -, -⟩ := T2.out.2.two
  have HG := Lib.hid (show w.heap.size + 1 + 1 < w1.heap.size from T1.out.1.2.2.1.lt)
  go_wp2_with (at_builtin; refine wpList_append_grows _ rfl _ _ 22 rfl 75 i0 (.agg #[.int .i64 0, .int .i64 0, .int .i64 0]) 3 24 Tryd.underlying22 HI.out.1 HI.out.2.1 HI.out.2.2.1 HI.out.2.2.2 rfl (by decide) ad l.length l.length (clus l) rfl HC1.out.2.1 (by rw [clus_len]; omega) (read_cells (HC1.out.2.2.old T3.out.1.2.2.2)) ⟨w1.heap.size + 1, 0, none⟩ 1 1 [.int .i64 x, .int .i64 y, .int .i64 z] rfl rfl (one_cells T3.out.2.2) (clus_one (l := [(x, y, z)])) (by omega) (by unfold maxLen; omega) (by omega) ?_)
  intro v' w3 hown hgrow
  have b3 : Below ((w1.alloc (.cells #[.int .i64 p, .slice ad l.length l.length] 24)).alloc (.cells #[.int .i64 x, .int .i64 y, .int .i64 z] 75)).heap.size ((w1.alloc (.cells #[.int .i64 p, .slice ad l.length l.length] 24)).alloc (.cells #[.int .i64 x, .int .i64 y, .int .i64 z] 75)) w3 := (Below.refl _ _).grown hgrow (Nat.le_refl _) (fun k hk => by cases hk)
  have hsz := T3.out.1.2.2.2.size
  simp only [World.size_alloc] at hsz
  rw [← HAP.out] at hown
  have T4 := Lib.hid (And.intro (T3.out.1.keep b3) (And.intro (T3.out.2.1.keep b3) (owns_mono hown hsz)))
  have hne5 : v'.ownBlock ≠ some w1.heap.size := fun e => by
    have h1 := (owns_ge hown e).1
    omega
  clear hown hgrow b3 hsz T3 T2 p0 p1 p2 p3 p4 q0 q1
  obtain ⟨a3, c3, rfl, hc3, hrd3, -⟩ := own_cap T4.out.2.2
  have hF : Thr w p (.slice ad l.length c) x y z (w3.setCell ⟨w1.heap.size, 1, none⟩ (.slice a3 (l.length + 1) c3)) ∧ ObAt (w3.setCell ⟨w1.heap.size, 1, none⟩ (.slice a3 (l.length + 1) c3)) w1.heap.size 24 #[.int .i64 p, .slice a3 (l.length + 1) c3] ∧ (w3.setCell ⟨w1.heap.size, 1, none⟩ (.slice a3 (l.length + 1) c3)).ownsRow w.heap.size 75 3 (.slice a3 (l.length + 1) c3) (l.length + 1) (clus (l ++ [(x, y, z)])) :=
    ⟨⟨T4.out.1.1.other (by have := HG.out; omega) _, T4.out.1.2.1.other (by have := HG.out; omega) _, T4.out.1.2.2.1.other (by have := HG.out; omega) _, T4.out.1.2.2.2.setCell (p := ⟨w1.heap.size, 1, none⟩) (by have := HG.out; simp only; omega) _⟩, T4.out.2.1.put 1 _, owns_heap T4.out.2.2 (fun k e => Below.heap_setCell _ _ _ _ (fun e2 => hne5 (by rw [e, e2])))⟩
  have HF := Lib.hid hF; clear hF hne5 hrd3 hc3
  obtain ⟨q0, q1, -, f1⟩ := T4.out.2.1.two
  have HF2 := Lib.hid (HF.out.1.putOwn HF.out.2.2 (.int .i64 p) (.slice a3 (l.length + 1) c3))
  obtain ⟨r0, r1, -, -⟩ := HF.out.2.1.two
  obtain ⟨y0, y1, e0, e1⟩ := HF.out.1.res
  obtain ⟨s0, s1, -, -⟩ := HF2.out.2.2.1.two
  go_wp2_with fail
  refine bodyPost_ret (v := .agg #[.int .i64 p, .slice a3 (l.length + 1) c3]) ?_ rfl ⟨a3, c3, rfl, HF2.out.1, HF2.out.2.1⟩
  simp [results, Tryd.results56, go_sem, *]
end Go.Proofs.YtbgdngfjeikheaaDoor
