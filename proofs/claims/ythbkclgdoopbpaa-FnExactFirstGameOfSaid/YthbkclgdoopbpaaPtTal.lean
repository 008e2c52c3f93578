/-
  Pins: the program's tally of the frames that are left.
-/
import Derived.Test.YthbkclgdoopbpaaPtRow
namespace Go.Proofs.Ythbkclgdoopbpaa
open Go.RowKit Go.Maps
set_option linter.unusedVariables false
set_option linter.unusedSimpArgs false

theorem tlA_facts (m s : Nat) : (Try.prog.info? 55).map (·.size) = some (tlA m s).size ∧ Try.zeroCells55.size = (tlA m s).size ∧ (tlA m s).all (·.oneCell') = true :=
  ⟨by rw [tlA_size]; exact info301, by rw [tlA_size]; exact Try.zeroCells55_size, by unfold tlA; exact ints_flat _⟩
/-- The two blocks that are laid first. -/
def TlW (w : World) (m o1 o2 : Int) (wr : World) : Prop :=
  ObAt wr w.heap.size 62 #[.int .i64 m, .int .i64 o1, .int .i64 o2, .int .i64 1] ∧ ObAt wr (w.heap.size + 1) 55 Try.zeroCells55
theorem TlW.new (w : World) (m o1 o2 : Int) : TlW w m o1 o2 ((w.alloc (.cells #[.int .i64 m, .int .i64 o1, .int .i64 o2, .int .i64 1] 62)).alloc (.cells Try.zeroCells55 55)) := by
  refine ⟨(ObAt.new w _ _).old _, ?_⟩
  have := ObAt.new (w.alloc (.cells #[.int .i64 m, .int .i64 o1, .int .i64 o2, .int .i64 1] 62)) 55 Try.zeroCells55
  rw [World.size_alloc] at this; exact this
/-- A tally's contract. -/
def TlR (m s b n : Nat) (w : World) (e : Ending) (w' : World) : Prop := e = .returned (.agg (tlA m s)) ∧ BookAt w' b (n + newB m) ∧ w.grownBy w' (some b)

set_option maxRecDepth 100000 in
set_option maxHeartbeats 6400000 in
theorem tally_zero (s b n : Nat) (w : World) (hb : BookAt w b n) : Calls Try.prog 36 #[.map (some b), lfV 0 s] w (TlR 0 s b n w) := by
  have H0 := Lib.hid (TlW.new w 0 (oneT s) (twoT s))
  have hbel : Below w.heap.size w ((w.alloc (.cells #[.int .i64 0, .int .i64 (oneT s), .int .i64 (twoT s), .int .i64 1] 62)).alloc (.cells Try.zeroCells55 55)) := by (repeat (first | exact Below.refl _ _ | exact ‹Below _ _ _› | refine Below.drew ?_ | refine Below.alloc ?_ (by first | omega | (simp; done) | (simp; omega)) _ | refine Below.setCell ?_ (by first | omega | (simp; done) | (simp; omega)) _ | refine Below.trans ?_ (Below.mono ‹Below _ _ _› (by first | omega | (simp; done) | (simp; omega)))))
  have HBL := Lib.hid hbel; clear hbel
  have HB := Lib.hid hb; clear hb
  have HZ := Lib.hid (tlA_facts 0 0)
  have HR : Hid (∀ w', Below w.heap.size w w' → TlR 0 s b n w (.returned (.agg (tlA 0 0))) w') := Lib.hid fun w' h => ⟨by rw [tlA_zero s], by
    have := HB.out.lt
    exact (HB.out.same (h.block b this)).mono (Nat.le_add_right _ _), grown_of_below h _⟩
  unfold lfV
  rw [show ((0 : Nat) : Int) = 0 from rfl]
  generalize (oneT s : Int) = o1 at *
  generalize (twoT s : Int) = o2 at *
  have HZ1 : Hid (Try.zeroCells55.size = (Try.zeroCells55.setIfInBounds 0 (.int .i64 1)).size ∧ (Try.prog.info? 55).map (·.size) = some (Try.zeroCells55.setIfInBounds 0 (.int .i64 1)).size ∧ (Try.zeroCells55.setIfInBounds 0 (.int .i64 1)).all (·.oneCell') = true) := Lib.hid (by rw [z301_is]; exact ⟨HZ.out.2.1, HZ.out.1, HZ.out.2.2⟩)
  go_enter Try.func36, Try.ntmps36
  go_upto_region 1 with fail
  obtain ⟨c0, -, -, -, -, -, -, -⟩ := H0.out.1.four
  have HG4 := Lib.hid H0.out.2
  clear H0
  generalize ((w.alloc (.cells #[.int .i64 0, .int .i64 o1, .int .i64 o2, .int .i64 1] 62)).alloc (.cells Try.zeroCells55 55)) = W0 at *
  go_upto_region 2 with fail
  go_wp2_with (refine wpList_store_row rfl 55 _ _ rfl (w.heap.size + 1) (Try.zeroCells55.setIfInBounds 0 (.int .i64 1)) rfl rfl 55 _ HG4.out HZ1.out.2.1 HZ1.out.1 HZ1.out.2.2 ?_)
  rw [z301_is]
  have hrow := setRow_heap W0 (w.heap.size + 1) _ (tlA 0 0) 55 _ HG4.out
  refine bodyPost_ret (v := .agg (tlA 0 0)) (results_cell_row Try.results36 _ _ (w.heap.size + 1) 55 _ _ _ rfl hrow Try.underlying55 rfl HZ.out.1) rfl (HR.out _ (below_setRow HBL.out (by omega) _))

/-- The sum under way: the blocks that are laid first, the sum's row, the frames, the book. -/
structure TsW (w : World) (M o1 o2 : Int) (b gs gf : Nat) (FS : List (List Int)) (n : Nat) (F : Nat → Nat) (wr : World) : Prop where
  low : b < w.heap.size
  left : ObAt wr w.heap.size 62 #[.int .i64 M, .int .i64 o1, .int .i64 o2, .int .i64 1]
  res : ObAt wr (w.heap.size + 1) 55 Try.zeroCells55
  gs0 : w.heap.size + 1 < gs
  sum : RowAt wr gs 55 (rowN301 F)
  gf0 : gs < gf
  frm : ∃ cur, wr.heap[gf]? = some (.cells cur 69 (0, 0)) ∧ ∀ j, j < 3 * FS.length → cur[j]? = (sheetC FS)[j]?
  book : BookAt wr b n
  grown : w.grownBy wr (some b)
theorem ObAt.block {w w' : World} {g : Nat} {T : TypeId} {cs : Array Value} (h : ObAt w g T cs) {b : Nat} (hg : w.grownBy w' (some b)) (hne : g ≠ b) : ObAt w' g T cs := by
  unfold ObAt at *
  rw [hg.block _ (Array.getElem?_eq_some_iff.1 h).1 (by simpa using hne)]; exact h
theorem RowAt.block {w w' : World} {g : Nat} {e : TypeId} {cs : List Int} (h : RowAt w g e cs) {b : Nat} (hg : w.grownBy w' (some b)) (hne : g ≠ b) : RowAt w' g e cs := by
  unfold RowAt at *
  rw [hg.block _ (Array.getElem?_eq_some_iff.1 h).1 (by simpa using hne)]; exact h
theorem grown_trans {a x y : World} {b : Nat} (h : a.grownBy x (some b)) (k : x.grownBy y (some b)) : a.grownBy y (some b) :=
  ⟨k.os.trans h.os, k.tape.trans h.tape, k.output.trans h.output, Nat.le_trans h.size k.size, fun i hi hne => (k.block i (Nat.lt_of_lt_of_le hi h.size) hne).trans (h.block i hi hne)⟩
theorem TsW.keep {w : World} {M o1 o2 : Int} {b gs gf : Nat} {FS : List (List Int)} {n n' : Nat} {F : Nat → Nat} {wr w' : World} (h : TsW w M o1 o2 b gs gf FS n F wr) (hg : wr.grownBy w' (some b)) (hb : BookAt w' b n') : TsW w M o1 o2 b gs gf FS n' F w' := by
  obtain ⟨h1, h2, h3, h4, h5, h6, ⟨cur, h7, h8⟩, h9, h10⟩ := h
  refine ⟨h1, h2.block hg (by omega), h3.block hg (by omega), h4, h5.block hg (by omega), h6, ⟨cur, ?_, h8⟩, hb, grown_trans h10 hg⟩
  rw [hg.block _ (Array.getElem?_eq_some_iff.1 h7).1 (by simp; omega)]; exact h7
theorem TsW.below {w : World} {M o1 o2 : Int} {b gs gf : Nat} {FS : List (List Int)} {n : Nat} {F : Nat → Nat} {wr w' : World} (h : TsW w M o1 o2 b gs gf FS n F wr) (hb : Below wr.heap.size wr w') : TsW w M o1 o2 b gs gf FS n F w' :=
  h.keep (grown_of_below hb _) (h.book.same (hb.block b h.book.lt))
theorem TsW.cells {w : World} {M o1 o2 : Int} {b gs gf : Nat} {FS : List (List Int)} {n : Nat} {F : Nat → Nat} {wr : World} (h : TsW w M o1 o2 b gs gf FS n F wr) {j : Nat} (hj : j < FS.length) :
    wr.cell? ⟨gf, j * 3, none⟩ = some (.int .i64 ((FS.getD j []).getD 0 (-1))) ∧ wr.cell? ⟨gf, j * 3 + 1, none⟩ = some (.int .i64 ((FS.getD j []).getD 1 (-1))) ∧ wr.cell? ⟨gf, j * 3 + 2, none⟩ = some (.int .i64 ((FS.getD j []).getD 2 (-1))) := by
  obtain ⟨cur, h7, h8⟩ := h.frm
  obtain ⟨e0, e1, e2⟩ := sheetC_get FS j hj
  refine ⟨?_, ?_, ?_⟩ <;> rw [cell_of_row _ _ _ _ _ _ h7, h8 _ (by omega)] <;> assumption
theorem TsW.put {w : World} {M o1 o2 : Int} {b gs gf : Nat} {FS : List (List Int)} {n : Nat} {F G : Nat → Nat} {wr : World} (h : TsW w M o1 o2 b gs gf FS n F wr) {k : Nat} {x : Int} (hk : k < 301) (hr : (rowN301 F).set k x = rowN301 G) : TsW w M o1 o2 b gs gf FS n G (wr.setCell ⟨gs, k, none⟩ (.int .i64 x)) := by
  obtain ⟨h1, h2, h3, h4, h5, h6, ⟨cur, h7, h8⟩, h9, h10⟩ := h
  refine ⟨h1, h2.other (by omega) _, h3.other (by omega) _, h4, ?_, h6, ⟨cur, ?_, h8⟩, h9.same (heap_setCell_other wr _ b _ (by simp only; omega)), ⟨h10.os, h10.tape, h10.output, by simpa using h10.size, fun i hi hne => ?_⟩⟩
  · rw [← hr]; exact h5.put (by rw [rowN301_len]; exact hk) x
  · rw [heap_setCell_other wr _ gf _ (by simp only; omega)]; exact h7
  · rw [heap_setCell_other wr _ i _ (by simp only; omega)]; exact h10.block i hi hne

/-- A frame's sum under way. -/
def accF (T : Nat → Nat → Nat) (s : Nat) (L : List (List Nat)) (f : List Nat) (j n : Nat) : Nat := sumT T s L n + (if ptsF s f ≤ n ∧ n - ptsF s f < j then T (bhF s f) (n - ptsF s f) else 0)
theorem accF_zero (T : Nat → Nat → Nat) (s : Nat) (L : List (List Nat)) (f : List Nat) : accF T s L f 0 = sumT T s L := by
  funext n; unfold accF; rw [if_neg (by omega)]; rfl
theorem accF_end (T : Nat → Nat → Nat) (s : Nat) (L : List (List Nat)) (f : List Nat) {n : Nat} (hn : n < 301) : accF T s L f 301 n = sumT T s (L ++ [f]) n := by
  rw [sumT_app, sumT_one]
  unfold accF partT
  by_cases h : ptsF s f ≤ n
  · rw [if_pos ⟨h, by omega⟩, if_pos h]
  · rw [if_neg (fun q => h q.1), if_neg h]
theorem accF_same (T : Nat → Nat → Nat) (s : Nat) (L : List (List Nat)) (f : List Nat) {j : Nat} (h0 : T (bhF s f) j = 0) : accF T s L f j = accF T s L f (j + 1) := by
  funext n
  unfold accF
  by_cases h : ptsF s f ≤ n ∧ n - ptsF s f < j
  · rw [if_pos h, if_pos ⟨h.1, by omega⟩]
  · by_cases h2 : ptsF s f ≤ n ∧ n - ptsF s f < j + 1
    · rw [if_neg h, if_pos h2, show n - ptsF s f = j by omega, h0]
    · rw [if_neg h, if_neg h2]
theorem accF_step (T : Nat → Nat → Nat) (s : Nat) (L : List (List Nat)) (f : List Nat) (j : Nat) :
    accF T s L f j (ptsF s f + j) = sumT T s L (ptsF s f + j) ∧ accF T s L f (j + 1) (ptsF s f + j) = accF T s L f j (ptsF s f + j) + T (bhF s f) j ∧ (∀ n, n ≠ ptsF s f + j → accF T s L f j n = accF T s L f (j + 1) n) ∧ accF T s L f (j + 1) (ptsF s f + j) = sumT T s (L ++ [f]) (ptsF s f + j) := by
  have e1 : accF T s L f j (ptsF s f + j) = sumT T s L (ptsF s f + j) := by unfold accF; rw [if_neg (by omega)]; rfl
  have e2 : accF T s L f (j + 1) (ptsF s f + j) = sumT T s L (ptsF s f + j) + T (bhF s f) j := by
    unfold accF; rw [if_pos (by omega), show ptsF s f + j - ptsF s f = j by omega]
  refine ⟨e1, by rw [e1, e2], fun n hn => ?_, ?_⟩
  · unfold accF
    by_cases h : ptsF s f ≤ n ∧ n - ptsF s f < j
    · rw [if_pos h, if_pos ⟨h.1, by omega⟩]
    · rw [if_neg h, if_neg (by omega)]
  · rw [e2, sumT_app, sumT_one]
    unfold partT
    rw [if_pos (by omega), show ptsF s f + j - ptsF s f = j by omega]
theorem fit_300 {m s : Nat} (hs : s ≤ 3) (hfit : m + 1 ≤ 9 ∨ s = 0) (hm : m + 1 ≤ 10) {f : List Nat} (hf : f ∈ frs m) {j : Nat} (h0 : tl m (bhF s f) j ≠ 0) : ptsF s f + j ≤ 300 := by
  have h1 : j ≤ topT m (bhF s f) := by
    have := tl_top m (bhF s f) j (bhF_le s f)
    omega
  have h2 := step_top hs hf
  have h3 : topT (m + 1) s ≤ 300 := by
    unfold topT
    rw [if_neg (by omega)]
    obtain ⟨s1, s2, s3, s4, -⟩ := st_bd s
    rcases hfit with h | rfl
    · omega
    · simp [oneT, twoT]; omega
  omega
theorem take_app {L : List (List Nat)} {i : Nat} (h : i < L.length) : L.take (i + 1) = L.take i ++ [L.getD i []] := by
  rw [List.take_succ_eq_append_getElem h]; simp [h]
theorem sum_bound {m s : Nat} (hm : m + 1 ≤ 10) {i n : Nat} : sumT (tl m) s ((frs m).take i) n ≤ 5800000000000000000 := by
  have h1 := sum_part (T := tl m) (B := bigT m) (s := s) (n := n) (fun s n => tl_big m s n) ((frs m).take i)
  have h2 : ((frs m).take i).length * bigT m ≤ (frs m).length * bigT m := Nat.mul_le_mul_right _ (by rw [List.length_take]; omega)
  have h3 : bigT (m + 1) ≤ 5800000000000000000 := bigT_le hm
  have h4 : bigT (m + 1) = (frs m).length * bigT m := rfl
  omega

/-- The tail: behind the book's new line, behind the result's own. -/
theorem tail_w {w wr w7 : World} {X : Prop} {b gs n n7 : Nat} {m s : Nat} (h : X ∧ ObAt wr (w.heap.size + 1) 55 Try.zeroCells55 ∧ wr.heap[gs]? = some (.cells (tlA m s) 55 (0, 0)) ∧ BookAt wr b n ∧ w.grownBy wr (some b) ∧ b < w.heap.size ∧ w.heap.size + 1 < gs) (hb : BookAt w7 b n7) (hg : wr.grownBy w7 (some b)) :
    ObAt w7 (w.heap.size + 1) 55 Try.zeroCells55 ∧ w7.heap[gs]? = some (.cells (tlA m s) 55 (0, 0)) ∧ BookAt w7 b n7 ∧ w.grownBy w7 (some b) := by
  obtain ⟨-, h1, h2, -, h4, h5, h6⟩ := h
  refine ⟨h1.block hg (by omega), ?_, hb, grown_trans h4 hg⟩
  rw [hg.block _ (Array.getElem?_eq_some_iff.1 h2).1 (by simp; omega)]; exact h2
theorem tail_end {w w7 : World} {X : Prop} {b n7 : Nat} (h : X ∧ BookAt w7 b n7 ∧ w.grownBy w7 (some b)) (hbw : b < w.heap.size) (cs : Array Value) :
    BookAt (w7.setRow (w.heap.size + 1) cs) b n7 ∧ w.grownBy (w7.setRow (w.heap.size + 1) cs) (some b) := by
  obtain ⟨-, h1, h2⟩ := h
  refine ⟨h1.same (setRow_other w7 _ b cs (by omega)), ⟨h2.os, h2.tape, h2.output, by simpa using h2.size, fun i hi hne => ?_⟩⟩
  rw [setRow_other w7 _ i cs (by omega)]; exact h2.block i hi hne

set_option maxRecDepth 100000 in
set_option maxHeartbeats 12800000 in
theorem tally_succ (m s : Nat) (hm : m + 1 ≤ 10) (hs : s ≤ 3) (hfit : m + 1 ≤ 9 ∨ s = 0)
    (ih : ∀ s', s' ≤ 3 → ∀ (b n : Nat) (w : World), BookAt w b n → n + newB m ≤ 9000000000000000000 → Calls Try.prog 36 #[.map (some b), lfV m s'] w (TlR m s' b n w))
    (b n : Nat) (w : World) (hb : BookAt w b n) (hn : n + newB (m + 1) ≤ 9000000000000000000) :
    Calls Try.prog 36 #[.map (some b), lfV (m + 1) s] w (TlR (m + 1) s b n w) := by
  obtain ⟨kl, hkl⟩ := key_some hm hs
  have HFR := Lib.hid (fun W => frames_any m s (by omega) W)
  have HBH := Lib.hid (fun f hf W => behind_any m s (by omega) f hf W)
  have HPT := Lib.hid (fun f hf W => points_any f s hf W)
  have H0 := Lib.hid (TlW.new w ((m + 1 : Nat) : Int) (oneT s) (twoT s))
  have hbel : Below w.heap.size w ((w.alloc (.cells #[.int .i64 ((m + 1 : Nat) : Int), .int .i64 (oneT s), .int .i64 (twoT s), .int .i64 1] 62)).alloc (.cells Try.zeroCells55 55)) := by (repeat (first | exact Below.refl _ _ | exact ‹Below _ _ _› | refine Below.drew ?_ | refine Below.alloc ?_ (by first | omega | (simp; done) | (simp; omega)) _ | refine Below.setCell ?_ (by first | omega | (simp; done) | (simp; omega)) _ | refine Below.trans ?_ (Below.mono ‹Below _ _ _› (by first | omega | (simp; done) | (simp; omega)))))
  have HBL := Lib.hid hbel; clear hbel
  have hbl := hb.lt
  obtain ⟨D, hown, hD⟩ := hb
  have HZT := Lib.hid (tlA_facts (m + 1) s)
  have HVV : Hid (∀ v ps, has D kl = true → heldR v = some (D.atKey kl (.held (.agg Try.zeroCells55)), ps) → v = .agg (tlA (m + 1) s)) := Lib.hid fun v ps h1 h2 => by
    rw [hD.2 (m + 1) s kl hm hs hkl h1] at h2
    simp only [heldR, Option.some.injEq, Prod.mk.injEq] at h2
    exact DataW.held.inj h2.1
  have HNV : Hid (∀ v ps, has D kl = false → heldR v = some (D.atKey kl (.held (.agg Try.zeroCells55)), ps) → v = .agg Try.zeroCells55) := Lib.hid fun v ps h1 h2 => by
    rw [atKey_of_not_has h1] at h2
    simp only [heldR, Option.some.injEq, Prod.mk.injEq] at h2
    exact DataW.held.inj h2.1
  have HPU : Hid (∀ D', BookD D' → BookD (D'.put kl (.held (.agg (tlA (m + 1) s))))) := Lib.hid fun D' hD' => hD'.put hm hs hkl
  have HIH := Lib.hid ih; clear ih
  have HM0 : ((((m + 1 : Nat) : Int)) == 0) = false := by simp; omega
  have hown0 := owns_map hown (HBL.out.block b hbl)
  have HD := Lib.hid (And.intro hown (And.intro hD hbl)); clear hown hD hbl
  rw [show lfV (m + 1) s = .agg #[.int .i64 ((m + 1 : Nat) : Int), .int .i64 (oneT s : Int), .int .i64 (twoT s : Int), .int .i64 1] from rfl] at HFR HBH hkl ⊢
  generalize ((m + 1 : Nat) : Int) = M at *
  generalize (oneT s : Int) = o1 at *
  generalize (twoT s : Int) = o2 at *
  have HKL := Lib.hid hkl; clear hkl
  have HOW := Lib.hid hown0; clear hown0
  go_enter Try.func36, Try.ntmps36
  go_upto_region 1 with fail
  obtain ⟨c0, c1, c2, c3, -, -, -, -⟩ := H0.out.1.four
  generalize ((w.alloc (.cells #[.int .i64 M, .int .i64 o1, .int .i64 o2, .int .i64 1] 62)).alloc (.cells Try.zeroCells55 55)) = W0 at *
  go_upto_region 3 with fail
  have HG4 := Lib.hid H0.out.2
  have HZZ : Hid ((Try.prog.info? 55).map (·.size) = some Try.zeroCells55.size ∧ Try.zeroCells55.all (·.oneCell') = true) := Lib.hid ⟨by rw [Try.zeroCells55_size]; exact info301, by rw [zc301]; exact ints_flat _⟩
  cases hh : has D kl
  · have HH := Lib.hid hh; clear hh
    have hbW : Below w.heap.size w ((W0.alloc (.cells Try.zeroCells55 55)).alloc (.cells Try.zeroCells55 55)) := (HBL.out.alloc HBL.out.size _).alloc (by have := HBL.out.size; simp; omega) _
    have hl2 : ObAt ((W0.alloc (.cells Try.zeroCells55 55)).alloc (.cells Try.zeroCells55 55)) w.heap.size 62 #[.int .i64 M, .int .i64 o1, .int .i64 o2, .int .i64 1] := (H0.out.1.old _).old _
    have hr2 : ObAt ((W0.alloc (.cells Try.zeroCells55 55)).alloc (.cells Try.zeroCells55 55)) (w.heap.size + 1) 55 Try.zeroCells55 := (HG4.out.old _).old _
    have hs2 : RowAt ((W0.alloc (.cells Try.zeroCells55 55)).alloc (.cells Try.zeroCells55 55)) (W0.heap.size + 1) 55 (rowN301 fun _ => 0) := by
      have := ObAt.new (W0.alloc (.cells Try.zeroCells55 55)) 55 Try.zeroCells55
      rw [World.size_alloc] at this
      unfold RowAt
      rw [rowN301_zero (fun _ => rfl), ← zc301]; exact this
    have hlt0 := HG4.out.lt
    have H2 := Lib.hid (And.intro hl2 (And.intro hr2 (And.intro hs2 (And.intro hbW hlt0)))); clear hl2 hr2 hs2 hbW hlt0
    go_upto_region 7 with (first
      | (refine wpList_lookup_own_ok _ rfl _ _ 57 rfl 62 55 keysLeft Try.underlying57 heldR (Try.zeroValue55 W0) (.held (.agg Try.zeroCells55)) [] rfl b n D rfl HOW.out (.agg #[.int .i64 M, .int .i64 o1, .int .i64 o2, .int .i64 1]) kl rfl HKL.out ?_; intro v ps hv; rw [HH.out]; obtain rfl := HNV.out v ps HH.out hv; clear hv)
      | (refine wpList_store_row rfl 55 _ _ rfl W0.heap.size Try.zeroCells55 rfl rfl _ _ (heap_alloc_last _ _) HZZ.out.1 rfl HZZ.out.2 ?_; rw [World.setRow_alloc_new]))
    clear c0 c1 c2 c3
    obtain ⟨c0, c1, c2, c3, -, -, -, -⟩ := H2.out.1.four
    generalize ((W0.alloc (.cells Try.zeroCells55 55)).alloc (.cells Try.zeroCells55 55)) = W2 at *
    have HP0 := Lib.hid (And.intro H2.out.2.2.2.2 HD.out)
    obtain ⟨gs, hgs⟩ : ∃ gs, gs = W0.heap.size + 1 := ⟨_, rfl⟩
    rw [← hgs] at H2 ⊢
    have HGS : Hid (w.heap.size + 1 < gs) := Lib.hid (by have := HP0.out.1; omega)
    clear hgs
    go_wp2_with fail
    refine (HFR.out _).mono ?_; rintro e w3 ⟨v3, rfl, own3, b3⟩
    have hLpos : 0 < (frs m).length := by unfold frs; split <;> simp [frN_len, frL_len]
    obtain ⟨-, ⟨-, hnil⟩ | ⟨gf, cap, cur, rfl, hgf, hcur, -, -, hcs, htk⟩⟩ := own3
    · omega
    have H3 : Hid (TsW w M o1 o2 b gs gf ((frs m).map bsI) n (sumT (tl m) s ((frs m).take 0)) w3) := Lib.hid ⟨HD.out.2.2, H2.out.1.keep b3, H2.out.2.1.keep b3, HGS.out, H2.out.2.2.1.keep b3, Nat.lt_of_lt_of_le H2.out.2.2.1.lt hgf, ⟨cur, hcur, fun j hj => by
        rw [List.length_map] at hj
        rw [← htk, List.getElem?_take_of_lt (by omega)]; simp⟩, ⟨D, owns_map HD.out.1 ((H2.out.2.2.2.1.trans (b3.mono H2.out.2.2.2.1.size)).block b HD.out.2.2), HD.out.2.1⟩, grown_of_below (H2.out.2.2.2.1.trans (b3.mono H2.out.2.2.2.1.size)) _⟩
    clear hgf hcur hcs htk b3 H2 c0 c1 c2 c3 hLpos H0 HG4 HOW HNV HVV HH
    have hL := frs_len m
    obtain ⟨L, hLL⟩ : ∃ L, L = (frs m).length := ⟨_, rfl⟩
    rw [← hLL] at hL ⊢
    have HLL := Lib.hid hLL; clear hLL
    have HNB : Hid (n + 1 + L * newB m ≤ 9000000000000000000) := Lib.hid (by
      have e : newB (m + 1) = 1 + (frs m).length * newB m := rfl
      rw [HLL.out]; omega)
    go_wp2_with fail
    go_loopw [28] (fun i wr => ∃ k : Nat, i = .int .i64 k ∧ k ≤ L ∧ Hid (TsW w M o1 o2 b gs gf ((frs m).map bsI) (n + k * newB m) (sumT (tl m) s ((frs m).take k)) wr)) (fun i _ => L - (intOf i).toNat)
    case atStart => exact ⟨0, rfl, Nat.zero_le _, Lib.hid (by rw [Nat.zero_mul, Nat.add_zero]; exact H3.out)⟩
    case round =>
      clear H3
      obtain ⟨k, rfl, hk, hH⟩ := hrel
      obtain ⟨c0, c1, c2, c3, -, -, -, -⟩ := hH.out.left.four
      by_cases hlt : k < L
      · have b1 : (k : Int) < (L : Int) := by omega
        have hkf : k < (frs m).length := by rw [← HLL.out]; exact hlt
        have hfm : (frs m).getD k [] ∈ frs m := by rw [List.getD_eq_getElem?_getD, List.getElem?_eq_getElem hkf]; simp
        have hgd : ((frs m).map bsI).getD k [] = bsI ((frs m).getD k []) := by simp [hkf]
        obtain ⟨d0, d1, d2⟩ := hH.out.cells (j := k) (by rw [List.length_map]; exact hkf)
        have hap := take_app hkf
        obtain ⟨f, hfd⟩ : ∃ f, f = (frs m).getD k [] := ⟨_, rfl⟩
        rw [hgd] at d0 d1 d2
        rw [← hfd] at d0 d1 d2 hap hfm
        have hsh := frs_shape hfm
        have hpt := HPT.out f hsh
        have hbh := HBH.out f hsh
        rw [show frV (bsI f) = .agg #[.int .i64 ((bsI f).getD 0 (-1)), .int .i64 ((bsI f).getD 1 (-1)), .int .i64 ((bsI f).getD 2 (-1))] from rfl] at hpt hbh
        generalize (bsI f).getD 0 (-1) = x at *
        generalize (bsI f).getD 1 (-1) = y at *
        generalize (bsI f).getD 2 (-1) = z at *
        have HFF := Lib.hid (And.intro hfm (And.intro hap (And.intro hpt hbh))); clear hfm hap hpt hbh hgd hsh hfd hkf
        have hlw : w.heap.size < wr.heap.size := hH.out.left.lt
        have hnw : w.heap.size ≠ wr.heap.size := by omega
        have HN9 := Lib.hid (ObAt.new wr 69 #[.int .i64 x, .int .i64 y, .int .i64 z])
        have H9 := Lib.hid (hH.out.below (below_newT wr (.cells #[.int .i64 x, .int .i64 y, .int .i64 z] 69)))
        go_wp2_with fail
        refine (HFF.out.2.2.1 _).mono ?_; rintro e w4 ⟨rfl, b4⟩
        have hb4 := b4.size
        have H4 := Lib.hid (And.intro (H9.out.below b4) (HN9.out.keep b4)); clear b4 H9 HN9
        clear c0 c1 c2 c3 d0 d1 d2
        obtain ⟨c0, c1, c2, c3, -, -, -, -⟩ := H4.out.1.left.four
        obtain ⟨d0, d1, d2, -, -, -⟩ := H4.out.2.three
        clear hH
        have hpb := ptsF_bd (s := s) HFF.out.1
        obtain ⟨p, hp⟩ : ∃ p, p = ptsF s f := ⟨_, rfl⟩
        rw [← hp] at hpb ⊢
        have HPP := Lib.hid hp; clear hp
        go_wp2_with fail
        refine (HFF.out.2.2.2 _).mono ?_; rintro e w5 ⟨rfl, b5⟩
        have H5 := Lib.hid (H4.out.1.below b5); clear b5 H4
        clear c0 c1 c2 c3 d0 d1 d2
        have hks : k * newB m + newB m ≤ L * newB m := by
          rw [← Nat.succ_mul]; exact Nat.mul_le_mul_right _ hlt
        have hcall := HIH.out (bhF s f) (bhF_le s f) b (n + k * newB m) w5 H5.out.book (by have := HNB.out; omega)
        have HC := Lib.hid hcall; clear hcall hks
        generalize hVV : lfV m (bhF s f) = VL at *
        clear hVV
        go_wp2_with fail
        refine HC.out.mono ?_; rintro e w6 ⟨rfl, hbk6, hg6⟩
        have H6 : Hid (TsW w M o1 o2 b gs gf ((frs m).map bsI) (n + (k + 1) * newB m) (accF (tl m) s ((frs m).take k) f 0) w6) := Lib.hid (by
          rw [accF_zero]
          exact H5.out.keep hg6 (by rw [Nat.succ_mul, ← Nat.add_assoc]; exact hbk6))
        clear H5 HC hbk6 hg6 hlw hnw hb4
        have hix := fun (j : Nat) (hj : j ≤ 300) W => index_tl m (bhF s f) j hj W
        have HIX := Lib.hid hix; clear hix
        go_wp2_with fail
        go_loopw [41] (fun i wr => ∃ j : Nat, i = .int .i64 j ∧ j ≤ 301 ∧ Hid (TsW w M o1 o2 b gs gf ((frs m).map bsI) (n + (k + 1) * newB m) (accF (tl m) s ((frs m).take k) f j) wr)) (fun i _ => 301 - (intOf i).toNat)
        case atStart => exact ⟨0, rfl, Nat.zero_le _, H6⟩
        case round =>
          clear H6
          obtain ⟨j, rfl, hj, hH⟩ := hrel
          by_cases hjl : j < 301
          · have b2 : (j : Int) < 301 := by omega
            have hix := HIX.out j (by omega)
            obtain ⟨s1, s2, s3, s4⟩ := accF_step (tl m) s ((frs m).take k) f j
            have hfit2 := fit_300 hs hfit hm HFF.out.1 (j := j)
            have hbd := sum_bound (m := m) (s := s) hm (i := k + 1) (n := ptsF s f + j)
            rw [HFF.out.2.1, ← s4, s2] at hbd
            have hsm := accF_same (tl m) s ((frs m).take k) f (j := j)
            rw [← HPP.out] at s1 s2 s3 hfit2 hbd
            clear s1 s4
            by_cases h0 : tl m (bhF s f) j = 0
            · rw [h0] at hix
              have H7 : Hid (TsW w M o1 o2 b gs gf ((frs m).map bsI) (n + (k + 1) * newB m) (accF (tl m) s ((frs m).take k) f (j + 1)) wr) := Lib.hid (by rw [← hsm h0]; exact hH.out)
              clear hsm h0 hfit2 hbd s2 s3 hH
              rw [show (((0 : Nat) : Int)) = 0 from rfl] at hix
              go_wp2_with fail
              go_roundw
              case rel => exact ⟨j + 1, by go_num, by omega, H7⟩
              case measure => simp [intOf]; omega
            · have hpj := hfit2 h0
              have b3 : (p : Int) + (j : Int) < 301 := by omega
              have hp0 : (0 : Int) ≤ (p : Int) + (j : Int) := by omega
              have q1 := hH.out.sum.cell (j := p + j) (by rw [rowN301_len]; omega)
              rw [rowN301_get _ (show p + j < 301 by omega)] at q1
              have q2 := hH.out.sum.free (p + j)
              have hset : (rowN301 (accF (tl m) s ((frs m).take k) f j)).set (p + j) (((accF (tl m) s ((frs m).take k) f j (p + j) : Nat) : Int) + ((tl m (bhF s f) j : Nat) : Int)) = rowN301 (accF (tl m) s ((frs m).take k) f (j + 1)) :=
                rowN301_set (by omega) (by rw [s2]; push_cast; rfl) (fun i hi hne => s3 i hne)
              have H7 := Lib.hid (hH.out.put (k := p + j) (by omega) hset)
              clear hset hsm hfit2 s2 s3 hH
              generalize accF (tl m) s ((frs m).take k) f j (p + j) = A at *
              generalize tl m (bhF s f) j = X at *
              have e0 : (0 : Int) < (X : Int) := by omega
              have e1 : IntKind.i64.wrap ((A : Int) + (X : Int)) = (A : Int) + (X : Int) := by rw [IntKind.wrap_i64]; omega
              clear hbd h0
              go_wp2_with fail
              go_roundw
              case rel => exact ⟨j + 1, by go_num, by omega, H7⟩
              case measure => simp [intOf]; omega
          · obtain rfl : j = 301 := by omega
            have H8 : Hid (TsW w M o1 o2 b gs gf ((frs m).map bsI) (n + (k + 1) * newB m) (sumT (tl m) s ((frs m).take (k + 1))) wr) := Lib.hid (by
              have h := hH.out
              have e : rowN301 (accF (tl m) s ((frs m).take k) f 301) = rowN301 (sumT (tl m) s ((frs m).take (k + 1))) := rowN301_congr (fun i hi => by rw [HFF.out.2.1]; exact accF_end _ _ _ _ hi)
              exact ⟨h.low, h.left, h.res, h.gs0, by rw [← e]; exact h.sum, h.gf0, h.frm, h.book, h.grown⟩)
            clear hH
            go_wp2_with fail
            go_roundw
            case rel => exact ⟨k + 1, by go_num, by omega, H8⟩
            case measure => simp [intOf]; omega
      · obtain rfl : L = k := by omega
        clear hlt
        have hend : (frs m).take L = frs m := by rw [HLL.out, List.take_length]
        have HE : Hid (ObAt wr w.heap.size 62 #[.int .i64 M, .int .i64 o1, .int .i64 o2, .int .i64 1] ∧ ObAt wr (w.heap.size + 1) 55 Try.zeroCells55 ∧ wr.heap[gs]? = some (.cells (tlA (m + 1) s) 55 (0, 0)) ∧ BookAt wr b (n + L * newB m) ∧ w.grownBy wr (some b) ∧ b < w.heap.size ∧ w.heap.size + 1 < gs) := Lib.hid (by
          have h := hH.out
          refine ⟨h.left, h.res, ?_, h.book, h.grown, h.low, h.gs0⟩
          have hs := h.sum
          rw [hend] at hs
          unfold RowAt at hs
          unfold tlA
          rw [tlL_is]
          exact hs)
        clear hH hend
        obtain ⟨D', hown', hD'⟩ := HE.out.2.2.2.1
        have HDD := Lib.hid (And.intro hown' (HPU.out D' hD')); clear hown' hD'
        have hnl : n + L * newB m < maxLen := by have := HNB.out; unfold maxLen; omega
        go_wp2_with (first
          | refine wpList_load_row rfl 55 _ rfl gs rfl 55 (tlA (m + 1) s) (0, 0) _ HE.out.2.2.1 Try.underlying55 rfl HZT.out.1 ?_
          | (at_mapUpdate; refine wpList_mapUpdate_own _ rfl _ _ _ 57 rfl 62 55 keysLeft Try.underlying57 heldR b (n + L * newB m) D' rfl HDD.out.1 hnl (.agg #[.int .i64 M, .int .i64 o1, .int .i64 o2, .int .i64 1]) (.agg (tlA (m + 1) s)) kl rfl rfl HKL.out (.held (.agg (tlA (m + 1) s))) [] rfl ?_; intro w7 hown7 hgrow7; have H7 := Lib.hid (tail_w (m := m + 1) (s := s) HE.out ⟨_, hown7, HDD.out.2⟩ hgrow7); clear hown7 hgrow7)
          | refine wpList_load_row rfl 55 _ rfl gs rfl 55 (tlA (m + 1) s) (0, 0) _ H7.out.2.1 Try.underlying55 rfl HZT.out.1 ?_
          | refine wpList_store_row rfl 55 _ _ rfl (w.heap.size + 1) (tlA (m + 1) s) rfl rfl 55 _ H7.out.1 HZT.out.1 HZT.out.2.1 HZT.out.2.2 ?_)
        have hrow := setRow_heap w7 (w.heap.size + 1) _ (tlA (m + 1) s) 55 _ H7.out.1
        have hdone := tail_end H7.out.2 HE.out.2.2.2.2.2.1 (tlA (m + 1) s)
        have hcnt : n + L * newB m + 1 ≤ n + newB (m + 1) := by
          have e : newB (m + 1) = 1 + (frs m).length * newB m := rfl
          rw [e, HLL.out]; omega
        refine bodyPost_ret (v := .agg (tlA (m + 1) s)) (results_cell_row Try.results36 _ _ (w.heap.size + 1) 55 _ _ _ rfl hrow Try.underlying55 rfl HZT.out.1) rfl ⟨rfl, hdone.1.mono hcnt, hdone.2⟩
  · have HH := Lib.hid hh; clear hh
    have hg5 : (W0.alloc (.cells (tlA (m + 1) s) 55)).heap[W0.heap.size]? = some (.cells (tlA (m + 1) s) 55 (0, 0)) := heap_alloc_last _ _
    have hg4 : (W0.alloc (.cells (tlA (m + 1) s) 55)).heap[w.heap.size + 1]? = some (.cells Try.zeroCells55 55 (0, 0)) := HG4.out.old _
    have HG := Lib.hid (And.intro hg5 hg4); clear hg5 hg4
    go_wp2_with (first
      | (refine wpList_lookup_own_ok _ rfl _ _ 57 rfl 62 55 keysLeft Try.underlying57 heldR (Try.zeroValue55 W0) (.held (.agg Try.zeroCells55)) [] rfl b n D rfl HOW.out (.agg #[.int .i64 M, .int .i64 o1, .int .i64 o2, .int .i64 1]) kl rfl HKL.out ?_; intro v ps hv; rw [HH.out]; obtain rfl := HVV.out v ps HH.out hv; clear hv)
      | (refine wpList_store_row rfl 55 _ _ rfl W0.heap.size (tlA (m + 1) s) rfl rfl _ _ (heap_alloc_last _ _) HZT.out.1 HZT.out.2.1 HZT.out.2.2 ?_; rw [World.setRow_alloc_new])
      | refine wpList_load_row rfl 55 _ rfl W0.heap.size rfl 55 (tlA (m + 1) s) (0, 0) _ HG.out.1 Try.underlying55 rfl HZT.out.1 ?_
      | refine wpList_store_row rfl 55 _ _ rfl (w.heap.size + 1) (tlA (m + 1) s) rfl rfl 55 _ HG.out.2 HZT.out.1 HZT.out.2.1 HZT.out.2.2 ?_)
    have hrow := setRow_heap (W0.alloc (.cells (tlA (m + 1) s) 55)) (w.heap.size + 1) _ (tlA (m + 1) s) 55 _ HG.out.2
    have hb9 : Below w.heap.size w ((W0.alloc (.cells (tlA (m + 1) s) 55)).setRow (w.heap.size + 1) (tlA (m + 1) s)) := below_setRow (HBL.out.alloc HBL.out.size _) (by omega) _
    refine bodyPost_ret (v := .agg (tlA (m + 1) s)) (results_cell_row Try.results36 _ _ (w.heap.size + 1) 55 _ _ _ rfl hrow Try.underlying55 rfl HZT.out.1) rfl ⟨rfl, ⟨D, (owns_map HD.out.1 (hb9.block b HD.out.2.2)).mono (Nat.le_add_right _ _), HD.out.2.1⟩, grown_of_below hb9 _⟩

theorem tally_any : ∀ (m s : Nat), m ≤ 10 → s ≤ 3 → (m ≤ 9 ∨ s = 0) → ∀ (b n : Nat) (w : World), BookAt w b n → n + newB m ≤ 9000000000000000000 → Calls Try.prog 36 #[.map (some b), lfV m s] w (TlR m s b n w)
  | 0, s, _, _, _, b, n, w, hb, _ => tally_zero s b n w hb
  | m + 1, s, hm, hs, hf, b, n, w, hb, hn => tally_succ m s hm hs hf (fun s' hs' b n w hb hn => tally_any m s' (by omega) hs' (.inl (by omega)) b n w hb hn) b n w hb hn
end Go.Proofs.Ythbkclgdoopbpaa
