/-
  Pins: the program's first frame with which a number of points can be added.
-/
import Derived.Test.YthbkclgdoopbpaaPtCnt
namespace Go.Proofs.Ythbkclgdoopbpaa
open Go.RowKit Go.Maps
set_option linter.unusedVariables false
set_option linter.unusedSimpArgs false

/-- With this frame the points can be added. -/
def okFf (m s p : Nat) (f : List Nat) : Bool := decide (ptsF s f ≤ p) && decide (0 < tl m (bhF s f) (p - ptsF s f))
def ffO (m s p : Nat) : Option (List Nat) := (frs m).find? (okFf m s p)
def ffV : Option (List Nat) → Value
  | none => .tuple #[.agg #[.int .i64 0, .int .i64 0, .int .i64 0], .bool false]
  | some f => .tuple #[frV (bsI f), .bool true]
theorem find_at {α : Type} {P : α → Bool} {L : List α} {d : α} {k : Nat} (hk : k < L.length) (h1 : ∀ j, j < k → P (L.getD j d) = false) (h2 : P (L.getD k d) = true) : L.find? P = some (L.getD k d) := by
  induction L generalizing k with
  | nil => simp at hk
  | cons x L ih =>
    cases k with
    | zero => simp at h2 ⊢; exact .inl h2
    | succ k =>
      have h0 := h1 0 (by omega)
      simp at h0
      rw [List.find?_cons_of_neg (by simp [h0])]
      have e : (x :: L).getD (k + 1) d = L.getD k d := by simp
      rw [e] at h2 ⊢
      exact ih (by simpa using hk) (fun j hj => by have := h1 (j + 1) (by omega); simpa using this) h2
theorem find_no {α : Type} {P : α → Bool} {L : List α} {d : α} (h1 : ∀ j, j < L.length → P (L.getD j d) = false) : L.find? P = none := by
  rw [List.find?_eq_none]
  intro x hx
  obtain ⟨j, hj, rfl⟩ := List.getElem_of_mem hx
  have := h1 j hj
  simp [hj] at this
  simp [this]

/-- The search under way. -/
structure FfW (w : World) (M o1 o2 : Int) (b gf : Nat) (FS : List (List Int)) (n : Nat) (wr : World) : Prop where
  low : b < w.heap.size
  left : ObAt wr w.heap.size 62 #[.int .i64 M, .int .i64 o1, .int .i64 o2, .int .i64 1]
  res : ObAt wr (w.heap.size + 1) 69 #[.int .i64 0, .int .i64 0, .int .i64 0]
  gf0 : w.heap.size + 1 < gf
  frm : ∃ cur, wr.heap[gf]? = some (.cells cur 69 (0, 0)) ∧ ∀ j, j < 3 * FS.length → cur[j]? = (sheetC FS)[j]?
  book : BookAt wr b n
  grown : w.grownBy wr (some b)
theorem FfW.keep {w : World} {M o1 o2 : Int} {b gf : Nat} {FS : List (List Int)} {n n' : Nat} {wr w' : World} (h : FfW w M o1 o2 b gf FS n wr) (hg : wr.grownBy w' (some b)) (hb : BookAt w' b n') : FfW w M o1 o2 b gf FS n' w' := by
  obtain ⟨h1, h2, h3, h6, ⟨cur, h7, h8⟩, h9, h10⟩ := h
  refine ⟨h1, h2.block hg (by omega), h3.block hg (by omega), h6, ⟨cur, ?_, h8⟩, hb, grown_trans h10 hg⟩
  rw [hg.block _ (Array.getElem?_eq_some_iff.1 h7).1 (by simp; omega)]; exact h7
theorem FfW.below {w : World} {M o1 o2 : Int} {b gf : Nat} {FS : List (List Int)} {n : Nat} {wr w' : World} (h : FfW w M o1 o2 b gf FS n wr) (hb : Below wr.heap.size wr w') : FfW w M o1 o2 b gf FS n w' :=
  h.keep (grown_of_below hb _) (h.book.same (hb.block b h.book.lt))
theorem FfW.cells {w : World} {M o1 o2 : Int} {b gf : Nat} {FS : List (List Int)} {n : Nat} {wr : World} (h : FfW w M o1 o2 b gf FS n wr) {j : Nat} (hj : j < FS.length) :
    wr.cell? ⟨gf, j * 3, none⟩ = some (.int .i64 ((FS.getD j []).getD 0 (-1))) ∧ wr.cell? ⟨gf, j * 3 + 1, none⟩ = some (.int .i64 ((FS.getD j []).getD 1 (-1))) ∧ wr.cell? ⟨gf, j * 3 + 2, none⟩ = some (.int .i64 ((FS.getD j []).getD 2 (-1))) := by
  obtain ⟨cur, h7, h8⟩ := h.frm
  obtain ⟨e0, e1, e2⟩ := sheetC_get FS j hj
  refine ⟨?_, ?_, ?_⟩ <;> rw [cell_of_row _ _ _ _ _ _ h7, h8 _ (by omega)] <;> assumption
/-- What the search hands back. -/
def FfR (m s p b n : Nat) (w : World) (e : Ending) (w' : World) : Prop := e = .returned (ffV (ffO m s p)) ∧ BookAt w' b (n + (frs m).length * newB m) ∧ w.grownBy w' (some b)
theorem FfW.putRes {w : World} {M o1 o2 : Int} {b gf : Nat} {FS : List (List Int)} {n : Nat} {wr : World} (h : FfW w M o1 o2 b gf FS n wr) (x y z : Value) : BookAt (((wr.setCell ⟨w.heap.size + 1, 0, none⟩ x).setCell ⟨w.heap.size + 1, 1, none⟩ y).setCell ⟨w.heap.size + 1, 2, none⟩ z) b n ∧ w.grownBy (((wr.setCell ⟨w.heap.size + 1, 0, none⟩ x).setCell ⟨w.heap.size + 1, 1, none⟩ y).setCell ⟨w.heap.size + 1, 2, none⟩ z) (some b) := by
  obtain ⟨h1, h2, h3, h6, -, h9, h10⟩ := h
  have hk : ∀ i, i ≠ w.heap.size + 1 → (((wr.setCell ⟨w.heap.size + 1, 0, none⟩ x).setCell ⟨w.heap.size + 1, 1, none⟩ y).setCell ⟨w.heap.size + 1, 2, none⟩ z).heap[i]? = wr.heap[i]? := fun i hi => by
    rw [heap_setCell_other _ _ i _ (by simp only; omega), heap_setCell_other _ _ i _ (by simp only; omega), heap_setCell_other _ _ i _ (by simp only; omega)]
  exact ⟨h9.same (hk b (by omega)), ⟨h10.os, h10.tape, h10.output, by simpa using h10.size, fun i hi hne => (hk i (by omega)).trans (h10.block i hi hne)⟩⟩

set_option maxRecDepth 100000 in
set_option maxHeartbeats 12800000 in
theorem firstFrame_any (m s p : Nat) (hm : m + 1 ≤ 10) (hs : s ≤ 3) (hp : p ≤ 300) (b n : Nat) (w : World) (hb : BookAt w b n) (hn : n + (frs m).length * newB m ≤ 9000000000000000000) :
    Calls Try.prog 41 #[.map (some b), lfV (m + 1) s, .int .i64 p] w (FfR m s p b n w) := by
  have HFR := Lib.hid (fun W => frames_any m s (by omega) W)
  have HBH := Lib.hid (fun f hf W => behind_any m s (by omega) f hf W)
  have HPT := Lib.hid (fun f hf W => points_any f s hf W)
  have HTA := Lib.hid (fun s' (hs' : s' ≤ 3) b n W hB hN => tally_any m s' (by omega) hs' (.inl (by omega)) b n W hB hN)
  have hL := frs_len m
  have hN2 := hn
  obtain ⟨L, hLL⟩ : ∃ L, L = (frs m).length := ⟨_, rfl⟩
  rw [← hLL] at hL hn
  have HN := Lib.hid hn; clear hn hN2
  have hLpos : 0 < L := by rw [hLL]; unfold frs; split <;> simp [frN_len, frL_len]
  have HLL := Lib.hid hLL; clear hLL
  have hl2 : ObAt ((w.alloc (.cells #[.int .i64 ((m + 1 : Nat) : Int), .int .i64 (oneT s : Int), .int .i64 (twoT s : Int), .int .i64 1] 62)).alloc (.cells #[.int .i64 0, .int .i64 0, .int .i64 0] 69)) w.heap.size 62 #[.int .i64 ((m + 1 : Nat) : Int), .int .i64 (oneT s : Int), .int .i64 (twoT s : Int), .int .i64 1] := (ObAt.new w _ _).old _
  have hr2 : ObAt ((w.alloc (.cells #[.int .i64 ((m + 1 : Nat) : Int), .int .i64 (oneT s : Int), .int .i64 (twoT s : Int), .int .i64 1] 62)).alloc (.cells #[.int .i64 0, .int .i64 0, .int .i64 0] 69)) (w.heap.size + 1) 69 #[.int .i64 0, .int .i64 0, .int .i64 0] := by
    have := ObAt.new (w.alloc (.cells #[.int .i64 ((m + 1 : Nat) : Int), .int .i64 (oneT s : Int), .int .i64 (twoT s : Int), .int .i64 1] 62)) 69 #[.int .i64 0, .int .i64 0, .int .i64 0]
    rw [World.size_alloc] at this; exact this
  have hbel : Below w.heap.size w ((w.alloc (.cells #[.int .i64 ((m + 1 : Nat) : Int), .int .i64 (oneT s : Int), .int .i64 (twoT s : Int), .int .i64 1] 62)).alloc (.cells #[.int .i64 0, .int .i64 0, .int .i64 0] 69)) := by (repeat (first | exact Below.refl _ _ | exact ‹Below _ _ _› | refine Below.drew ?_ | refine Below.alloc ?_ (by first | omega | (simp; done) | (simp; omega)) _ | refine Below.setCell ?_ (by first | omega | (simp; done) | (simp; omega)) _ | refine Below.trans ?_ (Below.mono ‹Below _ _ _› (by first | omega | (simp; done) | (simp; omega)))))
  have H0 := Lib.hid (And.intro hl2 (And.intro hr2 (And.intro hbel hb))); clear hl2 hr2 hbel hb
  rw [show lfV (m + 1) s = .agg #[.int .i64 ((m + 1 : Nat) : Int), .int .i64 (oneT s : Int), .int .i64 (twoT s : Int), .int .i64 1] from rfl] at HFR HBH ⊢
  generalize ((m + 1 : Nat) : Int) = M at *
  generalize (oneT s : Int) = o1 at *
  generalize (twoT s : Int) = o2 at *
  go_enter Try.func41, Try.ntmps41
  go_upto_region 1 with fail
  obtain ⟨c0, c1, c2, c3, -, -, -, -⟩ := H0.out.1.four
  generalize ((w.alloc (.cells #[.int .i64 M, .int .i64 o1, .int .i64 o2, .int .i64 1] 62)).alloc (.cells #[.int .i64 0, .int .i64 0, .int .i64 0] 69)) = W0 at *
  go_wp2_with fail
  refine (HFR.out _).mono ?_; rintro e w3 ⟨v3, rfl, own3, b3⟩
  obtain ⟨-, ⟨-, hnil⟩ | ⟨gf, cap, cur, rfl, hgf, hcur, -, -, hcs, htk⟩⟩ := own3
  · have := HLL.out; omega
  have hz0 : w.heap.size + 1 < W0.heap.size := H0.out.2.1.lt
  have H3 : Hid (FfW w M o1 o2 b gf ((frs m).map bsI) (n + 0 * newB m) w3) := Lib.hid ⟨H0.out.2.2.2.lt, H0.out.1.keep b3, H0.out.2.1.keep b3, by omega, ⟨cur, hcur, fun j hj => by
      rw [List.length_map] at hj
      rw [← htk, List.getElem?_take_of_lt (by omega)]; simp⟩, (by rw [Nat.zero_mul, Nat.add_zero]; exact H0.out.2.2.2.same ((H0.out.2.2.1.trans (b3.mono H0.out.2.2.1.size)).block b H0.out.2.2.2.lt)), grown_of_below (H0.out.2.2.1.trans (b3.mono H0.out.2.2.1.size)) _⟩
  clear hgf hcur hcs htk b3 c0 c1 c2 c3 H0 hz0
  rw [← HLL.out]
  go_wp2_with fail
  go_loopw [14] (fun i wr => ∃ k : Nat, i = .int .i64 k ∧ k ≤ L ∧ Hid ((∀ j, j < k → okFf m s p ((frs m).getD j []) = false) ∧ FfW w M o1 o2 b gf ((frs m).map bsI) (n + k * newB m) wr)) (fun i _ => L - (intOf i).toNat)
  case atStart => exact ⟨0, rfl, Nat.zero_le _, Lib.hid ⟨fun j hj => by omega, H3.out⟩⟩
  case round =>
    clear H3
    obtain ⟨k, rfl, hk, hH⟩ := hrel
    obtain ⟨c0, c1, c2, c3, -, -, -, -⟩ := hH.out.2.left.four
    by_cases hlt : k < L
    · have b1 : (k : Int) < (L : Int) := by omega
      have hkf : k < (frs m).length := by rw [← HLL.out]; exact hlt
      have hfm : (frs m).getD k [] ∈ frs m := by rw [List.getD_eq_getElem?_getD, List.getElem?_eq_getElem hkf]; simp
      have hgd : ((frs m).map bsI).getD k [] = bsI ((frs m).getD k []) := by simp [hkf]
      obtain ⟨d0, d1, d2⟩ := hH.out.2.cells (j := k) (by rw [List.length_map]; exact hkf)
      have hat := find_at (P := okFf m s p) (d := []) hkf hH.out.1
      obtain ⟨f, hfd⟩ : ∃ f, f = (frs m).getD k [] := ⟨_, rfl⟩
      rw [hgd] at d0 d1 d2
      rw [← hfd] at d0 d1 d2 hfm hat
      have hsh := frs_shape hfm
      have hpt := HPT.out f hsh
      have hbh := HBH.out f hsh
      have HFV : Hid (frV (bsI f) = .agg #[.int .i64 ((bsI f).getD 0 (-1)), .int .i64 ((bsI f).getD 1 (-1)), .int .i64 ((bsI f).getD 2 (-1))]) := Lib.hid rfl
      rw [show frV (bsI f) = .agg #[.int .i64 ((bsI f).getD 0 (-1)), .int .i64 ((bsI f).getD 1 (-1)), .int .i64 ((bsI f).getD 2 (-1))] from rfl] at hpt hbh
      have hnext : okFf m s p f = false → ∀ j, j < k + 1 → okFf m s p ((frs m).getD j []) = false := fun h j hj => by
        by_cases e : j = k
        · subst e; rw [← hfd]; exact h
        · exact hH.out.1 j (by omega)
      have HHH := Lib.hid (And.intro hat (And.intro hnext hH.out.1)); clear hat hnext
      generalize (bsI f).getD 0 (-1) = x at *
      generalize (bsI f).getD 1 (-1) = y at *
      generalize (bsI f).getD 2 (-1) = z at *
      have HFF := Lib.hid (And.intro hfm (And.intro hpt hbh)); clear hfm hpt hbh hgd hsh hfd hkf
      have hlw : w.heap.size < wr.heap.size := hH.out.2.left.lt
      have hnw : w.heap.size ≠ wr.heap.size := by omega
      have hlw1 : w.heap.size + 1 < wr.heap.size := hH.out.2.res.lt
      have hnw1 : w.heap.size + 1 ≠ wr.heap.size := by omega
      have HN9 := Lib.hid (ObAt.new wr 69 #[.int .i64 x, .int .i64 y, .int .i64 z])
      have H9 := Lib.hid (hH.out.2.below (below_newT wr (.cells #[.int .i64 x, .int .i64 y, .int .i64 z] 69)))
      go_wp2_with fail
      refine (HFF.out.2.1 _).mono ?_; rintro e w4 ⟨rfl, b4⟩
      have hb4 := b4.size
      have H4 := Lib.hid (And.intro (H9.out.below b4) (HN9.out.keep b4)); clear b4 H9 HN9
      clear c0 c1 c2 c3 d0 d1 d2
      obtain ⟨c0, c1, c2, c3, -, -, -, -⟩ := H4.out.1.left.four
      obtain ⟨d0, d1, d2, -, -, -⟩ := H4.out.2.three
      clear hH
      have hpb := ptsF_bd (s := s) HFF.out.1
      obtain ⟨P, hP⟩ : ∃ P, P = ptsF s f := ⟨_, rfl⟩
      rw [← hP] at hpb ⊢
      have HPP := Lib.hid hP; clear hP
      have hkb : n + k * newB m + newB m ≤ n + L * newB m := by
        have : k * newB m + newB m ≤ L * newB m := by rw [← Nat.succ_mul]; exact Nat.mul_le_mul_right _ hlt
        omega
      by_cases hle : P ≤ p
      · obtain ⟨q, hq⟩ : ∃ q, p = P + q := ⟨p - P, by omega⟩
        have ew : IntKind.i64.wrap ((p : Int) - (P : Int)) = (q : Int) := by rw [IntKind.wrap_i64]; omega
        have hq300 : q ≤ 300 := by omega
        have hok : okFf m s p f = decide (0 < tl m (bhF s f) q) := by
          unfold okFf; rw [← HPP.out, decide_eq_true hle, show p - P = q by omega]; rfl
        have HOK := Lib.hid hok
        have q0 : (0 : Int) ≤ (q : Int) := by omega
        have HIX := Lib.hid (fun W => index_tl m (bhF s f) q hq300 W)
        clear hq hok hle
        go_wp2_with fail
        refine (HFF.out.2.2 _).mono ?_; rintro e w5 ⟨rfl, b5⟩
        have hb5 := b5.size
        have H5 := Lib.hid (And.intro (H4.out.1.below b5) (H4.out.2.keep b5)); clear b5 H4
        clear c0 c1 c2 c3 d0 d1 d2
        have HC := Lib.hid (HTA.out (bhF s f) (bhF_le s f) b (n + k * newB m) w5 H5.out.1.book (by have := HN.out; omega))
        generalize hVV : lfV m (bhF s f) = VL at *
        clear hVV
        go_wp2_with fail
        refine HC.out.mono ?_; rintro e w6 ⟨rfl, hbk6, hg6⟩
        have hx := HIX.out w6
        have hbw : b ≠ wr.heap.size := by have := H5.out.1.low; omega
        have H6 : Hid (FfW w M o1 o2 b gf ((frs m).map bsI) (n + (k + 1) * newB m) w6 ∧ ObAt w6 wr.heap.size 69 #[.int .i64 x, .int .i64 y, .int .i64 z]) := Lib.hid
          ⟨H5.out.1.keep hg6 (by rw [Nat.succ_mul, ← Nat.add_assoc]; exact hbk6), H5.out.2.block hg6 (fun e => hbw e.symm)⟩
        clear H5 HC hbk6 hg6
        by_cases h0 : tl m (bhF s f) q = 0
        · rw [h0] at hx
          have H7 := Lib.hid (And.intro (HHH.out.2.1 (by rw [HOK.out, h0]; rfl)) H6.out.1)
          clear HOK h0 HIX HHH H6
          rw [show (((0 : Nat) : Int)) = 0 from rfl] at hx
          go_wp2_with fail
          go_roundw
          case rel => exact ⟨k + 1, by go_num, by omega, H7⟩
          case measure => simp [intOf]; omega
        · have hfnd := HHH.out.1 (by rw [HOK.out]; exact decide_eq_true (Nat.pos_of_ne_zero h0))
          have HFND : Hid (ffO m s p = some f) := Lib.hid hfnd
          clear hfnd
          have e0 : (0 : Int) < ((tl m (bhF s f) q : Nat) : Int) := by omega
          generalize tl m (bhF s f) q = X at *
          clear HOK h0 HIX HHH
          obtain ⟨d0, d1, d2, -, -, -⟩ := H6.out.2.three
          obtain ⟨r0, r1, r2, t0, t1, t2⟩ := H6.out.1.res.three
          have hR := H6.out.1.putRes (.int .i64 x) (.int .i64 y) (.int .i64 z)
          have HR := Lib.hid (And.intro hR (H6.out.1.res)); clear hR H6
          go_wp2_with fail
          have hz6 : (((w6.setCell ⟨w.heap.size + 1, 0, none⟩ (.int .i64 x)).setCell ⟨w.heap.size + 1, 1, none⟩ (.int .i64 y)).setCell ⟨w.heap.size + 1, 2, none⟩ (.int .i64 z)).heap[w.heap.size + 1]? = some (.cells #[.int .i64 x, .int .i64 y, .int .i64 z] 69 (0, 0)) := by
            have h1 := ((HR.out.2.put 0 (.int .i64 x)).put 1 (.int .i64 y)).put 2 (.int .i64 z)
            exact h1
          have k0 := cell_of_row _ (w.heap.size + 1) 0 _ _ _ hz6
          have k1 := cell_of_row _ (w.heap.size + 1) 1 _ _ _ hz6
          have k2 := cell_of_row _ (w.heap.size + 1) 2 _ _ _ hz6
          refine bodyPost_ret (v := .tuple #[.agg #[.int .i64 x, .int .i64 y, .int .i64 z], .bool true]) (by simp [results, Try.results41, go_sem, k0, k1, k2]) rfl ⟨by rw [HFND.out]; show _ = Ending.returned (.tuple #[frV (bsI f), .bool true]); rw [HFV.out], HR.out.1.1.mono (by rw [← HLL.out]; rw [Nat.succ_mul]; omega), HR.out.1.2⟩
      · have ew : IntKind.i64.wrap ((p : Int) - (P : Int)) = (p : Int) - (P : Int) := by rw [IntKind.wrap_i64]; omega
        have q0 : (p : Int) - (P : Int) < 0 := by omega
        have H7 : Hid ((∀ j, j < k + 1 → okFf m s p ((frs m).getD j []) = false) ∧ FfW w M o1 o2 b gf ((frs m).map bsI) (n + (k + 1) * newB m) w4) := Lib.hid ⟨HHH.out.2.1 (by unfold okFf; rw [← HPP.out, decide_eq_false hle]; rfl), by
          have h := H4.out.1
          exact h.keep (grown_of_below (Below.refl _ _) _) (h.book.mono (by rw [Nat.succ_mul]; omega))⟩
        clear hle H4 HHH
        go_wp2_with fail
        go_roundw
        case rel => exact ⟨k + 1, by go_num, by omega, H7⟩
        case measure => simp [intOf]; omega
    · obtain rfl : L = k := by omega
      have HNO : Hid (ffO m s p = none) := Lib.hid (find_no (d := []) (fun j hj => hH.out.1 j (by rw [HLL.out]; exact hj)))
      obtain ⟨r0, r1, r2, t0, t1, t2⟩ := hH.out.2.res.three
      have hR := hH.out.2.putRes (.int .i64 0) (.int .i64 0) (.int .i64 0)
      have HR := Lib.hid (And.intro hR (hH.out.2.res)); clear hR hH
      clear c0 c1 c2 c3
      go_wp2_with fail
      have hz6 : (((wr.setCell ⟨w.heap.size + 1, 0, none⟩ (.int .i64 0)).setCell ⟨w.heap.size + 1, 1, none⟩ (.int .i64 0)).setCell ⟨w.heap.size + 1, 2, none⟩ (.int .i64 0)).heap[w.heap.size + 1]? = some (.cells #[.int .i64 0, .int .i64 0, .int .i64 0] 69 (0, 0)) := by
        have h1 := ((HR.out.2.put 0 (.int .i64 0)).put 1 (.int .i64 0)).put 2 (.int .i64 0)
        exact h1
      have k0 := cell_of_row _ (w.heap.size + 1) 0 _ _ _ hz6
      have k1 := cell_of_row _ (w.heap.size + 1) 1 _ _ _ hz6
      have k2 := cell_of_row _ (w.heap.size + 1) 2 _ _ _ hz6
      refine bodyPost_ret (v := .tuple #[.agg #[.int .i64 0, .int .i64 0, .int .i64 0], .bool false]) (by simp [results, Try.results41, go_sem, k0, k1, k2]) rfl ⟨by rw [HNO.out]; rfl, by rw [← HLL.out]; exact HR.out.1.1, HR.out.1.2⟩
end Go.Proofs.Ythbkclgdoopbpaa
