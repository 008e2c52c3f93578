/-
  Pins: the model's totals of games that begin with rolls.
-/
import Derived.Test.YthbkclgdoopbpaaPtWy
namespace Go.Proofs.Ythbkclgdoopbpaa
open Go.RowKit
set_option linter.unusedVariables false
set_option linter.unusedSimpArgs false

/-- The state behind frames, and what they add. -/
def fsG (L : List (List Int)) : Nat × Nat := L.foldl (fun x f => (bhF x.1 (toN f), x.2 + ptsF x.1 (toN f))) (0, 0)
theorem fsG_snoc (L : List (List Int)) (f : List Int) : fsG (L ++ [f]) = (bhF (fsG L).1 (toN f), (fsG L).2 + ptsF (fsG L).1 (toN f)) := by simp [fsG]
theorem fsG_le (L : List (List Int)) : (fsG L).1 ≤ 3 := by
  rcases List.eq_nil_or_concat L with rfl | ⟨M, f, rfl⟩
  · simp [fsG]
  · rw [List.concat_eq_append, fsG_snoc]; exact bhF_le _ _
def sumS (g : St) : Nat := (fsG g.1).2 + ptsF (fsG g.1).1 (toN g.2)
def twoB (s : Nat) (bs : List Int) : Nat := if bs.length = 0 then twoT s else 1
/-- The ways from a place. -/
def valS (F : Nat) (g : St) (n : Nat) : Nat := if overG F g then tl 0 0 n else wyI (F - 1 - g.1.length) (fsG g.1).1 g.2 (n + ptsF (fsG g.1).1 (toN g.2))
/-- What comes next to count. -/
def nextO (F : Nat) (g : St) (p : Int) : Nat := twoB (fsG g.1).1 g.2 + (if g.1.length + 1 < F ∧ ((g.2.length = 0 ∧ p = 10) ∨ (g.2.length = 1 ∧ p = leftP g.2)) then 1 else 0)
def nextT (F : Nat) (g : St) (p : Int) : Nat := 1 + (if g.1.length + 1 < F ∧ g.2.length = 0 ∧ p = 10 then 1 else 0)
theorem sum_step {F : Nat} {g : St} (k : Nat) (hi : InvG F g) (ho : overG F g = false) (hk : (k : Int) ≤ leftP g.2) : sumS (stepG F g (k : Int)) = sumS g + k * oneB (fsG g.1).1 g.2 := by
  have hl := open_len (inv_open hi ho)
  unfold sumS
  cases he : endedF (lastG F g) (g.2 ++ [(k : Int)])
  · have hg' : stepG F g k = (g.1, g.2 ++ [(k : Int)]) := by unfold stepG; rw [he]; rfl
    rw [hg']; simp only
    rw [pts_next _ hl k]; omega
  · have hg' : stepG F g k = (g.1 ++ [g.2 ++ [(k : Int)]], []) := by unfold stepG; rw [he]; rfl
    rw [hg']; simp only
    rw [fsG_snoc, pts_next _ hl k]
    simp [toN, ptsF]; omega
theorem next_step {F : Nat} {g : St} (k : Nat) (hi : InvG F g) (ho : overG F g = false) (hk : (k : Int) ≤ leftP g.2) (ho2 : overG F (stepG F g (k : Int)) = false) :
    nextO F g k = oneB (fsG (stepG F g (k : Int)).1).1 (stepG F g (k : Int)).2 ∧ nextT F g k = twoB (fsG (stepG F g (k : Int)).1).1 (stepG F g (k : Int)).2 := by
  have hop := inv_open hi ho
  have hlt := over_false hi ho
  cases he : endedF (lastG F g) (g.2 ++ [(k : Int)])
  · have hg' : stepG F g k = (g.1, g.2 ++ [(k : Int)]) := by unfold stepG; rw [he]; rfl
    have hop2 := step_open hop (Int.natCast_nonneg k) hk he
    rw [hg']; simp only
    have hl := open_len hop2
    unfold nextO nextT oneB twoB
    match hb : g.2, hl, hop, hop2 with
    | [], _, _, h2 =>
      have h3 := h2.2
      by_cases hlg : lastG F g = true
      · have : ¬ (g.1.length + 1 < F) := by simp [lastG] at hlg; omega
        simp [this]
      · have hf : lastG F g = false := by simpa using hlg
        rw [hf] at h3
        have h3' : (k : Int) < 10 := by simpa using h3
        have : ¬ ((k : Int) = 10) := by omega
        simp [this]
    | [x], _, _, h2 =>
      have hlg : lastG F g = true := h2.1
      have : ¬ (g.1.length + 1 < F) := by simp [lastG] at hlg; omega
      simp [this]
    | x :: y :: t, hl, _, _ => simp at hl
  · have hg' : stepG F g k = (g.1 ++ [g.2 ++ [(k : Int)]], []) := by unfold stepG; rw [he]; rfl
    have hend := step_end hop (Int.natCast_nonneg k) hk he
    rw [hg'] at ho2 ⊢
    simp only
    have hlt2 : g.1.length + 1 < F := by simp [overG] at ho2; omega
    have hlg : lastG F g = false := by simp [lastG]; omega
    rw [hlg] at hend hop
    rw [fsG_snoc]
    unfold nextO nextT oneB twoB
    match hb : g.2, hop, hend with
    | [], _, h2 =>
      have h3 : (k : Int) = 10 := h2.2
      have hk10 : k = 10 := by omega
      subst hk10
      obtain ⟨e1, e2, e3⟩ := bh_strike (fsG g.1).1
      simp [hlt2, toN]
      rw [e1, e2, e3]
      exact ⟨by omega, rfl⟩
    | [x], h1, h2 =>
      have hx : 0 ≤ x ∧ x < 10 := ⟨h1.1, by simpa using h1.2⟩
      have hlp : leftP [x] = 10 - x := by unfold leftP; simp; omega
      have hbh : bhF (fsG g.1).1 (toN ([x] ++ [(k : Int)])) = if (k : Int) = 10 - x then 1 else 0 := by
        unfold bhF toN
        rw [if_neg (by simp)]
        by_cases hq : (k : Int) = 10 - x
        · rw [if_pos hq, if_pos ⟨by simp; omega, by simp; omega⟩]
        · rw [if_neg hq, if_neg (fun q => hq (by have := q.2; simp at this; omega))]
      rw [hbh, hlp]
      by_cases hq : (k : Int) = 10 - x
      · rw [if_pos hq]; simp [hlt2, hq, oneT, twoT]
      · rw [if_neg hq]; simp [hlt2, hq, oneT, twoT]
    | [x, y], h1, _ => have := h1.1; cases this

theorem game_at {F : Nat} : ∀ (rolls : List Int) (s gE : St) (k : Nat) (g : St), gameG F s rolls = some gE → k < rolls.length → gameG F s (rolls.take k) = some g → fitsG F g (rolls.getD k 0) = true ∧ gameG F s (rolls.take (k + 1)) = some (stepG F g (rolls.getD k 0))
  | [], _, _, k, _, _, hk, _ => by simp at hk
  | p :: l, s, gE, k, g, h, hk, hg => by
    by_cases hf : fitsG F s p = true
    · simp only [gameG, hf, if_true] at h
      cases k with
      | zero =>
        simp [gameG] at hg
        subst hg
        simp [gameG, hf]
      | succ k =>
        simp only [List.take_succ_cons, gameG, hf, if_true] at hg ⊢
        exact game_at l _ gE k g h (by simpa using hk) hg
    · simp [gameG, hf] at h
theorem heap_put4' (wr : World) (g : Nat) (x0 x1 x2 x3 : Value) {k : Nat} (hk : k ≠ g) : ((((wr.setCell ⟨g, 0, none⟩ x0).setCell ⟨g, 1, none⟩ x1).setCell ⟨g, 2, none⟩ x2).setCell ⟨g, 3, none⟩ x3).heap[k]? = wr.heap[k]? := by
  rw [heap_setCell_other _ _ k _ (by simp only; omega), heap_setCell_other _ _ k _ (by simp only; omega), heap_setCell_other _ _ k _ (by simp only; omega), heap_setCell_other _ _ k _ (by simp only; omega)]
/-- The place in its box. -/
def PlW (F : Nat) (g : St) (ab : Option Addr) (cb g7 : Nat) (w wr : World) : Prop := ObAt wr g7 65 #[.int .i64 (frA F g), .slice ab (bsA F g).length cb, .int .i64 (stA F g), .bool (overG F g)] ∧ Reads wr ab (ints (bsA F g)) ∧ (∀ b off, ab = some ⟨b, off, none⟩ → b ≠ g7) ∧ w.heap.size ≤ g7 ∧ Below w.heap.size w wr
theorem PlW.put {F : Nat} {g g' : St} {ab ab' : Option Addr} {cb cb' g7 : Nat} {w wr w1 : World} (h : PlW F g ab cb g7 w wr) (hr : Reads w1 ab' (ints (bsA F g'))) (hnew : ∀ b off, ab' = some ⟨b, off, none⟩ → wr.heap.size ≤ b) (hb : Below wr.heap.size wr w1) :
    PlW F g' ab' cb' g7 w ((((w1.setCell ⟨g7, 0, none⟩ (.int .i64 (frA F g'))).setCell ⟨g7, 1, none⟩ (.slice ab' (bsA F g').length cb')).setCell ⟨g7, 2, none⟩ (.int .i64 (stA F g'))).setCell ⟨g7, 3, none⟩ (.bool (overG F g'))) := by
  obtain ⟨h1, h2, h3, h4, h5⟩ := h
  have hne : ∀ b off, ab' = some ⟨b, off, none⟩ → b ≠ g7 := fun b off e => by have := hnew b off e; have := h1.lt; omega
  refine ⟨?_, reads_other hr hne (fun k hk => heap_put4' _ _ _ _ _ _ hk) (by simp), hne, h4, ((((h5.trans (hb.mono h5.size)).setCell (p := ⟨g7, 0, none⟩) h4 _).setCell (p := ⟨g7, 1, none⟩) h4 _).setCell (p := ⟨g7, 2, none⟩) h4 _).setCell (p := ⟨g7, 3, none⟩) h4 _⟩
  have := ((((h1.keep hb).put 0 (.int .i64 (frA F g'))).put 1 (.slice ab' (bsA F g').length cb')).put 2 (.int .i64 (stA F g'))).put 3 (.bool (overG F g'))
  exact this
def FoW (F : Nat) (rolls : List Int) (w : World) (g7 k S o t : Nat) (wr : World) : Prop :=
  ∃ g ab cb, gameG F ([], []) (rolls.take k) = some g ∧ InvG F g ∧ PlW F g ab cb g7 w wr ∧ S = sumS g ∧ (overG F g = false → o = oneB (fsG g.1).1 g.2 ∧ t = twoB (fsG g.1).1 g.2) ∧ o ≤ 3 ∧ t ≤ 3

theorem wy_bd {m s : Nat} (hm : m + 1 ≤ 10) {bs : List Int} (h : openB (decide (m = 0)) bs) (n : Nat) : wyI m s bs n ≤ 5800000000000000000 := by
  have h0 : wyI m s [] n ≤ 5800000000000000000 := by
    rw [wyI_nil]; exact Nat.le_trans (tl_big _ _ _) (bigT_le hm)
  have one : ∀ x : Int, 0 ≤ x → x ≤ 10 → wyI m s [x] n ≤ 5800000000000000000 := fun x hx0 hx1 => by
    obtain ⟨k, rfl⟩ : ∃ k : Nat, x = (k : Int) := ⟨x.toNat, by omega⟩
    have := wyI_le (m := m) (s := s) (bs := []) (by trivial) (k := k) (by show (k : Int) ≤ 10; exact hx1) n
    simp at this; omega
  match bs, h with
  | [], _ => exact h0
  | [x], h => exact one x h.1 (by have := h.2; split at this <;> omega)
  | [x, y], h =>
    obtain ⟨hl, h1, h2, h3, h4, h5⟩ := h
    obtain ⟨k, rfl⟩ : ∃ k : Nat, y = (k : Int) := ⟨y.toNat, by omega⟩
    have hlp : leftP [x] = 10 - x % 10 := by unfold leftP; simp
    have := wyI_le (m := m) (s := s) (bs := [x]) (by rw [hl]; exact ⟨h1, h2⟩) (k := k) (by rw [hlp]; omega) n
    have h6 := one x h1 h2
    simp at this; omega
/-- The ways from any place. -/
theorem ways_any (F : Nat) (hF1 : 1 ≤ F) (hF2 : F ≤ 10) (g : St) (hi : InvG F g) (o t : Nat) (hot : overG F g = false → o = oneB (fsG g.1).1 g.2 ∧ t = twoB (fsG g.1).1 g.2) (v : Value) (wk : World) (ab : Option Addr) (cb : Nat) (w : World) (hr : Reads w ab (ints (bsA F g))) (ht : TabLow wk F v w) :
    Calls Try.prog 64 #[.int .i64 F, v, .agg #[.int .i64 (frA F g), .slice ab (bsA F g).length cb, .int .i64 (stA F g), .bool (overG F g)], .int .i64 o, .int .i64 t] w (WayR wk (valS F g) w) := by
  cases hov : overG F g
  · obtain ⟨rfl, rfl⟩ := hot hov
    have hlt := over_false hi hov
    have f1 : frA F g = g.1.length := by unfold frA; rw [hov]; rfl
    have f2 : bsA F g = g.2 := by unfold bsA; rw [hov]; rfl
    have hs := fsG_le g.1
    obtain ⟨m, hm⟩ : ∃ m, g.1.length + m + 1 = F := ⟨F - 1 - g.1.length, by omega⟩
    have hlg : lastG F g = decide (m = 0) := by unfold lastG; by_cases h : m = 0 <;> simp [h] <;> omega
    have hop := inv_open hi hov
    rw [hlg] at hop
    rw [f2] at hr
    rw [f1, f2, stA_open hov]
    have hv : valS F g = fun n => wyI m (fsG g.1).1 g.2 (n + ptsF (fsG g.1).1 (toN g.2)) := by
      funext n; unfold valS; rw [hov, show F - 1 - g.1.length = m by omega]; rfl
    by_cases hne : g.2 = []
    · have hv2 : valS F g = tl (F - g.1.length) (fsG g.1).1 := by
        rw [hv, hne]; funext n
        rw [wyI_nil, show F - g.1.length = m + 1 by omega, show n + ptsF (fsG g.1).1 (toN []) = n by simp [toN, ptsF]]
      rw [hv2, hne]
      exact boWays_begin F g.1.length (fsG g.1).1 hF2 hlt hs v ab cb (leftP []) wk w ht
    · rw [hv]
      have h2 : twoB (fsG g.1).1 g.2 = 1 := by unfold twoB; rw [if_neg (by simpa using hne)]
      rw [h2]
      exact boWays_mid F m (fsG g.1).1 hF1 hF2 hs v wk 3 g hi hov hne hm (by omega) (fun n => wy_bd (by omega) hop n) ab cb w hr ht
  · have hv : valS F g = tl 0 0 := by funext n; unfold valS; rw [hov]; rfl
    rw [hv]
    exact boWays_over F v _ _ _ _ _ wk w
theorem val_bd (F : Nat) (hF1 : 1 ≤ F) (hF2 : F ≤ 10) (g : St) (hi : InvG F g) (n : Nat) : valS F g n ≤ 5800000000000000000 := by
  unfold valS
  cases hov : overG F g
  · have hlt := over_false hi hov
    obtain ⟨m, hm⟩ : ∃ m, g.1.length + m + 1 = F := ⟨F - 1 - g.1.length, by omega⟩
    have hlg : lastG F g = decide (m = 0) := by unfold lastG; by_cases h : m = 0 <;> simp [h] <;> omega
    have hop := inv_open hi hov
    rw [hlg] at hop
    rw [show F - 1 - g.1.length = m by omega]
    exact wy_bd (by omega) hop _
  · simp only [if_true]
    unfold tl; split <;> omega

set_option maxRecDepth 100000 in
set_option maxHeartbeats 25600000 in
theorem boFrom_any (F : Nat) (hF1 : 1 ≤ F) (hF2 : F ≤ 10) (rolls : List Int) (gE : St) (hgm : gameG F ([], []) rolls = some gE) (hl : rolls.length ≤ 30) (v : Value) (gr cr : Nat) (w : World) (ht : TabAt w F v) (hc : ∀ j, j < rolls.length → w.cell? ⟨gr, j, none⟩ = some (.int .i64 (rolls.getD j 0))) :
    Calls Try.prog 32 #[.int .i64 F, v, .slice (some ⟨gr, 0, none⟩) rolls.length cr] w fun e w' => ∃ g, e = .returned (.slice (some ⟨g, 0, none⟩) 301 301) ∧ RowAt w' g 3 (rowN301 (addS (fun _ => 0) (valS F gE) (sumS gE))) ∧ Below w.heap.size w w' := by
  obtain ⟨i1, j1, jz0, jz1, jz2⟩ := info_parts infoIntT
  have HJ := Lib.hid (And.intro j1 (And.intro jz0 (And.intro jz1 jz2))); clear j1 jz0 jz1 jz2
  have HC := Lib.hid (fun (wr : World) (hb : Below w.heap.size w wr) j (hj : j < rolls.length) => (show wr.cell? ⟨gr, j, none⟩ = some (.int .i64 (rolls.getD j 0)) by rw [hb.cell (World.block_lt_of_cell? _ ⟨gr, j, none⟩ (hc j hj))]; exact hc j hj))
  have HT := Lib.hid ht
  have HGM := Lib.hid hgm
  clear hc ht hgm
  obtain ⟨n, hn⟩ : ∃ n, n = rolls.length := ⟨_, rfl⟩
  rw [← hn] at hl ⊢
  have HN := Lib.hid hn; clear hn
  go_enter Try.func32, Try.ntmps32
  go_wp2_with fail
  refine (boStart_q _).mono ?_; rintro e w1 ⟨rfl, b1⟩
  have H1 : Hid (FoW F rolls w w1.heap.size 0 0 1 1 (w1.alloc (.cells #[.int .i64 0, .slice none 0 0, .int .i64 10, .bool false] 65))) := Lib.hid (by
    have ho : overG F ([], []) = false := by simp [overG]; omega
    have f1 : frA F ([], []) = 0 := by unfold frA; rw [ho]; rfl
    have f2 : bsA F ([], []) = [] := by unfold bsA; rw [ho]; rfl
    refine ⟨([], []), none, 0, by simp [gameG], inv_start hF1, ⟨?_, ?_, (fun b off e => by cases e), b1.size, b1.alloc b1.size _⟩, by simp [sumS, fsG, toN, ptsF], (fun _ => by simp [oneB, twoB, fsG, oneT, twoT]), by omega, by omega⟩
    · rw [f1, f2, stA_open ho, ho]
      exact ObAt.new w1 _ _
    · rw [f2]; exact .inl rfl)
  clear b1
  go_upto_region 4 with fail
  generalize (w1.alloc (.cells #[.int .i64 0, .slice none 0 0, .int .i64 10, .bool false] 65)) = W2 at *
  generalize w1.heap.size = g7 at *
  go_loopw [19, 8, 9, 10] (fun i sv ov tv wr => ∃ k S o t : Nat, i = .int .i64 k ∧ sv = .int .i64 S ∧ ov = .int .i64 o ∧ tv = .int .i64 t ∧ k ≤ n ∧ S ≤ 30 * k ∧ Hid (FoW F rolls w g7 k S o t wr)) (fun i _ _ _ _ => n - (intOf i).toNat)
  case atStart => exact ⟨0, 0, 1, 1, rfl, rfl, rfl, rfl, Nat.zero_le _, Nat.le_refl _, H1⟩
  case round =>
    clear H1
    obtain ⟨k, S, o, t, rfl, rfl, rfl, rfl, hk, hS, hH⟩ := hrel
    obtain ⟨g, ab, cb, hg, hi, hpl, hSS, hot, ho3, ht3⟩ := hH.out
    clear hH
    by_cases hlt : k < n
    · have b1 : (k : Int) < (n : Int) := by omega
      have hkr : k < rolls.length := by rw [← HN.out]; exact hlt
      obtain ⟨hfit, hnx⟩ := game_at rolls _ gE k g HGM.out hkr hg
      have d0 := HC.out wr hpl.2.2.2.2 k hkr
      obtain ⟨hov, hp0, hp1⟩ := fits_parts hfit
      obtain ⟨kp, hkp⟩ : ∃ kp : Nat, rolls.getD k 0 = (kp : Int) := ⟨(rolls.getD k 0).toNat, by omega⟩
      rw [hkp] at d0 hfit hnx hp1
      obtain ⟨eo, et⟩ := hot hov
      have hop := inv_open hi hov
      have hl2 := open_len hop
      have hlq := leftP_bd g.2
      have hstep := next_step kp hi hov hp1
      have hsum := sum_step kp hi hov hp1
      rw [← hSS, ← eo] at hsum
      have f1 : frA F g = g.1.length := by unfold frA; rw [hov]; rfl
      have f2 : bsA F g = g.2 := by unfold bsA; rw [hov]; rfl
      have hi2 := inv_step hi hfit
      have HNEXT : Hid (∀ {o' t' : Nat}, (overG F (stepG F g (kp : Int)) = false → o' = nextO F g kp ∧ t' = nextT F g kp) → o' ≤ 3 → t' ≤ 3 → ∀ ab' cb' w1, ObAt w1 g7 65 #[.int .i64 g.1.length, .slice ab g.2.length cb, .int .i64 (leftP g.2), .bool false] → Reads w1 ab' (ints (bsA F (stepG F g (kp : Int)))) → (∀ b off, ab' = some ⟨b, off, none⟩ → wr.heap.size ≤ b) → Below wr.heap.size wr w1 →
          FoW F rolls w g7 (k + 1) (S + kp * o) o' t' ((((w1.setCell ⟨g7, 0, none⟩ (.int .i64 (frA F (stepG F g (kp : Int))))).setCell ⟨g7, 1, none⟩ (.slice ab' (bsA F (stepG F g (kp : Int))).length cb')).setCell ⟨g7, 2, none⟩ (.int .i64 (stA F (stepG F g (kp : Int))))).setCell ⟨g7, 3, none⟩ (.bool (overG F (stepG F g (kp : Int)))))) := Lib.hid (fun hn h3 h4 ab' cb' w1 _ hr hnew hb => ⟨_, ab', cb', hnx, hi2, hpl.put hr hnew hb, hsum.symm, fun z => by
          obtain ⟨q1, q2⟩ := hn z
          obtain ⟨q3, q4⟩ := hstep z
          exact ⟨q1.trans q3, q2.trans q4⟩, h3, h4⟩)
      have hob := hpl.1
      rw [f1, f2, stA_open hov, hov] at hob
      have hrd := hpl.2.1
      rw [f2] at hrd
      have HRO := Lib.hid (roll_any F hF1 hF2 g (kp : Int) hi hfit ab cb wr hrd)
      have HG := Lib.hid (And.intro hpl hob)
      obtain ⟨c0, c1, c2, c3, -, -, -, -⟩ := hob.four
      have hlen : g.1.length + 1 < F → g.2.length ≤ 1 := fun h => by
        have hlg : lastG F g = false := by simp [lastG]; omega
        rw [hlg] at hop
        match hb : g.2, hop with
        | [], _ => simp
        | [x], _ => simp
        | [x, y], h => have := h.1; cases this
      have hnO : nextO F g kp = t + (if g.1.length + 1 < F ∧ ((g.2.length = 0 ∧ (kp : Int) = 10) ∨ (g.2.length = 1 ∧ (kp : Int) = leftP g.2)) then 1 else 0) := by unfold nextO; rw [← et]
      have hnT : nextT F g kp = 1 + (if g.1.length + 1 < F ∧ g.2.length = 0 ∧ (kp : Int) = 10 then 1 else 0) := rfl
      have ht2 : t ≤ 2 := by rw [et]; unfold twoB; split <;> (try unfold twoT; split) <;> omega
      obtain ⟨Q, hQ⟩ : ∃ Q : Nat, leftP g.2 = (Q : Int) := ⟨(leftP g.2).toNat, by omega⟩
      obtain ⟨A, hA⟩ : ∃ A, A = g.1.length := ⟨_, rfl⟩
      obtain ⟨N, hN⟩ : ∃ N, N = g.2.length := ⟨_, rfl⟩
      rw [← hA] at c0 HRO HNEXT HG hlen hnO hnT
      rw [← hN] at c1 HRO HNEXT HG hlen hnO hnT
      rw [hQ] at c2 HRO HNEXT HG hnO
      have HNO := Lib.hid (And.intro hnO hnT)
      clear hnO hnT hfit hnx hov hop hl2 hstep hsum f1 f2 hi2 hpl hob hrd hg hi hSS hot hkr hp0 eo et hA hN hlq
      have hkp10 : kp ≤ 10 := by
        rw [hQ] at hp1
        have := (leftP_bd g.2).2
        omega
      clear hQ hkp hp1
      have e2 : kp * o ≤ 10 * 3 := Nat.mul_le_mul hkp10 ho3
      have e3 : ((kp * o : Nat) : Int) = (kp : Int) * (o : Int) := by push_cast; rfl
      have ew1 : IntKind.i64.wrap ((kp : Int) * (o : Int)) = ((kp * o : Nat) : Int) := by rw [IntKind.wrap_i64]; omega
      have ew2 : IntKind.i64.wrap ((S : Int) + ((kp * o : Nat) : Int)) = ((S + kp * o : Nat) : Int) := by rw [IntKind.wrap_i64]; push_cast; omega
      have ew3 : IntKind.i64.wrap ((F : Int) - 1) = (F : Int) - 1 := by rw [IntKind.wrap_i64]; omega
      have ew4 : IntKind.i64.wrap ((t : Int) + 1) = ((t + 1 : Nat) : Int) := by rw [IntKind.wrap_i64]; push_cast; omega
      clear e3
      by_cases hA1 : A + 1 < F
      · have q1 : (A : Int) < (F : Int) - 1 := by omega
        have hN1 := hlen hA1
        by_cases hN0 : N = 0
        · have qn0 : ((N : Int) == 0) = true := by rw [hN0]; rfl
          by_cases hk10 : kp = 10
          · have qk : ((kp : Int) == 10) = true := by rw [hk10]; rfl
            have HN1 : Hid (t + 1 = nextO F g kp ∧ 2 = nextT F g kp) := Lib.hid ⟨by rw [HNO.out.1, if_pos ⟨hA1, .inl ⟨hN0, by omega⟩⟩], by rw [HNO.out.2, if_pos ⟨hA1, hN0, by omega⟩]⟩
            clear hA1 hN0 hk10 hN1 hlen
            go_wp2_with fail
            refine HRO.out.mono ?_; rintro e w1 ⟨ab', cb', rfl, hr1, hnew, b5⟩
            have h7 := HG.out.2.keep b5
            obtain ⟨-, -, -, -, f0, f1, f2, f3⟩ := h7.four
            obtain ⟨g0, g1, g2, g3, -, -, -, -⟩ := h7.four
            have H8 : Hid (FoW F rolls w g7 (k + 1) (S + kp * o) (t + 1) (2) ((((w1.setCell ⟨g7, 0, none⟩ (.int .i64 (frA F (stepG F g (kp : Int))))).setCell ⟨g7, 1, none⟩ (.slice ab' (bsA F (stepG F g (kp : Int))).length cb')).setCell ⟨g7, 2, none⟩ (.int .i64 (stA F (stepG F g (kp : Int))))).setCell ⟨g7, 3, none⟩ (.bool (overG F (stepG F g (kp : Int)))))) := Lib.hid (HNEXT.out (fun _ => HN1.out) (by omega) (by omega) _ _ w1 h7 hr1 hnew b5)
            clear HRO HG HNEXT hr1 hnew b5 c0 c1 c2 c3 h7 HN1 HNO
            generalize (frA F (stepG F g (kp : Int)) : Nat) = fa at *
            generalize bsA F (stepG F g (kp : Int)) = bl at *
            generalize stA F (stepG F g (kp : Int)) = sta at *
            generalize overG F (stepG F g (kp : Int)) = ov at *
            go_wp2_with fail
            go_roundw
            case rel => exact ⟨k + 1, S + kp * o, (t + 1), (2), by go_num, rfl, rfl, rfl, by omega, by omega, H8⟩
            case measure => simp [intOf]; omega
          · have qk : ¬ ((kp : Int) = 10) := by omega
            have qn1 : ¬ ((N : Int) = 1) := by omega
            have HN1 : Hid (t = nextO F g kp ∧ 1 = nextT F g kp) := Lib.hid ⟨by rw [HNO.out.1, if_neg (fun z => z.2.elim (fun z => qk z.2) (fun z => by omega))]; rfl, by rw [HNO.out.2, if_neg (fun z => qk z.2.2)]⟩
            clear hA1 hN0 hk10 hN1 hlen
            go_wp2_with fail
            refine HRO.out.mono ?_; rintro e w1 ⟨ab', cb', rfl, hr1, hnew, b5⟩
            have h7 := HG.out.2.keep b5
            obtain ⟨-, -, -, -, f0, f1, f2, f3⟩ := h7.four
            obtain ⟨g0, g1, g2, g3, -, -, -, -⟩ := h7.four
            have H8 : Hid (FoW F rolls w g7 (k + 1) (S + kp * o) (t) (1) ((((w1.setCell ⟨g7, 0, none⟩ (.int .i64 (frA F (stepG F g (kp : Int))))).setCell ⟨g7, 1, none⟩ (.slice ab' (bsA F (stepG F g (kp : Int))).length cb')).setCell ⟨g7, 2, none⟩ (.int .i64 (stA F (stepG F g (kp : Int))))).setCell ⟨g7, 3, none⟩ (.bool (overG F (stepG F g (kp : Int)))))) := Lib.hid (HNEXT.out (fun _ => HN1.out) (by omega) (by omega) _ _ w1 h7 hr1 hnew b5)
            clear HRO HG HNEXT hr1 hnew b5 c0 c1 c2 c3 h7 HN1 HNO
            generalize (frA F (stepG F g (kp : Int)) : Nat) = fa at *
            generalize bsA F (stepG F g (kp : Int)) = bl at *
            generalize stA F (stepG F g (kp : Int)) = sta at *
            generalize overG F (stepG F g (kp : Int)) = ov at *
            go_wp2_with fail
            go_roundw
            case rel => exact ⟨k + 1, S + kp * o, (t), (1), by go_num, rfl, rfl, rfl, by omega, by omega, H8⟩
            case measure => simp [intOf]; omega
        · have qn0 : ¬ ((N : Int) = 0) := by omega
          have hNe : N = 1 := by omega
          have qn1 : ((N : Int) == 1) = true := by rw [hNe]; rfl
          by_cases hkQ : kp = Q
          · have qk : ((kp : Int) == (Q : Int)) = true := by rw [hkQ]; simp
            have HN1 : Hid (t + 1 = nextO F g kp ∧ 1 = nextT F g kp) := Lib.hid ⟨by rw [HNO.out.1, if_pos ⟨hA1, .inr ⟨hNe, by rw [hkQ]⟩⟩], by rw [HNO.out.2, if_neg (fun z => hN0 z.2.1)]⟩
            clear hA1 hN0 hkQ hN1 hNe hlen
            go_wp2_with fail
            refine HRO.out.mono ?_; rintro e w1 ⟨ab', cb', rfl, hr1, hnew, b5⟩
            have h7 := HG.out.2.keep b5
            obtain ⟨-, -, -, -, f0, f1, f2, f3⟩ := h7.four
            obtain ⟨g0, g1, g2, g3, -, -, -, -⟩ := h7.four
            have H8 : Hid (FoW F rolls w g7 (k + 1) (S + kp * o) (t + 1) (1) ((((w1.setCell ⟨g7, 0, none⟩ (.int .i64 (frA F (stepG F g (kp : Int))))).setCell ⟨g7, 1, none⟩ (.slice ab' (bsA F (stepG F g (kp : Int))).length cb')).setCell ⟨g7, 2, none⟩ (.int .i64 (stA F (stepG F g (kp : Int))))).setCell ⟨g7, 3, none⟩ (.bool (overG F (stepG F g (kp : Int)))))) := Lib.hid (HNEXT.out (fun _ => HN1.out) (by omega) (by omega) _ _ w1 h7 hr1 hnew b5)
            clear HRO HG HNEXT hr1 hnew b5 c0 c1 c2 c3 h7 HN1 HNO
            generalize (frA F (stepG F g (kp : Int)) : Nat) = fa at *
            generalize bsA F (stepG F g (kp : Int)) = bl at *
            generalize stA F (stepG F g (kp : Int)) = sta at *
            generalize overG F (stepG F g (kp : Int)) = ov at *
            go_wp2_with fail
            go_roundw
            case rel => exact ⟨k + 1, S + kp * o, (t + 1), (1), by go_num, rfl, rfl, rfl, by omega, by omega, H8⟩
            case measure => simp [intOf]; omega
          · have qk : ¬ ((kp : Int) = (Q : Int)) := by omega
            have HN1 : Hid (t = nextO F g kp ∧ 1 = nextT F g kp) := Lib.hid ⟨by rw [HNO.out.1, if_neg (fun z => z.2.elim (fun z => hN0 z.1) (fun z => qk z.2))]; rfl, by rw [HNO.out.2, if_neg (fun z => hN0 z.2.1)]⟩
            clear hA1 hN0 hkQ hN1 hNe hlen
            go_wp2_with fail
            refine HRO.out.mono ?_; rintro e w1 ⟨ab', cb', rfl, hr1, hnew, b5⟩
            have h7 := HG.out.2.keep b5
            obtain ⟨-, -, -, -, f0, f1, f2, f3⟩ := h7.four
            obtain ⟨g0, g1, g2, g3, -, -, -, -⟩ := h7.four
            have H8 : Hid (FoW F rolls w g7 (k + 1) (S + kp * o) (t) (1) ((((w1.setCell ⟨g7, 0, none⟩ (.int .i64 (frA F (stepG F g (kp : Int))))).setCell ⟨g7, 1, none⟩ (.slice ab' (bsA F (stepG F g (kp : Int))).length cb')).setCell ⟨g7, 2, none⟩ (.int .i64 (stA F (stepG F g (kp : Int))))).setCell ⟨g7, 3, none⟩ (.bool (overG F (stepG F g (kp : Int)))))) := Lib.hid (HNEXT.out (fun _ => HN1.out) (by omega) (by omega) _ _ w1 h7 hr1 hnew b5)
            clear HRO HG HNEXT hr1 hnew b5 c0 c1 c2 c3 h7 HN1 HNO
            generalize (frA F (stepG F g (kp : Int)) : Nat) = fa at *
            generalize bsA F (stepG F g (kp : Int)) = bl at *
            generalize stA F (stepG F g (kp : Int)) = sta at *
            generalize overG F (stepG F g (kp : Int)) = ov at *
            go_wp2_with fail
            go_roundw
            case rel => exact ⟨k + 1, S + kp * o, (t), (1), by go_num, rfl, rfl, rfl, by omega, by omega, H8⟩
            case measure => simp [intOf]; omega
      · have q1 : ¬ ((A : Int) < (F : Int) - 1) := by omega
        have HN1 : Hid (t = nextO F g kp ∧ 1 = nextT F g kp) := Lib.hid ⟨by rw [HNO.out.1, if_neg (fun z => hA1 z.1)]; rfl, by rw [HNO.out.2, if_neg (fun z => hA1 z.1)]⟩
        clear hA1 hlen
        go_wp2_with fail
        refine HRO.out.mono ?_; rintro e w1 ⟨ab', cb', rfl, hr1, hnew, b5⟩
        have h7 := HG.out.2.keep b5
        obtain ⟨-, -, -, -, f0, f1, f2, f3⟩ := h7.four
        obtain ⟨g0, g1, g2, g3, -, -, -, -⟩ := h7.four
        have H8 : Hid (FoW F rolls w g7 (k + 1) (S + kp * o) (t) (1) ((((w1.setCell ⟨g7, 0, none⟩ (.int .i64 (frA F (stepG F g (kp : Int))))).setCell ⟨g7, 1, none⟩ (.slice ab' (bsA F (stepG F g (kp : Int))).length cb')).setCell ⟨g7, 2, none⟩ (.int .i64 (stA F (stepG F g (kp : Int))))).setCell ⟨g7, 3, none⟩ (.bool (overG F (stepG F g (kp : Int)))))) := Lib.hid (HNEXT.out (fun _ => HN1.out) (by omega) (by omega) _ _ w1 h7 hr1 hnew b5)
        clear HRO HG HNEXT hr1 hnew b5 c0 c1 c2 c3 h7 HN1 HNO
        generalize (frA F (stepG F g (kp : Int)) : Nat) = fa at *
        generalize bsA F (stepG F g (kp : Int)) = bl at *
        generalize stA F (stepG F g (kp : Int)) = sta at *
        generalize overG F (stepG F g (kp : Int)) = ov at *
        go_wp2_with fail
        go_roundw
        case rel => exact ⟨k + 1, S + kp * o, (t), (1), by go_num, rfl, rfl, rfl, by omega, by omega, H8⟩
        case measure => simp [intOf]; omega
    · obtain rfl : k = n := by omega
      have hgE : g = gE := by
        rw [HN.out, List.take_length, HGM.out] at hg
        exact (Option.some.inj hg).symm
      subst hgE
      have HWY := Lib.hid (fun ab cb W hr ht => ways_any F hF1 hF2 g hi o t hot v w ab cb W hr ht)
      have HAD := Lib.hid (fun gt gf hne W q1 q2 => boAdd_any (fun _ => 0) (valS F g) S gt gf hne (by omega) (fun n => ⟨by omega, by
        have h1 := val_bd F hF1 hF2 g hi (n - S)
        unfold addS; simp only; split <;> omega⟩) W q1 q2)
      have HSS := Lib.hid hSS
      have HPL := Lib.hid hpl; clear hpl hot hi hg hSS
      go_wp2_with (at_make; refine wpList_make_full _ rfl _ _ _ rfl wr.heap.size _ i1 _ 1 Try.underlying25 HJ.out.1 HJ.out.2.1 HJ.out.2.2.1 .i64 .i64 _ _ 301 rfl rfl rfl rfl ?_ ?_ (Nat.le_refl _) ?_)
      · rw [HJ.out.2.2.2]; omega
      · unfold maxLen; omega
      intro w3 hown hgrow
      have hr := (RowAt.made (e := 3) hown).1
      have hbel : Below wr.heap.size wr w3 := (Below.refl _ _).grown hgrow (Nat.le_refl _) (fun k hk => by cases hk)
      have hsz := HPL.out.2.2.2.2.size
      have hbw := HPL.out.2.2.2.2.trans (hbel.mono hsz)
      obtain ⟨c0, c1, c2, c3, -, -, -, -⟩ := (HPL.out.1.keep hbel).four
      have H3 := Lib.hid (And.intro hr (And.intro hbw (And.intro (HPL.out.2.1.old hbel) hsz))); clear hr hbel hbw hown hgrow hsz
      obtain ⟨gx, hgx⟩ : ∃ gx, gx = wr.heap.size := ⟨_, rfl⟩
      have HGX : Hid (gx = wr.heap.size) := Lib.hid hgx
      rw [← hgx] at H3 ⊢
      clear hgx
      have hwy := HWY.out ab cb w3 H3.out.2.2.1 ⟨HT.out, H3.out.2.1⟩
      have HW2 := Lib.hid hwy; clear hwy
      clear HPL HWY
      generalize (frA F g : Nat) = fa at *
      generalize bsA F g = bl at *
      generalize stA F g = sta at *
      generalize overG F g = ov at *
      go_wp2_with fail
      refine HW2.out.mono ?_; rintro e w4 ⟨rr, rfl, hrow4, hsep, b4⟩
      have hne : gx ≠ rr := by
        have h2 := H3.out.2.2.2
        have h3 := H3.out.1.lt
        omega
      have H4 := Lib.hid (And.intro (HAD.out gx rr hne w4 (by rw [show rowN301 (fun _ => 0) = List.replicate 301 (0 : Int) from rowN301_zero (fun _ => rfl)]; exact H3.out.1.keep b4) hrow4) (And.intro (H3.out.2.1.trans (b4.mono H3.out.2.1.size)) H3.out.2.2.2)); clear hrow4 b4 H3 HW2 hsep hne c0 c1 c2 c3
      go_wp2_with fail
      refine H4.out.1.mono ?_; rintro e w5 ⟨rfl, hr5, ho5⟩
      have H5 := Lib.hid (And.intro hr5 (ho5.2.2 _ w H4.out.2.2 H4.out.2.1)); clear hr5 ho5 H4
      go_wp2_with fail
      go_ret
      exact ⟨gx, rfl, by rw [← HSS.out]; exact H5.out.1, H5.out.2⟩
end Go.Proofs.Ythbkclgdoopbpaa
