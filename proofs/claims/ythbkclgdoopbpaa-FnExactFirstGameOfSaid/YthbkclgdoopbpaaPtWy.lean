/-
  Pins: the model's ways from a place in a game.
-/
import Derived.Test.YthbkclgdoopbpaaPtGm
import Derived.Test.YthbkclgdoopbpaaPtSpec
import Derived.Test.YthbkclgdoopbpaaPnPlay
namespace Go.Proofs.Ythbkclgdoopbpaa
open Go.RowKit
set_option linter.unusedVariables false
set_option linter.unusedSimpArgs false

def WayR (wk : World) (fn : Nat → Nat) (w : World) (e : Ending) (w' : World) : Prop :=
  ∃ g, e = .returned (.slice (some ⟨g, 0, none⟩) 301 301) ∧ RowAt w' g 3 (rowN301 fn) ∧ (g < wk.heap.size ∨ w.heap.size ≤ g) ∧ Below w.heap.size w w'

set_option maxRecDepth 100000 in
set_option maxHeartbeats 3200000 in
theorem boWays_over (F : Int) (v bl : Value) (a st o1 o2 : Int) (wk w : World) :
    Calls Try.prog 64 #[.int .i64 F, v, .agg #[.int .i64 a, bl, .int .i64 st, .bool true], .int .i64 o1, .int .i64 o2] w (WayR wk (tl 0 0) w) := by
  obtain ⟨i1, j1, jz0, jz1, jz2⟩ := info_parts infoIntT
  have HJ := Lib.hid (And.intro j1 (And.intro jz0 (And.intro jz1 jz2))); clear j1 jz0 jz1 jz2
  have hb0 := below_newT w (.cells #[.int .i64 a, bl, .int .i64 st, .bool true] 65)
  have hc3 := (ObAt.new w 65 #[.int .i64 a, bl, .int .i64 st, .bool true]).four.2.2.2.1
  have HB := Lib.hid hb0; clear hb0
  go_enter Try.func64, Try.ntmps64
  go_upto_region 2 with fail
  generalize (w.alloc (.cells #[.int .i64 a, bl, .int .i64 st, .bool true] 65)) = W0 at *
  clear hc3
  go_wp2_with (at_make; refine wpList_make_full _ rfl _ _ _ rfl W0.heap.size _ i1 _ 1 Try.underlying25 HJ.out.1 HJ.out.2.1 HJ.out.2.2.1 .i64 .i64 _ _ 301 rfl rfl rfl rfl ?_ ?_ (Nat.le_refl _) ?_)
  · rw [HJ.out.2.2.2]; omega
  · unfold maxLen; omega
  intro w3 hown hgrow
  have hr := (RowAt.made (e := 3) hown).1
  have hbel : Below W0.heap.size W0 w3 := (Below.refl _ _).grown hgrow (Nat.le_refl _) (fun k hk => by cases hk)
  have hsz := HB.out.size
  have c0 := hr.cell (j := 0) (by simp)
  have f0 := hr.free 0
  have hp := hr.put (j := 0) (by simp) 1
  rw [show (List.replicate 301 (0 : Int)).set 0 1 = rowN301 (tl 0 0) from (rowM_first 301 _ rfl (fun i hi => by simp [tl, hi]) (by omega)).symm] at hp
  have H3 := Lib.hid (And.intro hp (And.intro (((HB.out.trans (hbel.mono hsz))).setCell (p := ⟨W0.heap.size, 0, none⟩) hsz (.int .i64 1)) hsz)); clear hr hbel hp hsz hown hgrow
  generalize W0.heap.size = g at *
  go_wp2_with fail
  go_ret
  exact ⟨g, rfl, H3.out.1, .inr H3.out.2.2, H3.out.2.1⟩

/-- The table as it was in wk. -/
def TabLow (wk : World) (F : Nat) (v : Value) (w : World) : Prop := TabAt wk F v ∧ Below wk.heap.size wk w
theorem TabLow.keep {wk : World} {F : Nat} {v : Value} {w w' : World} (h : TabLow wk F v w) (hb : Below w.heap.size w w') : TabLow wk F v w' := ⟨h.1, h.2.trans (hb.mono h.2.size)⟩
theorem oneT_state : ∀ s : Fin 4, (if oneT s.val - 1 = 0 then 0 else oneT s.val - 1 + (twoT s.val - 1)) = s.val := by decide
set_option maxRecDepth 100000 in
set_option maxHeartbeats 3200000 in
theorem boWays_begin (F a s : Nat) (hF2 : F ≤ 10) (haF : a < F) (hs : s ≤ 3) (v : Value) (ab : Option Addr) (cb : Nat) (st : Int) (wk w : World) (ht : TabLow wk F v w) :
    Calls Try.prog 64 #[.int .i64 F, v, .agg #[.int .i64 a, .slice ab 0 cb, .int .i64 st, .bool false], .int .i64 (oneT s), .int .i64 (twoT s)] w (WayR wk (tl (F - a) s) w) := by
  obtain ⟨⟨b, c, cur, rfl, hh, hall⟩, hbk⟩ := ht
  obtain ⟨m, hm⟩ : ∃ m, m = F - a := ⟨_, rfl⟩
  rw [← hm]
  obtain ⟨h, cS, r, hc, hst⟩ := hall m (by omega) (by omega)
  have h1 : w.cell? ⟨b, m, none⟩ = some (.slice (some ⟨h, 0, none⟩) 4 cS) := by
    rw [hbk.cell (World.block_lt_of_cell? _ ⟨b, m, none⟩ (show wk.cell? ⟨b, m, none⟩ = _ by rw [cell_of_row _ _ _ _ _ _ hh]; exact hc))]
    rw [cell_of_row _ _ _ _ _ _ hh]; exact hc
  have hstw := hst.keep hbk
  have c0 := hstw.cell hs
  have HROW := Lib.hid (And.intro (hstw.row hs) (hst.row hs).lt)
  have hz : b < w.heap.size := World.block_lt_of_cell? w ⟨b, m, none⟩ h1
  have hz2 := hstw.lt
  obtain ⟨s1, s2, s3, s4, -⟩ := st_bd s
  have hbs := fun W => boState_any (oneT s - 1) (twoT s - 1) W (by omega) (by omega)
  rw [oneT_state ⟨s, by omega⟩] at hbs
  have HBS := Lib.hid hbs; clear hbs
  have ew1 : IntKind.i64.wrap ((oneT s : Int) - 1) = ((oneT s - 1 : Nat) : Int) := by rw [IntKind.wrap_i64]; omega
  have ew2 : IntKind.i64.wrap ((twoT s : Int) - 1) = ((twoT s - 1 : Nat) : Int) := by rw [IntKind.wrap_i64]; omega
  have ew : IntKind.i64.wrap ((F : Int) - (a : Int)) = (m : Int) := by rw [IntKind.wrap_i64]; omega
  have b1 : (m : Int) < (F : Int) + 1 := by omega
  have b2 : (s : Int) < 4 := by omega
  have hn1 : b ≠ w.heap.size := by omega
  have hn2 : h ≠ w.heap.size := by omega
  clear hh hall hc hst hstw hbk hm s1 s2 s3 s4
  generalize oneT s - 1 = q1 at *
  generalize twoT s - 1 = q2 at *
  generalize oneT s = o1 at *
  generalize twoT s = o2 at *
  go_enter Try.func64, Try.ntmps64
  go_wp2_with fail
  go_quiet ((go_at_call 81; exact (HBS.out _).mono (fun _ _ h => ⟨h.1, _, h.2.symm⟩)))
  go_wp2_with fail
  go_ret
  have hb9 := belowN (below_newT w (.cells #[.int .i64 a, .slice ab 0 cb, .int .i64 st, .bool false] 65)) nq
  exact ⟨r s, rfl, HROW.out.1.keep hb9, .inl HROW.out.2, hb9⟩

/-- The sum under way, k balls of the next ones looked at. -/
def WyW (w : World) (gx : Nat) (a : Int) (bl : Value) (st : Int) (fn : Nat → Nat) (wr : World) : Prop := ObAt wr w.heap.size 65 #[.int .i64 a, bl, .int .i64 st, .bool false] ∧ RowAt wr gx 3 (rowN301 fn) ∧ w.heap.size < gx ∧ Below w.heap.size w wr
theorem wy_add (m s k : Nat) {bs : List Int} (hl : bs.length ≤ 2) : addS (fun n => wyK m s bs k (n + ptsF s (toN bs))) (fun n => wyI m s (bs ++ [(k : Int)]) (n + ptsF s (toN (bs ++ [(k : Int)])))) (k * oneB s bs) = fun n => wyK m s bs (k + 1) (n + ptsF s (toN bs)) := by
  funext n
  unfold addS
  rw [wyK_succ, pts_next s hl k]
  by_cases h : k * oneB s bs ≤ n
  · rw [if_pos h]
    simp only
    rw [show n - k * oneB s bs + (ptsF s (toN bs) + k * oneB s bs) = n + ptsF s (toN bs) by omega]
  · rw [if_neg h, wyI_small (by rw [pts_next s hl k]; omega)]
theorem oneB_bd (s : Nat) (bs : List Int) : 1 ≤ oneB s bs ∧ oneB s bs ≤ 3 := by
  obtain ⟨s1, s2, s3, s4, -⟩ := st_bd s
  unfold oneB
  split
  · omega
  · split <;> omega

/-- Behind one ball more: what is asked there. -/
theorem next_ways (F m s : Nat) (hF1 : 1 ≤ F) (hF2 : F ≤ 10) (hs : s ≤ 3) (g : St) (hi : InvG F g) (ho : overG F g = false) (hne : g.2 ≠ []) (hm : g.1.length + m + 1 = F) (k : Nat) (hk : (k : Int) ≤ leftP g.2) (v : Value) (wk : World) (fr : Nat) (hfr : fr = if m ≠ 0 ∧ (k : Int) = leftP g.2 then 2 else 1)
    (ih : ∀ g' : St, g'.1 = g.1 → g'.2 = g.2 ++ [(k : Int)] → InvG F g' → overG F g' = false → ∀ (aa : Option Addr) (c : Nat) (w : World), Reads w aa (ints g'.2) → TabLow wk F v w →
      Calls Try.prog 64 #[.int .i64 F, v, .agg #[.int .i64 g'.1.length, .slice aa g'.2.length c, .int .i64 (leftP g'.2), .bool false], .int .i64 (oneB s g'.2), .int .i64 1] w (WayR wk (fun n => wyI m s g'.2 (n + ptsF s (toN g'.2))) w))
    (aa : Option Addr) (c : Nat) (w : World) (hr : Reads w aa (ints (bsA F (stepG F g k)))) (ht : TabLow wk F v w) :
    Calls Try.prog 64 #[.int .i64 F, v, .agg #[.int .i64 (frA F (stepG F g k)), .slice aa (bsA F (stepG F g k)).length c, .int .i64 (stA F (stepG F g k)), .bool (overG F (stepG F g k))], .int .i64 fr, .int .i64 1] w (WayR wk (fun n => wyI m s (g.2 ++ [(k : Int)]) (n + ptsF s (toN (g.2 ++ [(k : Int)])))) w) := by
  have hlg : lastG F g = decide (m = 0) := by unfold lastG; by_cases h : m = 0 <;> simp [h] <;> omega
  have hop := inv_open hi ho
  rw [hlg] at hop
  have hfit : fitsG F g (k : Int) = true := by simp [fitsG, ho, hk]
  have hinv := inv_step hi hfit
  cases he : endedF (lastG F g) (g.2 ++ [(k : Int)])
  · have hg' : stepG F g k = (g.1, g.2 ++ [(k : Int)]) := by unfold stepG; rw [he]; rfl
    rw [hg'] at hr hinv ⊢
    have hov : overG F (g.1, g.2 ++ [(k : Int)]) = false := by simpa [overG] using ho
    have hop2 := step_open hop (Int.natCast_nonneg k) hk (by rw [← hlg]; exact he)
    have hm0 : m = 0 ∧ oneB s (g.2 ++ [(k : Int)]) = 1 := by
      cases hb : g.2 with
      | nil => exact absurd hb hne
      | cons x t =>
        rw [hb] at hop2 hop
        have hl := open_len hop2
        cases t with
        | nil =>
          have := hop2.1
          refine ⟨of_decide_eq_true this, ?_⟩
          simp [oneB]
        | cons y t => simp at hl
    have f1 : frA F (g.1, g.2 ++ [(k : Int)]) = g.1.length := by unfold frA; rw [hov]; rfl
    have f2 : bsA F (g.1, g.2 ++ [(k : Int)]) = g.2 ++ [(k : Int)] := by unfold bsA; rw [hov]; rfl
    rw [f2] at hr
    rw [f1, f2, stA_open hov, hov]
    have := ih (g.1, g.2 ++ [(k : Int)]) rfl rfl hinv hov aa c w hr ht
    rw [hm0.2] at this
    rw [hfr, if_neg (fun q => q.1 hm0.1)]
    exact this
  · have hg' : stepG F g k = (g.1 ++ [g.2 ++ [(k : Int)]], []) := by unfold stepG; rw [he]; rfl
    have hend := step_end hop (Int.natCast_nonneg k) hk (by rw [← hlg]; exact he)
    rw [wy_end hend]
    rw [hg'] at hr hinv ⊢
    by_cases hm0 : m = 0
    · have hov : overG F (g.1 ++ [g.2 ++ [(k : Int)]], []) = true := by simp [overG]; omega
      rw [hov, hm0]
      exact boWays_over F v _ _ _ _ _ wk w
    · have hov : overG F (g.1 ++ [g.2 ++ [(k : Int)]], []) = false := by simp [overG]; omega
      have f1 : frA F (g.1 ++ [g.2 ++ [(k : Int)]], []) = g.1.length + 1 := by unfold frA; rw [hov]; simp
      have f2 : bsA F (g.1 ++ [g.2 ++ [(k : Int)]], []) = [] := by unfold bsA; rw [hov]; rfl
      rw [f1, f2, hov]
      rw [decide_eq_false hm0] at hend hop
      have hx : ∃ x : Int, g.2 = [x] ∧ 0 ≤ x ∧ x < 10 := by
        match hb : g.2, hop, hne with
        | [], _, hn => exact absurd rfl hn
        | [x], h, _ => exact ⟨x, rfl, h.1, by simpa using h.2⟩
        | [x, y], h, _ => have := h.1; cases this
      obtain ⟨x, hb, hx0, hx1⟩ := hx
      have hlp : leftP g.2 = 10 - x := by rw [hb]; unfold leftP; simp; omega
      have hbh : bhF s (toN (g.2 ++ [(k : Int)])) = if (k : Int) = leftP g.2 then 1 else 0 := by
        rw [hlp, hb]
        unfold bhF toN
        rw [if_neg (by simp)]
        by_cases hq : (k : Int) = 10 - x
        · rw [if_pos hq, if_pos ⟨by simp; omega, by simp; omega⟩]
        · rw [if_neg hq, if_neg (fun q => hq (by have := q.2; simp at this; omega))]
      have h3 := bhF_le s (toN (g.2 ++ [(k : Int)]))
      have hcall := boWays_begin F (g.1.length + 1) (bhF s (toN (g.2 ++ [(k : Int)]))) hF2 (by omega) h3 v aa c (stA F (g.1 ++ [g.2 ++ [(k : Int)]], [])) wk w ht
      rw [show F - (g.1.length + 1) = m by omega] at hcall
      have e1 : (oneT (bhF s (toN (g.2 ++ [(k : Int)])))) = fr ∧ twoT (bhF s (toN (g.2 ++ [(k : Int)]))) = 1 := by
        rw [hbh, hfr]
        by_cases hq : (k : Int) = leftP g.2
        · rw [if_pos hq, if_pos ⟨hm0, hq⟩]; exact ⟨rfl, rfl⟩
        · rw [if_neg hq, if_neg (fun z => hq z.2)]; exact ⟨rfl, rfl⟩
      rw [e1.1, e1.2] at hcall
      exact hcall

set_option maxRecDepth 100000 in
set_option maxHeartbeats 12800000 in
theorem boWays_mid (F m s : Nat) (hF1 : 1 ≤ F) (hF2 : F ≤ 10) (hs : s ≤ 3) (v : Value) (wk : World) : ∀ (d : Nat) (g : St), InvG F g → overG F g = false → g.2 ≠ [] → g.1.length + m + 1 = F → 3 ≤ g.2.length + d → (∀ n, wyI m s g.2 n ≤ 5800000000000000000) →
    ∀ (aa : Option Addr) (c : Nat) (w : World), Reads w aa (ints g.2) → TabLow wk F v w →
      Calls Try.prog 64 #[.int .i64 F, v, .agg #[.int .i64 g.1.length, .slice aa g.2.length c, .int .i64 (leftP g.2), .bool false], .int .i64 (oneB s g.2), .int .i64 1] w (WayR wk (fun n => wyI m s g.2 (n + ptsF s (toN g.2))) w) := by
  intro d
  induction d with
  | zero =>
    intro g hi ho hne hm hd
    have := open_len (inv_open hi ho)
    omega
  | succ d ih =>
    intro g hi ho hne hm hd hbd aa c w hr ht
    have hlg : lastG F g = decide (m = 0) := by unfold lastG; by_cases h : m = 0 <;> simp [h] <;> omega
    have hop := inv_open hi ho
    have hl2 := open_len hop
    have hl1 : 1 ≤ g.2.length := List.length_pos_iff.2 hne
    rw [hlg] at hop
    have hlp := leftP_bd g.2
    obtain ⟨Q, hQ⟩ : ∃ Q : Nat, leftP g.2 = (Q : Int) := ⟨(leftP g.2).toNat, by omega⟩
    have HNX := Lib.hid (fun (k : Nat) (hk : (k : Int) ≤ leftP g.2) fr hfr aa c w hr ht => next_ways F m s hF1 hF2 hs g hi ho hne hm k hk v wk fr hfr (fun g' e1 e2 hi' ho' aa c w hr ht => ih g' hi' ho' (by rw [e2]; simp) (by rw [e1]; exact hm) (by rw [e2]; simp; omega) (fun n => by rw [e2]; exact Nat.le_trans (wyI_le hop hk n) (hbd n)) aa c w hr ht) aa c w hr ht)
    have HROLL := Lib.hid (fun (k : Nat) (hk : (k : Int) ≤ leftP g.2) w (hr : Reads w aa (ints g.2)) => roll_any F hF1 hF2 g (k : Int) hi (by simp [fitsG, ho, hk]) aa c w hr)
    have HAD := Lib.hid (fun (k : Nat) (hk : (k : Int) ≤ leftP g.2) gt gf hne w q1 q2 => boAdd_any (fun n => wyK m s g.2 k (n + ptsF s (toN g.2))) (fun n => wyI m s (g.2 ++ [(k : Int)]) (n + ptsF s (toN (g.2 ++ [(k : Int)])))) (k * oneB s g.2) gt gf hne (by
        have h1 := oneB_bd s g.2
        have h2 : k * oneB s g.2 ≤ 10 * 3 := Nat.mul_le_mul (by omega) h1.2
        omega) (fun n => by
        have h1 := wyK_le (s := s) hop (k := k) (by omega) (n + ptsF s (toN g.2))
        have h2 := wyK_le (s := s) hop (k := k + 1) (by push_cast; omega) (n + ptsF s (toN g.2))
        have h3 := hbd (n + ptsF s (toN g.2))
        rw [wy_add m s k hl2]
        exact ⟨by show wyK m s g.2 k (n + ptsF s (toN g.2)) ≤ _; omega, by show wyK m s g.2 (k + 1) (n + ptsF s (toN g.2)) ≤ _; omega⟩) w q1 q2)
    have HSUM := Lib.hid (fun (k : Nat) => wy_add m s k hl2)
    have HEND : Hid ((fun n => wyK m s g.2 (Q + 1) (n + ptsF s (toN g.2))) = fun n => wyI m s g.2 (n + ptsF s (toN g.2))) := Lib.hid (by
      funext n
      rw [wyI_open hop, show (leftP g.2 + 1).toNat = Q + 1 by omega])
    have HZ : Hid (rowN301 (fun n => wyK m s g.2 0 (n + ptsF s (toN g.2))) = List.replicate 301 0) := Lib.hid (rowN301_zero (fun _ => rfl))
    have HR := Lib.hid (And.intro hr ht)
    obtain ⟨o1, ho1⟩ : ∃ o1, o1 = oneB s g.2 := ⟨_, rfl⟩
    have ho1b := oneB_bd s g.2
    rw [← ho1] at ho1b HAD HSUM ⊢
    have hfr0 : (g.1.length : Int) < (F : Int) - 1 ↔ m ≠ 0 := by omega
    obtain ⟨A, hA⟩ : ∃ A, A = g.1.length := ⟨_, rfl⟩
    rw [← hA] at hfr0 hm HROLL ⊢
    obtain ⟨N, hN⟩ : ∃ N, N = g.2.length := ⟨_, rfl⟩
    rw [← hN] at hl1 hl2 HROLL ⊢
    rw [hQ] at hlp HNX HROLL HAD ⊢
    have HH := Lib.hid (And.intro hN (And.intro ho1 hA))
    clear hr ht hi ho hne hd hbd hlg hop hQ ih hN ho1 hA
    obtain ⟨i1, j1, jz0, jz1, jz2⟩ := info_parts infoIntT
    have HJ := Lib.hid (And.intro j1 (And.intro jz0 (And.intro jz1 jz2))); clear j1 jz0 jz1 jz2
    have HB := Lib.hid (below_newT w (.cells #[.int .i64 A, .slice aa N c, .int .i64 Q, .bool false] 65))
    have HO := Lib.hid (ObAt.new w 65 #[.int .i64 A, .slice aa N c, .int .i64 Q, .bool false])
    have hsz0 : w.heap.size < (w.alloc (.cells #[.int .i64 A, .slice aa N c, .int .i64 Q, .bool false] 65)).heap.size := by simp
    have hn0 : ¬ N = 0 := by omega
    have hn1 : ¬ (N : Int) = 0 := by omega
    go_enter Try.func64, Try.ntmps64
    go_upto_region 7 with fail
    generalize (w.alloc (.cells #[.int .i64 A, .slice aa N c, .int .i64 Q, .bool false] 65)) = W0 at *
    go_wp2_with (at_make; refine wpList_make_full _ rfl _ _ _ rfl W0.heap.size _ i1 _ 1 Try.underlying25 HJ.out.1 HJ.out.2.1 HJ.out.2.2.1 .i64 .i64 _ _ 301 rfl rfl rfl rfl ?_ ?_ (Nat.le_refl _) ?_)
    · rw [HJ.out.2.2.2]; omega
    · unfold maxLen; omega
    intro w3 hown hgrow
    have hrw := (RowAt.made (e := 3) hown).1
    have hbel : Below W0.heap.size W0 w3 := (Below.refl _ _).grown hgrow (Nat.le_refl _) (fun k hk => by cases hk)
    have H3 : Hid (WyW w W0.heap.size A (.slice aa N c) Q (fun n => wyK m s g.2 0 (n + ptsF s (toN g.2))) w3) := Lib.hid ⟨HO.out.keep hbel, by rw [HZ.out]; exact hrw, hsz0, HB.out.trans (hbel.mono HB.out.size)⟩
    clear hrw hbel hown hgrow HO HB HZ
    generalize W0.heap.size = gx at *
    go_wp2_with fail
    go_loopw [13] (fun i wr => ∃ k : Nat, i = .int .i64 k ∧ k ≤ Q + 1 ∧ Hid (WyW w gx A (.slice aa N c) Q (fun n => wyK m s g.2 k (n + ptsF s (toN g.2))) wr)) (fun i _ => Q + 1 - (intOf i).toNat)
    case atStart => exact ⟨0, rfl, Nat.zero_le _, H3⟩
    case round =>
      clear H3
      obtain ⟨k, rfl, hk, hH⟩ := hrel
      obtain ⟨c0, c1, c2, c3, -, -, -, -⟩ := hH.out.1.four
      by_cases hlt : k ≤ Q
      · have b1 : (k : Int) ≤ (Q : Int) := by omega
        have hrr := HR.out.1.old hH.out.2.2.2
        have hro := HROLL.out k b1 wr hrr
        have HRO := Lib.hid hro; clear hro hrr
        go_wp2_with fail
        refine HRO.out.mono ?_; rintro e w1 ⟨ab, cb, rfl, hr1, -, b5⟩
        have hnx := fun fr hfr W hr ht => HNX.out k b1 fr hfr ab cb W hr ht
        clear HRO c0 c1 c2 c3
        have h1 : WyW w gx A (.slice aa N c) Q (fun n => wyK m s g.2 k (n + ptsF s (toN g.2))) w1 := ⟨hH.out.1.keep b5, hH.out.2.1.keep b5, hH.out.2.2.1, hH.out.2.2.2.trans (b5.mono hH.out.2.2.2.size)⟩
        clear hH b5
        generalize (frA F (stepG F g (k : Int)) : Nat) = fa at *
        generalize bsA F (stepG F g (k : Int)) = bl at *
        generalize stA F (stepG F g (k : Int)) = sta at *
        generalize overG F (stepG F g (k : Int)) = ov at *
        have hw9 := below_newT w1 (.cells #[.int .i64 fa, .slice ab bl.length cb, .int .i64 sta, .bool ov] 65)
        have H6 : Hid (WyW w gx A (.slice aa N c) Q (fun n => wyK m s g.2 k (n + ptsF s (toN g.2))) (w1.alloc (.cells #[.int .i64 fa, .slice ab bl.length cb, .int .i64 sta, .bool ov] 65)) ∧ ObAt (w1.alloc (.cells #[.int .i64 fa, .slice ab bl.length cb, .int .i64 sta, .bool ov] 65)) w1.heap.size 65 #[.int .i64 fa, .slice ab bl.length cb, .int .i64 sta, .bool ov]) := Lib.hid ⟨⟨h1.1.keep hw9, h1.2.1.keep hw9, h1.2.2.1, h1.2.2.2.trans (hw9.mono h1.2.2.2.size)⟩, ObAt.new w1 _ _⟩
        have HC := Lib.hid (fun fr hfr => hnx fr hfr (w1.alloc (.cells #[.int .i64 fa, .slice ab bl.length cb, .int .i64 sta, .bool ov] 65)) (hr1.old hw9) (HR.out.2.keep H6.out.1.2.2.2))
        clear hnx h1 hw9 hr1
        go_upto_region 12 with fail
        generalize (w1.alloc (.cells #[.int .i64 fa, .slice ab bl.length cb, .int .i64 sta, .bool ov] 65)) = W1 at *
        generalize w1.heap.size = g9 at *
        obtain ⟨c0, c1, c2, c3, -, -, -, -⟩ := H6.out.1.1.four
        obtain ⟨d0, d1, d2, d3, -, -, -, -⟩ := H6.out.2.four
        have ewF : IntKind.i64.wrap ((F : Int) - 1) = (F : Int) - 1 := by rw [IntKind.wrap_i64]; omega
        have ewk : IntKind.i64.wrap ((k : Int) * (o1 : Int)) = ((k * o1 : Nat) : Int) := by
          have h2 : k * o1 ≤ 10 * 3 := Nat.mul_le_mul (by omega) ho1b.2
          have h3 : ((k * o1 : Nat) : Int) = (k : Int) * (o1 : Int) := by push_cast; rfl
          rw [IntKind.wrap_i64]; omega
        by_cases hm0 : m = 0
        · have q1 : ¬ ((A : Int) < (F : Int) - 1) := by omega
          have HFR1 : Hid (1 = if m ≠ 0 ∧ (k : Int) = (Q : Int) then 2 else 1) := Lib.hid (by rw [if_neg (fun z => z.1 hm0)])
          clear hfr0 hm hm0
          go_wp2_with fail
          refine (HC.out 1 HFR1.out).mono ?_; rintro e w3 ⟨rr, rfl, hrow3, hsep, b6⟩
          have hne : gx ≠ rr := by
            have h1 := HR.out.2.2.size
            have h2 := H6.out.1.2.2.1
            have h3 := H6.out.1.2.1.lt
            omega
          have H7 := Lib.hid (And.intro (HAD.out k b1 gx rr hne w3 (H6.out.1.2.1.keep b6) hrow3) (And.intro (H6.out.1.1.keep b6) (And.intro (H6.out.1.2.2.2.trans (b6.mono H6.out.1.2.2.2.size)) H6.out.1.2.2.1))); clear hrow3 hsep b6 H6 HC c0 c1 c2 c3 d0 d1 d2 d3
          go_wp2_with fail
          refine H7.out.1.mono ?_; rintro e w4 ⟨rfl, hr4, ho4⟩
          rw [HSUM.out k] at hr4
          have H8 : Hid (WyW w gx A (.slice aa N c) Q (fun n => wyK m s g.2 (k + 1) (n + ptsF s (toN g.2))) w4) := Lib.hid ⟨H7.out.2.1.only ho4 (by have := H7.out.2.2.2; omega), hr4, H7.out.2.2.2, ho4.2.2 _ w (by have := H7.out.2.2.2; omega) H7.out.2.2.1⟩
          clear hr4 ho4 H7
          go_wp2_with fail
          go_roundw
          case rel => exact ⟨k + 1, by go_num, by omega, H8⟩
          case measure => simp [intOf]; omega
        · have q1 : (A : Int) < (F : Int) - 1 := by omega
          by_cases hkQ : (k : Int) = (Q : Int)
          · have q2 : ((k : Int) == (Q : Int)) = true := by rw [hkQ]; simp
            have HFR1 : Hid (2 = if m ≠ 0 ∧ (k : Int) = (Q : Int) then 2 else 1) := Lib.hid (by rw [if_pos ⟨hm0, hkQ⟩])
            clear hfr0 hm hm0 hkQ
            go_wp2_with fail
            refine (HC.out 2 HFR1.out).mono ?_; rintro e w3 ⟨rr, rfl, hrow3, hsep, b6⟩
            have hne : gx ≠ rr := by
              have h1 := HR.out.2.2.size
              have h2 := H6.out.1.2.2.1
              have h3 := H6.out.1.2.1.lt
              omega
            have H7 := Lib.hid (And.intro (HAD.out k b1 gx rr hne w3 (H6.out.1.2.1.keep b6) hrow3) (And.intro (H6.out.1.1.keep b6) (And.intro (H6.out.1.2.2.2.trans (b6.mono H6.out.1.2.2.2.size)) H6.out.1.2.2.1))); clear hrow3 hsep b6 H6 HC c0 c1 c2 c3 d0 d1 d2 d3
            go_wp2_with fail
            refine H7.out.1.mono ?_; rintro e w4 ⟨rfl, hr4, ho4⟩
            rw [HSUM.out k] at hr4
            have H8 : Hid (WyW w gx A (.slice aa N c) Q (fun n => wyK m s g.2 (k + 1) (n + ptsF s (toN g.2))) w4) := Lib.hid ⟨H7.out.2.1.only ho4 (by have := H7.out.2.2.2; omega), hr4, H7.out.2.2.2, ho4.2.2 _ w (by have := H7.out.2.2.2; omega) H7.out.2.2.1⟩
            clear hr4 ho4 H7
            go_wp2_with fail
            go_roundw
            case rel => exact ⟨k + 1, by go_num, by omega, H8⟩
            case measure => simp [intOf]; omega
          · have HFR1 : Hid (1 = if m ≠ 0 ∧ (k : Int) = (Q : Int) then 2 else 1) := Lib.hid (by rw [if_neg (fun z => hkQ z.2)])
            clear hfr0 hm hm0
            go_wp2_with fail
            refine (HC.out 1 HFR1.out).mono ?_; rintro e w3 ⟨rr, rfl, hrow3, hsep, b6⟩
            have hne : gx ≠ rr := by
              have h1 := HR.out.2.2.size
              have h2 := H6.out.1.2.2.1
              have h3 := H6.out.1.2.1.lt
              omega
            have H7 := Lib.hid (And.intro (HAD.out k b1 gx rr hne w3 (H6.out.1.2.1.keep b6) hrow3) (And.intro (H6.out.1.1.keep b6) (And.intro (H6.out.1.2.2.2.trans (b6.mono H6.out.1.2.2.2.size)) H6.out.1.2.2.1))); clear hrow3 hsep b6 H6 HC c0 c1 c2 c3 d0 d1 d2 d3
            go_wp2_with fail
            refine H7.out.1.mono ?_; rintro e w4 ⟨rfl, hr4, ho4⟩
            rw [HSUM.out k] at hr4
            have H8 : Hid (WyW w gx A (.slice aa N c) Q (fun n => wyK m s g.2 (k + 1) (n + ptsF s (toN g.2))) w4) := Lib.hid ⟨H7.out.2.1.only ho4 (by have := H7.out.2.2.2; omega), hr4, H7.out.2.2.2, ho4.2.2 _ w (by have := H7.out.2.2.2; omega) H7.out.2.2.1⟩
            clear hr4 ho4 H7
            go_wp2_with fail
            go_roundw
            case rel => exact ⟨k + 1, by go_num, by omega, H8⟩
            case measure => simp [intOf]; omega
      · obtain rfl : k = Q + 1 := by omega
        have e : (((Q + 1 : Nat) : Nat) : Int) = (Q : Int) + 1 := by push_cast; rfl
        rw [e]; clear e
        go_wp2_with fail
        go_ret
        have h := hH.out
        exact ⟨gx, rfl, by rw [← HEND.out]; exact h.2.1, .inr (by have := h.2.2.1; omega), h.2.2.2⟩
end Go.Proofs.Ythbkclgdoopbpaa
