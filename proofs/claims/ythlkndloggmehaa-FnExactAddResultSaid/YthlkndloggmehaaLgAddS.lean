/-
  Leagues: a result more (the model's).
-/
import Derived.Test.YthlkndloggmehaaLgAddI
import Derived.Deep.DeepCutAuto
import Derived.StillTailTactics
namespace Go.Proofs.Ythlkndloggmehaa
open Go.RowKit
set_option linter.unusedVariables false
set_option linter.unusedSimpArgs false

theorem wp_append_resL {w : World} {o : Oper} {a : Act} {K : Act → World → Prop} {Q : Exit → Act → World → Prop} (s x : Operand)
    (ho : o.op = .call { callee := .builtin .append, args := #[s, x], argTypes := #[60, 60] })
    (B : Nat) (w0 : World) (v : Value) (n : Nat) (xs ys : List Rs) (ad : Option Addr) (m c : Nat) (hs : a.eval s = v) (hx : a.eval x = .slice ad m c) (hm : m = ys.length)
    (hown : w.ownsRow B 66 4 v n (ress xs)) (hr : Reads w ad (ress ys)) (hbel : Below B w0 w) (hB : B ≤ w.heap.size) (hsz : n + ys.length ≤ 4000000) (hne : ad ≠ none)
    (h : ∀ v' w', w'.ownsRow B 66 4 v' (n + ys.length) (ress (xs ++ ys)) → Below B w0 w' → w.grownBy w' v.ownBlock → K (a.put o.dst v') w') :
    o.wp Try.prog a w K Q := by
  subst hm
  obtain ⟨i0, hi, hz0, hz1, hz2⟩ := info_parts infoResult
  cases ad with
  | none => exact absurd rfl hne
  | some ad =>
    have hnews : ∀ j u, (ress ys)[j]? = some u → w.cell? (ad.add j) = some u := by
      intro j u hj
      rcases hr with hr | ⟨b, off, he, hlt, hc⟩
      · rw [hr] at hj; simp at hj
      · cases he
        have hjl : j < (ress ys).length := (List.getElem?_eq_some_iff.1 hj).1
        have e : (⟨b, off, none⟩ : Addr).add j = ⟨b, off + j, none⟩ := by unfold Addr.add; split <;> simp_all
        rw [e, hc j hjl, hj]
    obtain ⟨v', w', hrun, h2, h3, h4, h5⟩ := run_append_own_at (P := Try.prog) w B 60 o.type 66 i0 (.agg #[.int .i64 0, .int .i64 0, .int .i64 0, .int .i64 0]) 4 32 Try.underlying60 hi hz0 hz1 hz2 rfl (by decide) v n (ress xs) hown ad ys.length c (ress ys) (by rw [ress_len]; omega) hnews ress_one (by unfold maxLen; omega) (by omega) hB
    refine Lib.wp_append_run w s x _ _ ho v _ hs hx v' w' hrun (h v' w' (by rw [ress_append]; exact h2) (hbel.grown h3 hB (fun g hg => ?_)) h3)
    obtain ⟨_, h | ⟨g', cap, cur, hv, hb', _⟩⟩ := hown
    · rw [h.1] at hg; cases hg
    · rw [hv] at hg; simp [Value.ownBlock] at hg; omega

theorem reads_one {w : World} {g : Nat} {r0 r1 r2 r3 : Int} (h : ObAt w g 66 #[.int .i64 r0, .int .i64 r1, .int .i64 r2, .int .i64 r3]) : Reads w (some ⟨g, 0, none⟩) (ress [(r0, r1, r2, r3)]) :=
  .inr ⟨g, 0, rfl, h.lt, fun j hj => by
    have hj4 : j < 4 := hj
    rw [Nat.zero_add, h.cell j]
    have : j = 0 ∨ j = 1 ∨ j = 2 ∨ j = 3 := by omega
    rcases this with rfl | rfl | rfl | rfl <;> rfl⟩

/-- The three boxes, and what lay before. -/
def AdS (w : World) (t wn : Int) (ad : Option Addr) (n c : Nat) (r0 r1 r2 r3 : Int) (wi : World) : Prop := ObAt wi w.heap.size 62 #[.int .i64 t, .int .i64 wn, .slice ad n c] ∧ ObAt wi (w.heap.size + 1) 66 #[.int .i64 r0, .int .i64 r1, .int .i64 r2, .int .i64 r3] ∧ ObAt wi (w.heap.size + 1 + 1) 62 #[.int .i64 0, .int .i64 0, .slice none 0 0] ∧ Below w.heap.size w wi
def AdH (w : World) (t wn : Int) (ad : Option Addr) (n c : Nat) (r0 r1 r2 r3 : Int) (wi : World) : Prop := wi.cell? ⟨w.heap.size, 0, none⟩ = some (.int .i64 t) ∧ wi.cell? ⟨w.heap.size, 1, none⟩ = some (.int .i64 wn) ∧ wi.cell? ⟨w.heap.size, 2, none⟩ = some (.slice ad n c) ∧ wi.cell? ⟨w.heap.size + 1, 0, none⟩ = some (.int .i64 r0) ∧ wi.cell? ⟨w.heap.size + 1, 1, none⟩ = some (.int .i64 r1) ∧ wi.cell? ⟨w.heap.size + 1, 2, none⟩ = some (.int .i64 r2) ∧ wi.cell? ⟨w.heap.size + 1, 3, none⟩ = some (.int .i64 r3) ∧ AdS w t wn ad n c r0 r1 r2 r3 wi
theorem AdH.of {w : World} {t wn : Int} {ad : Option Addr} {n c : Nat} {r0 r1 r2 r3 : Int} {wi : World} (h : AdS w t wn ad n c r0 r1 r2 r3 wi) : AdH w t wn ad n c r0 r1 r2 r3 wi := ⟨h.1.cell 0, h.1.cell 1, h.1.cell 2, h.2.1.cell 0, h.2.1.cell 1, h.2.1.cell 2, h.2.1.cell 3, h⟩
theorem AdS.keep {w : World} {t wn : Int} {ad : Option Addr} {n c : Nat} {r0 r1 r2 r3 : Int} {wi wj : World} (h : AdS w t wn ad n c r0 r1 r2 r3 wi) (hb : Below wi.heap.size wi wj) : AdS w t wn ad n c r0 r1 r2 r3 wj := ⟨h.1.keep hb, h.2.1.keep hb, h.2.2.1.keep hb, h.2.2.2.trans (hb.mono h.2.2.2.size)⟩
theorem AdS.grow {w : World} {t wn : Int} {ad : Option Addr} {n c : Nat} {r0 r1 r2 r3 : Int} {wi wj : World} (h : AdS w t wn ad n c r0 r1 r2 r3 wi) {v : Value} {k : Nat} {xs : List Value} (ho : wi.ownsRow (w.heap.size + 1 + 1 + 1) 66 4 v k xs) (hb : Below w.heap.size w wj) (hg : wi.grownBy wj v.ownBlock) : AdS w t wn ad n c r0 r1 r2 r3 wj := by
  have hk : ∀ g T cs, ObAt wi g T cs → g < w.heap.size + 1 + 1 + 1 → ObAt wj g T cs := fun g T cs h1 hlt => by
    have hl := h1.lt
    unfold ObAt at *
    rw [hg.block g hl (fun e => by have := (owns_ge ho e.symm).1; omega)]; exact h1
  exact ⟨hk _ _ _ h.1 (by omega), hk _ _ _ h.2.1 (by omega), hk _ _ _ h.2.2.1 (by omega), hb⟩
def CutAdd (w : World) (t wn : Int) (ad : Option Addr) (n c : Nat) (r0 r1 r2 r3 : Int) (m : List Rs) (v : Value) (wx : World) : Prop := ∃ g a' c', v = .pointer (some ⟨g, 0, none⟩) ∧ w.heap.size + 1 + 1 < g ∧ ObAt wx g 62 #[.int .i64 t, .int .i64 wn, .slice a' m.length c'] ∧ wx.ownsRow w.heap.size 66 4 (.slice a' m.length c') m.length (ress m) ∧ AdS w t wn ad n c r0 r1 r2 r3 wx
theorem CutAdd.adS {w : World} {t wn : Int} {ad : Option Addr} {n c : Nat} {r0 r1 r2 r3 : Int} {m : List Rs} {v : Value} {wx : World} (h : CutAdd w t wn ad n c r0 r1 r2 r3 m v wx) : AdS w t wn ad n c r0 r1 r2 r3 wx := by
  obtain ⟨_, _, _, _, _, _, _, h⟩ := h
  exact h
theorem CutAdd.mk {w : World} {t wn : Int} {ad : Option Addr} {n c : Nat} {r0 r1 r2 r3 : Int} {m : List Rs} {W : World} {g : Nat} {a' : Option Addr} {c' : Nat} (h1 : ObAt W g 62 #[.int .i64 0, .int .i64 0, .slice none 0 0]) (h2 : w.heap.size + 1 + 1 < g) (h3 : W.ownsRow (w.heap.size + 1 + 1 + 1) 66 4 (.slice a' m.length c') m.length (ress m)) (h4 : AdS w t wn ad n c r0 r1 r2 r3 W) :
    CutAdd w t wn ad n c r0 r1 r2 r3 m (.pointer (some ⟨g, 0, none⟩)) (((W.setCell ⟨g, 0, none⟩ (.int .i64 t)).setCell ⟨g, 1, none⟩ (.int .i64 wn)).setCell ⟨g, 2, none⟩ (.slice a' m.length c')) := by
  refine ⟨g, a', c', rfl, h2, ((h1.put 0 _).put 1 _).put 2 _, owns_heap (owns_mono h3 (by omega)) (fun k e => ?_), ((h4.1.other (by omega) _).other (by omega) _).other (by omega) _, ((h4.2.1.other (by omega) _).other (by omega) _).other (by omega) _, ((h4.2.2.1.other (by omega) _).other (by omega) _).other (by omega) _, ((h4.2.2.2.setCell (p := ⟨g, 0, none⟩) (by simp only; omega) _).setCell (p := ⟨g, 1, none⟩) (by simp only; omega) _).setCell (p := ⟨g, 2, none⟩) (by simp only; omega) _⟩
  have hne : k ≠ g := by
    intro e2
    subst e2
    exact owns_apart (g := k) (T := 62) (fr := (0, 0)) h1 (by decide) h3 e
  rw [Below.heap_setCell _ _ _ _ hne, Below.heap_setCell _ _ _ _ hne, Below.heap_setCell _ _ _ _ hne]

set_option maxHeartbeats 6400000 in
set_option maxRecDepth 100000 in
theorem specAdd_any (t wn : Int) (l : List Rs) (r0 r1 r2 r3 : Int) (ad : Option Addr) (c : Nat) (w : World) (hl : (l.length : Int) ≤ 1048576) (hlc : l.length ≤ c) (hr : Reads w ad (ress l)) :
    Calls Try.prog 65 #[.agg #[.int .i64 t, .int .i64 wn, .slice ad l.length c], .agg #[.int .i64 r0, .int .i64 r1, .int .i64 r2, .int .i64 r3]] w fun e w' => LgR (if okA t wn l (r0, r1, r2, r3) then t else 0) (if okA t wn l (r0, r1, r2, r3) then wn else 0) (if okA t wn l (r0, r1, r2, r3) then l ++ [(r0, r1, r2, r3)] else []) (okA t wn l (r0, r1, r2, r3)) w e w' := by
  have HO := Lib.hid (fun W (hb : Below w.heap.size w W) => lgOwn_any l ad c W (by omega) (hr.old hb))
  have HG := Lib.hid (fun W (hb : Below w.heap.size w W) => lgGood_any t wn l ad c W (by omega) hlc (hr.old hb))
  clear hr
  generalize htt : (if okA t wn l (r0, r1, r2, r3) = true then t else 0) = tt
  generalize hww : (if okA t wn l (r0, r1, r2, r3) = true then wn else 0) = ww
  generalize hmm : (if okA t wn l (r0, r1, r2, r3) = true then l ++ [(r0, r1, r2, r3)] else []) = mm
  generalize hoo : okA t wn l (r0, r1, r2, r3) = oo
  generalize hm : l ++ [(r0, r1, r2, r3)] = m at *
  have hml : m.length = l.length + 1 := by rw [← hm]; simp
  have hcs : (goodL t wn l = false ∧ 0 = tt ∧ 0 = ww ∧ [] = mm ∧ false = oo) ∨ (goodL t wn l = true ∧ goodL t wn m = false ∧ 0 = tt ∧ 0 = ww ∧ [] = mm ∧ false = oo) ∨ (goodL t wn l = true ∧ goodL t wn m = true ∧ t = tt ∧ wn = ww ∧ m = mm ∧ true = oo) := by
    have hok : okA t wn l (r0, r1, r2, r3) = (goodL t wn l && goodL t wn m) := by unfold okA; rw [hm]
    rw [hok] at htt hww hmm hoo
    cases h1 : goodL t wn l <;> cases h2 : goodL t wn m <;> simp [h1, h2] at htt hww hmm hoo <;> subst htt hww hmm hoo <;> simp
  have HCS := Lib.hid hcs; clear hcs htt hww hmm hoo
  have HM := Lib.hid hm; clear hm
  have HN : Hid (l.length + [(r0, r1, r2, r3)].length = m.length) := hml.symm
  have HGM := Lib.hid (fun a' c' W (hlc' : m.length ≤ c') (hr' : Reads W a' (ress m)) => lgGood_any t wn m a' c' W (by omega) hlc' hr')
  have HML := Lib.hid hml; clear hml
  have hs0 : AdS w t wn ad l.length c r0 r1 r2 r3 (((w.alloc (.cells #[.int .i64 t, .int .i64 wn, .slice ad l.length c] 62)).alloc (.cells #[.int .i64 r0, .int .i64 r1, .int .i64 r2, .int .i64 r3] 66)).alloc (.cells #[.int .i64 0, .int .i64 0, .slice none 0 0] 62)) := by
    have b1 := Below.ofNew (w := w) (.cells #[.int .i64 t, .int .i64 wn, .slice ad l.length c] 62)
    have b2 := Below.ofNew (w := w.alloc (.cells #[.int .i64 t, .int .i64 wn, .slice ad l.length c] 62)) (.cells #[.int .i64 r0, .int .i64 r1, .int .i64 r2, .int .i64 r3] 66)
    have b3 := Below.ofNew (w := (w.alloc (.cells #[.int .i64 t, .int .i64 wn, .slice ad l.length c] 62)).alloc (.cells #[.int .i64 r0, .int .i64 r1, .int .i64 r2, .int .i64 r3] 66)) (.cells #[.int .i64 0, .int .i64 0, .slice none 0 0] 62)
    have A1 := ((ObAt.new w 62 #[.int .i64 t, .int .i64 wn, .slice ad l.length c]).keep b2).keep b3
    have A3 := (ObAt.new (w.alloc (.cells #[.int .i64 t, .int .i64 wn, .slice ad l.length c] 62)) 66 #[.int .i64 r0, .int .i64 r1, .int .i64 r2, .int .i64 r3]).keep b3
    have A2 := ObAt.new ((w.alloc (.cells #[.int .i64 t, .int .i64 wn, .slice ad l.length c] 62)).alloc (.cells #[.int .i64 r0, .int .i64 r1, .int .i64 r2, .int .i64 r3] 66)) 62 #[.int .i64 0, .int .i64 0, .slice none 0 0]
    rw [World.size_alloc] at A3
    rw [World.size_alloc, World.size_alloc] at A2
    exact ⟨A1, A3, A2, (b1.trans (b2.mono b1.size)).trans (b3.mono (by simp; omega))⟩
  have HS0 := Lib.hid hs0; clear hs0
  go_enter Try.func65, Try.ntmps65
  go_upto_region 1 with fail
  go_cut [6] (fun s6 wx => Hid (CutAdd w t wn ad l.length c r0 r1 r2 r3 m s6 wx))
  case first =>
    have hs0 := HS0.out
    clear HS0 HGM HG HCS
    generalize (((w.alloc (.cells #[.int .i64 t, .int .i64 wn, .slice ad l.length c] 62)).alloc (.cells #[.int .i64 r0, .int .i64 r1, .int .i64 r2, .int .i64 r3] 66)).alloc (.cells #[.int .i64 0, .int .i64 0, .slice none 0 0] 62)) = X at *
    have h0 : AdH w t wn ad l.length c r0 r1 r2 r3 X.drew := AdH.of (hs0.keep (Below.refl _ _).drew)
    clear hs0
    refine wp_region_held_drew (S := fun wi => wi.cell? ⟨w.heap.size, 0, none⟩ = some (.int .i64 t) ∧ wi.cell? ⟨w.heap.size, 1, none⟩ = some (.int .i64 wn) ∧ wi.cell? ⟨w.heap.size, 2, none⟩ = some (.slice ad l.length c) ∧ wi.cell? ⟨w.heap.size + 1, 0, none⟩ = some (.int .i64 r0) ∧ wi.cell? ⟨w.heap.size + 1, 1, none⟩ = some (.int .i64 r1) ∧ wi.cell? ⟨w.heap.size + 1, 2, none⟩ = some (.int .i64 r2) ∧ wi.cell? ⟨w.heap.size + 1, 3, none⟩ = some (.int .i64 r3) ∧ AdS w t wn ad l.length c r0 r1 r2 r3 wi) (by kernel_rfl) (h0) (fun hHeld => ?_)
    (refine wpAnyH_take (i := 0) (v := ?_) rfl (by kernel_rfl) (by kernel_rfl) (by kernel_rfl) (fun _ _ _ h => h) (Or.inl ⟨by kernel_rfl, ?_⟩) (by assumption) ?_; rotate_left; focus (intro w hSw; (try dsimp only at hSw); go_simp; try with_reducible rfl); (try simp only [List.getElem_toArray, List.getElem_cons_succ, List.getElem_cons_zero, Act.put, List.setIfInBounds_toArray, List.set_cons_zero, List.set_cons_succ])); (refine wpAnyH_take (i := 1) (v := ?_) rfl (by kernel_rfl) (by kernel_rfl) (by kernel_rfl) (fun _ _ _ h => h) (Or.inl ⟨by kernel_rfl, ?_⟩) (by assumption) ?_; rotate_left; focus (intro w hSw; (try dsimp only at hSw); go_simp; try with_reducible rfl); (try simp only [List.getElem_toArray, List.getElem_cons_succ, List.getElem_cons_zero, Act.put, List.setIfInBounds_toArray, List.set_cons_zero, List.set_cons_succ])); (refine wpAnyH_take (i := 2) (v := ?_) rfl (by kernel_rfl) (by kernel_rfl) (by kernel_rfl) (fun _ _ _ h => h) (Or.inl ⟨by kernel_rfl, ?_⟩) (by assumption) ?_; rotate_left; focus (intro w hSw; (try dsimp only at hSw); go_simp; try with_reducible rfl); (try simp only [List.getElem_toArray, List.getElem_cons_succ, List.getElem_cons_zero, Act.put, List.setIfInBounds_toArray, List.set_cons_zero, List.set_cons_succ])); (refine wpAnyH_take (i := 3) (v := ?_) rfl (by kernel_rfl) (by kernel_rfl) (by kernel_rfl) (fun _ _ _ h => h) (Or.inl ⟨by kernel_rfl, ?_⟩) (by assumption) ?_; rotate_left; focus (intro w hSw; (try dsimp only at hSw); go_simp; try with_reducible rfl); (try simp only [List.getElem_toArray, List.getElem_cons_succ, List.getElem_cons_zero, Act.put, List.setIfInBounds_toArray, List.set_cons_zero, List.set_cons_succ])); (refine wpAnyH_take (i := 4) (v := ?_) rfl (by kernel_rfl) (by kernel_rfl) (by kernel_rfl) (fun _ _ _ h => h) (Or.inl ⟨by kernel_rfl, ?_⟩) (by assumption) ?_; rotate_left; focus (intro w hSw; (try dsimp only at hSw); go_simp; try with_reducible rfl); (try simp only [List.getElem_toArray, List.getElem_cons_succ, List.getElem_cons_zero, Act.put, List.setIfInBounds_toArray, List.set_cons_zero, List.set_cons_succ])); (refine wpAnyH_take (i := 5) (v := ?_) rfl (by kernel_rfl) (by kernel_rfl) (by kernel_rfl) (fun _ _ _ h => h) (Or.inl ⟨by kernel_rfl, ?_⟩) (by assumption) ?_; rotate_left; focus (intro w hSw; (try dsimp only at hSw); go_simp; try with_reducible rfl); (try simp only [List.getElem_toArray, List.getElem_cons_succ, List.getElem_cons_zero, Act.put, List.setIfInBounds_toArray, List.set_cons_zero, List.set_cons_succ])); (refine wpAnyH_take (i := 7) (v := ?_) rfl (by kernel_rfl) (by kernel_rfl) (by kernel_rfl) (fun _ _ _ h => h) (Or.inl ⟨by kernel_rfl, ?_⟩) (by assumption) ?_; rotate_left; focus (intro w hSw; (try dsimp only at hSw); go_simp; try with_reducible rfl); (try simp only [List.getElem_toArray, List.getElem_cons_succ, List.getElem_cons_zero, Act.put, List.setIfInBounds_toArray, List.set_cons_zero, List.set_cons_succ]))
    clear h0
    generalize X.drew = X0 at *
    refine wpAnyH_ready (rs := [6, 8, 11]) (by kernel_rfl) (by simp) (AllReadyH.cons rfl (fun K hK => ?_) (AllReadyH.cons rfl (fun K hK => ?_) (AllReadyH.cons rfl (fun K hK => ?_) AllReadyH.nil)))
    · go_simp
      go_at_call 111
      refine (HO.out _ hHeld.2.2.2.2.2.2.2.2.2.2).mono ?_; rintro e w4 ⟨v4, rfl, own4, bd⟩
      have KS := Lib.hid (AdH.of (hHeld.2.2.2.2.2.2.2.keep bd))
      have KO := Lib.hid (owns_mono own4 (show w.heap.size + 1 + 1 + 1 ≤ _ from hHeld.2.2.2.2.2.2.2.2.2.1.lt)); clear hHeld own4 bd
      go_wp2_with fail
      first
        | refine hK.out _ _ KS.out (fun hHeld => ?_)
        | refine hK _ _ KS.out (fun hHeld => ?_)
      clear hK K KS
      (try simp only [List.getElem_toArray, List.getElem_cons_succ, List.getElem_cons_zero, Act.put, List.setIfInBounds_toArray, List.set_cons_zero, List.set_cons_succ])
      refine wpAnyH_ready (rs := [8, 11]) (by kernel_rfl) (by simp) (AllReadyH.cons rfl (fun K hK => ?_) (AllReadyH.cons rfl (fun K hK => ?_) AllReadyH.nil))
      · go_simp
        have bd := Below.ofNew (w := w4) (.cells #[.int .i64 r0, .int .i64 r1, .int .i64 r2, .int .i64 r3] 66)
        have KS := Lib.hid (AdH.of (hHeld.2.2.2.2.2.2.2.keep bd))
        have KOn := Lib.hid (owns_below KO.out bd); clear KO; have KO := KOn; clear KOn
        have K8 := Lib.hid (ObAt.new w4 66 #[.int .i64 r0, .int .i64 r1, .int .i64 r2, .int .i64 r3])
        clear hHeld bd
        generalize w4.alloc (.cells #[.int .i64 r0, .int .i64 r1, .int .i64 r2, .int .i64 r3] 66) = w6 at *
        first
          | refine hK.out _ _ KS.out (fun hHeld => ?_)
          | refine hK _ _ KS.out (fun hHeld => ?_)
        clear hK K KS
        (try simp only [List.getElem_toArray, List.getElem_cons_succ, List.getElem_cons_zero, Act.put, List.setIfInBounds_toArray, List.set_cons_zero, List.set_cons_succ])
        refine wpAnyH_ready (rs := [9, 11]) (by kernel_rfl) (by simp) (AllReadyH.cons rfl (fun K hK => ?_) (AllReadyH.cons rfl (fun K hK => ?_) AllReadyH.nil))
        · (try simp only [List.getElem_toArray, List.getElem_cons_succ, List.getElem_cons_zero, Act.put, List.setIfInBounds_toArray, List.set_cons_zero, List.set_cons_succ])
          have HBB : Below (w.heap.size + 1 + 1 + 1) w6 w6 := Below.refl _ _
          refine wp_append_resL (.tmp 13) (.tmp 15) ?_ (w.heap.size + 1 + 1 + 1) w6 _ l.length l [(r0, r1, r2, r3)] _ 1 1 ?_ ?_ rfl KO.out (reads_one K8.out) HBB hHeld.2.2.2.2.2.2.2.2.2.1.lt (by simp; omega) (by simp) ?_
          · rfl
          · rfl
          · rfl
          intro v7 w7 hown bd7 hgrow
          have KS := Lib.hid (AdH.of (hHeld.2.2.2.2.2.2.2.grow KO.out (hHeld.2.2.2.2.2.2.2.2.2.2.trans (bd7.mono (by omega))) hgrow))
          rw [HM.out, HN.out] at hown
          obtain ⟨a', c', rfl, hc', hrd', -⟩ := own_cap hown
          have K9 := Lib.hid hown
          clear hHeld hown hgrow KO K8 bd7 hc' hrd' HBB
          first
            | refine hK.out _ _ KS.out (fun hHeld => ?_)
            | refine hK _ _ KS.out (fun hHeld => ?_)
          clear hK K KS
          (try simp only [List.getElem_toArray, List.getElem_cons_succ, List.getElem_cons_zero, Act.put, List.setIfInBounds_toArray, List.set_cons_zero, List.set_cons_succ])
          (refine wpAnyH_take (i := 10) (v := ?_) rfl (by kernel_rfl) (by kernel_rfl) (by kernel_rfl) (fun _ _ _ h => h) (Or.inl ⟨by kernel_rfl, ?_⟩) (by assumption) ?_; rotate_left; focus (intro w hSw; (try dsimp only at hSw); go_simp; try with_reducible rfl); (try simp only [List.getElem_toArray, List.getElem_cons_succ, List.getElem_cons_zero, Act.put, List.setIfInBounds_toArray, List.set_cons_zero, List.set_cons_succ]))
          refine wpAnyH_ready (rs := [11]) (by kernel_rfl) (by simp) (AllReadyH.cons rfl (fun K hK => ?_) AllReadyH.nil)
          go_simp
          have bd := Below.ofNew (w := w7) (.cells #[.int .i64 0, .int .i64 0, .slice none 0 0] 62)
          have KS := Lib.hid (AdH.of (hHeld.2.2.2.2.2.2.2.keep bd))
          have K9n := Lib.hid (owns_below K9.out bd); clear K9; have K9 := K9n; clear K9n
          have K11 := Lib.hid (And.intro (ObAt.new w7 62 #[.int .i64 0, .int .i64 0, .slice none 0 0]) (show w.heap.size + 1 + 1 < _ from hHeld.2.2.2.2.2.2.2.2.2.1.lt))
          clear hHeld bd
          generalize w7.alloc (.cells #[.int .i64 0, .int .i64 0, .slice none 0 0] 62) = w13 at *
          first
            | refine hK.out _ _ KS.out (fun hHeld => ?_)
            | refine hK _ _ KS.out (fun hHeld => ?_)
          clear hK K KS
          (try simp only [List.getElem_toArray, List.getElem_cons_succ, List.getElem_cons_zero, Act.put, List.setIfInBounds_toArray, List.set_cons_zero, List.set_cons_succ])
          have hcut := Lib.hid (CutAdd.mk (t := t) (wn := wn) K11.out.1 K11.out.2 K9.out hHeld.2.2.2.2.2.2.2)
          obtain ⟨z0, z1, z2, f0, f1, f2⟩ := K11.out.1.three
          clear hHeld
          refine wpAnyH_ready (rs := [12]) (by kernel_rfl) (by simp) ?_; refine AllReadyH.cons rfl (fun K hK => ?_) AllReadyH.nil
          go_simp
          clear z0 z1 z2 f0 f1 f2
          have KS := Lib.hid (AdH.of hcut.out.adS)
          first
            | refine hK.out _ _ KS.out (fun hHeld => ?_)
            | refine hK _ _ KS.out (fun hHeld => ?_)
          clear hK K KS
          (try simp only [List.getElem_toArray, List.getElem_cons_succ, List.getElem_cons_zero, Act.put, List.setIfInBounds_toArray, List.set_cons_zero, List.set_cons_succ])
          clear hHeld
          refine wpAnyH_done (by kernel_rfl) ?_ _
          go_wp2_with fail
          go_meet
          exact hcut
        · go_simp
          have bd := Below.ofNew (w := w6) (.cells #[.int .i64 0, .int .i64 0, .slice none 0 0] 62)
          have KS := Lib.hid (AdH.of (hHeld.2.2.2.2.2.2.2.keep bd))
          have KOn := Lib.hid (owns_below KO.out bd); clear KO; have KO := KOn; clear KOn
          have K8n := Lib.hid (K8.out.keep bd); clear K8; have K8 := K8n; clear K8n
          have K11 := Lib.hid (And.intro (ObAt.new w6 62 #[.int .i64 0, .int .i64 0, .slice none 0 0]) (show w.heap.size + 1 + 1 < _ from hHeld.2.2.2.2.2.2.2.2.2.1.lt))
          clear hHeld bd
          generalize w6.alloc (.cells #[.int .i64 0, .int .i64 0, .slice none 0 0] 62) = w13 at *
          first
            | refine hK.out _ _ KS.out (fun hHeld => ?_)
            | refine hK _ _ KS.out (fun hHeld => ?_)
          clear hK K KS
          (try simp only [List.getElem_toArray, List.getElem_cons_succ, List.getElem_cons_zero, Act.put, List.setIfInBounds_toArray, List.set_cons_zero, List.set_cons_succ])
          refine wpAnyH_ready (rs := [9]) (by kernel_rfl) (by simp) (AllReadyH.cons rfl (fun K hK => ?_) AllReadyH.nil)
          (try simp only [List.getElem_toArray, List.getElem_cons_succ, List.getElem_cons_zero, Act.put, List.setIfInBounds_toArray, List.set_cons_zero, List.set_cons_succ])
          have HBB : Below (w.heap.size + 1 + 1 + 1) w13 w13 := Below.refl _ _
          refine wp_append_resL (.tmp 13) (.tmp 15) ?_ (w.heap.size + 1 + 1 + 1) w13 _ l.length l [(r0, r1, r2, r3)] _ 1 1 ?_ ?_ rfl KO.out (reads_one K8.out) HBB hHeld.2.2.2.2.2.2.2.2.2.1.lt (by simp; omega) (by simp) ?_
          · rfl
          · rfl
          · rfl
          intro v7 w7 hown bd7 hgrow
          have KS := Lib.hid (AdH.of (hHeld.2.2.2.2.2.2.2.grow KO.out (hHeld.2.2.2.2.2.2.2.2.2.2.trans (bd7.mono (by omega))) hgrow))
          have K11n := Lib.hid (And.intro (K11.out.1.grow (T' := 66) (by decide) KO.out hgrow) K11.out.2); clear K11; have K11 := K11n; clear K11n
          rw [HM.out, HN.out] at hown
          obtain ⟨a', c', rfl, hc', hrd', -⟩ := own_cap hown
          have K9 := Lib.hid hown
          clear hHeld hown hgrow KO K8 bd7 hc' hrd' HBB
          first
            | refine hK.out _ _ KS.out (fun hHeld => ?_)
            | refine hK _ _ KS.out (fun hHeld => ?_)
          clear hK K KS
          (try simp only [List.getElem_toArray, List.getElem_cons_succ, List.getElem_cons_zero, Act.put, List.setIfInBounds_toArray, List.set_cons_zero, List.set_cons_succ])
          (refine wpAnyH_take (i := 10) (v := ?_) rfl (by kernel_rfl) (by kernel_rfl) (by kernel_rfl) (fun _ _ _ h => h) (Or.inl ⟨by kernel_rfl, ?_⟩) (by assumption) ?_; rotate_left; focus (intro w hSw; (try dsimp only at hSw); go_simp; try with_reducible rfl); (try simp only [List.getElem_toArray, List.getElem_cons_succ, List.getElem_cons_zero, Act.put, List.setIfInBounds_toArray, List.set_cons_zero, List.set_cons_succ]))
          have hcut := Lib.hid (CutAdd.mk (t := t) (wn := wn) K11.out.1 K11.out.2 K9.out hHeld.2.2.2.2.2.2.2)
          obtain ⟨z0, z1, z2, f0, f1, f2⟩ := K11.out.1.three
          clear hHeld
          refine wpAnyH_ready (rs := [12]) (by kernel_rfl) (by simp) ?_; refine AllReadyH.cons rfl (fun K hK => ?_) AllReadyH.nil
          go_simp
          clear z0 z1 z2 f0 f1 f2
          have KS := Lib.hid (AdH.of hcut.out.adS)
          first
            | refine hK.out _ _ KS.out (fun hHeld => ?_)
            | refine hK _ _ KS.out (fun hHeld => ?_)
          clear hK K KS
          (try simp only [List.getElem_toArray, List.getElem_cons_succ, List.getElem_cons_zero, Act.put, List.setIfInBounds_toArray, List.set_cons_zero, List.set_cons_succ])
          clear hHeld
          refine wpAnyH_done (by kernel_rfl) ?_ _
          go_wp2_with fail
          go_meet
          exact hcut
      · go_simp
        have bd := Below.ofNew (w := w4) (.cells #[.int .i64 0, .int .i64 0, .slice none 0 0] 62)
        have KS := Lib.hid (AdH.of (hHeld.2.2.2.2.2.2.2.keep bd))
        have KOn := Lib.hid (owns_below KO.out bd); clear KO; have KO := KOn; clear KOn
        have K11 := Lib.hid (And.intro (ObAt.new w4 62 #[.int .i64 0, .int .i64 0, .slice none 0 0]) (show w.heap.size + 1 + 1 < _ from hHeld.2.2.2.2.2.2.2.2.2.1.lt))
        clear hHeld bd
        generalize w4.alloc (.cells #[.int .i64 0, .int .i64 0, .slice none 0 0] 62) = w13 at *
        first
          | refine hK.out _ _ KS.out (fun hHeld => ?_)
          | refine hK _ _ KS.out (fun hHeld => ?_)
        clear hK K KS
        (try simp only [List.getElem_toArray, List.getElem_cons_succ, List.getElem_cons_zero, Act.put, List.setIfInBounds_toArray, List.set_cons_zero, List.set_cons_succ])
        refine wpAnyH_ready (rs := [8]) (by kernel_rfl) (by simp) (AllReadyH.cons rfl (fun K hK => ?_) AllReadyH.nil)
        go_simp
        have bd := Below.ofNew (w := w13) (.cells #[.int .i64 r0, .int .i64 r1, .int .i64 r2, .int .i64 r3] 66)
        have KS := Lib.hid (AdH.of (hHeld.2.2.2.2.2.2.2.keep bd))
        have KOn := Lib.hid (owns_below KO.out bd); clear KO; have KO := KOn; clear KOn
        have K11n := Lib.hid (And.intro (K11.out.1.keep bd) K11.out.2); clear K11; have K11 := K11n; clear K11n
        have K8 := Lib.hid (ObAt.new w13 66 #[.int .i64 r0, .int .i64 r1, .int .i64 r2, .int .i64 r3])
        clear hHeld bd
        generalize w13.alloc (.cells #[.int .i64 r0, .int .i64 r1, .int .i64 r2, .int .i64 r3] 66) = w6 at *
        first
          | refine hK.out _ _ KS.out (fun hHeld => ?_)
          | refine hK _ _ KS.out (fun hHeld => ?_)
        clear hK K KS
        (try simp only [List.getElem_toArray, List.getElem_cons_succ, List.getElem_cons_zero, Act.put, List.setIfInBounds_toArray, List.set_cons_zero, List.set_cons_succ])
        refine wpAnyH_ready (rs := [9]) (by kernel_rfl) (by simp) (AllReadyH.cons rfl (fun K hK => ?_) AllReadyH.nil)
        (try simp only [List.getElem_toArray, List.getElem_cons_succ, List.getElem_cons_zero, Act.put, List.setIfInBounds_toArray, List.set_cons_zero, List.set_cons_succ])
        have HBB : Below (w.heap.size + 1 + 1 + 1) w6 w6 := Below.refl _ _
        refine wp_append_resL (.tmp 13) (.tmp 15) ?_ (w.heap.size + 1 + 1 + 1) w6 _ l.length l [(r0, r1, r2, r3)] _ 1 1 ?_ ?_ rfl KO.out (reads_one K8.out) HBB hHeld.2.2.2.2.2.2.2.2.2.1.lt (by simp; omega) (by simp) ?_
        · rfl
        · rfl
        · rfl
        intro v7 w7 hown bd7 hgrow
        have KS := Lib.hid (AdH.of (hHeld.2.2.2.2.2.2.2.grow KO.out (hHeld.2.2.2.2.2.2.2.2.2.2.trans (bd7.mono (by omega))) hgrow))
        have K11n := Lib.hid (And.intro (K11.out.1.grow (T' := 66) (by decide) KO.out hgrow) K11.out.2); clear K11; have K11 := K11n; clear K11n
        rw [HM.out, HN.out] at hown
        obtain ⟨a', c', rfl, hc', hrd', -⟩ := own_cap hown
        have K9 := Lib.hid hown
        clear hHeld hown hgrow KO K8 bd7 hc' hrd' HBB
        first
          | refine hK.out _ _ KS.out (fun hHeld => ?_)
          | refine hK _ _ KS.out (fun hHeld => ?_)
        clear hK K KS
        (try simp only [List.getElem_toArray, List.getElem_cons_succ, List.getElem_cons_zero, Act.put, List.setIfInBounds_toArray, List.set_cons_zero, List.set_cons_succ])
        (refine wpAnyH_take (i := 10) (v := ?_) rfl (by kernel_rfl) (by kernel_rfl) (by kernel_rfl) (fun _ _ _ h => h) (Or.inl ⟨by kernel_rfl, ?_⟩) (by assumption) ?_; rotate_left; focus (intro w hSw; (try dsimp only at hSw); go_simp; try with_reducible rfl); (try simp only [List.getElem_toArray, List.getElem_cons_succ, List.getElem_cons_zero, Act.put, List.setIfInBounds_toArray, List.set_cons_zero, List.set_cons_succ]))
        have hcut := Lib.hid (CutAdd.mk (t := t) (wn := wn) K11.out.1 K11.out.2 K9.out hHeld.2.2.2.2.2.2.2)
        obtain ⟨z0, z1, z2, f0, f1, f2⟩ := K11.out.1.three
        clear hHeld
        refine wpAnyH_ready (rs := [12]) (by kernel_rfl) (by simp) ?_; refine AllReadyH.cons rfl (fun K hK => ?_) AllReadyH.nil
        go_simp
        clear z0 z1 z2 f0 f1 f2
        have KS := Lib.hid (AdH.of hcut.out.adS)
        first
          | refine hK.out _ _ KS.out (fun hHeld => ?_)
          | refine hK _ _ KS.out (fun hHeld => ?_)
        clear hK K KS
        (try simp only [List.getElem_toArray, List.getElem_cons_succ, List.getElem_cons_zero, Act.put, List.setIfInBounds_toArray, List.set_cons_zero, List.set_cons_succ])
        clear hHeld
        refine wpAnyH_done (by kernel_rfl) ?_ _
        go_wp2_with fail
        go_meet
        exact hcut
    · go_simp
      have bd := Below.ofNew (w := X0) (.cells #[.int .i64 r0, .int .i64 r1, .int .i64 r2, .int .i64 r3] 66)
      have KS := Lib.hid (AdH.of (hHeld.2.2.2.2.2.2.2.keep bd))
      have K8 := Lib.hid (ObAt.new X0 66 #[.int .i64 r0, .int .i64 r1, .int .i64 r2, .int .i64 r3])
      clear hHeld bd
      generalize X0.alloc (.cells #[.int .i64 r0, .int .i64 r1, .int .i64 r2, .int .i64 r3] 66) = w6 at *
      first
        | refine hK.out _ _ KS.out (fun hHeld => ?_)
        | refine hK _ _ KS.out (fun hHeld => ?_)
      clear hK K KS
      (try simp only [List.getElem_toArray, List.getElem_cons_succ, List.getElem_cons_zero, Act.put, List.setIfInBounds_toArray, List.set_cons_zero, List.set_cons_succ])
      refine wpAnyH_ready (rs := [6, 11]) (by kernel_rfl) (by simp) (AllReadyH.cons rfl (fun K hK => ?_) (AllReadyH.cons rfl (fun K hK => ?_) AllReadyH.nil))
      · go_simp
        go_at_call 111
        refine (HO.out _ hHeld.2.2.2.2.2.2.2.2.2.2).mono ?_; rintro e w4 ⟨v4, rfl, own4, bd⟩
        have KS := Lib.hid (AdH.of (hHeld.2.2.2.2.2.2.2.keep bd))
        have K8n := Lib.hid (K8.out.keep bd); clear K8; have K8 := K8n; clear K8n
        have KO := Lib.hid (owns_mono own4 (show w.heap.size + 1 + 1 + 1 ≤ _ from hHeld.2.2.2.2.2.2.2.2.2.1.lt)); clear hHeld own4 bd
        go_wp2_with fail
        first
          | refine hK.out _ _ KS.out (fun hHeld => ?_)
          | refine hK _ _ KS.out (fun hHeld => ?_)
        clear hK K KS
        (try simp only [List.getElem_toArray, List.getElem_cons_succ, List.getElem_cons_zero, Act.put, List.setIfInBounds_toArray, List.set_cons_zero, List.set_cons_succ])
        refine wpAnyH_ready (rs := [9, 11]) (by kernel_rfl) (by simp) (AllReadyH.cons rfl (fun K hK => ?_) (AllReadyH.cons rfl (fun K hK => ?_) AllReadyH.nil))
        · (try simp only [List.getElem_toArray, List.getElem_cons_succ, List.getElem_cons_zero, Act.put, List.setIfInBounds_toArray, List.set_cons_zero, List.set_cons_succ])
          have HBB : Below (w.heap.size + 1 + 1 + 1) w4 w4 := Below.refl _ _
          refine wp_append_resL (.tmp 13) (.tmp 15) ?_ (w.heap.size + 1 + 1 + 1) w4 _ l.length l [(r0, r1, r2, r3)] _ 1 1 ?_ ?_ rfl KO.out (reads_one K8.out) HBB hHeld.2.2.2.2.2.2.2.2.2.1.lt (by simp; omega) (by simp) ?_
          · rfl
          · rfl
          · rfl
          intro v7 w7 hown bd7 hgrow
          have KS := Lib.hid (AdH.of (hHeld.2.2.2.2.2.2.2.grow KO.out (hHeld.2.2.2.2.2.2.2.2.2.2.trans (bd7.mono (by omega))) hgrow))
          rw [HM.out, HN.out] at hown
          obtain ⟨a', c', rfl, hc', hrd', -⟩ := own_cap hown
          have K9 := Lib.hid hown
          clear hHeld hown hgrow KO K8 bd7 hc' hrd' HBB
          first
            | refine hK.out _ _ KS.out (fun hHeld => ?_)
            | refine hK _ _ KS.out (fun hHeld => ?_)
          clear hK K KS
          (try simp only [List.getElem_toArray, List.getElem_cons_succ, List.getElem_cons_zero, Act.put, List.setIfInBounds_toArray, List.set_cons_zero, List.set_cons_succ])
          (refine wpAnyH_take (i := 10) (v := ?_) rfl (by kernel_rfl) (by kernel_rfl) (by kernel_rfl) (fun _ _ _ h => h) (Or.inl ⟨by kernel_rfl, ?_⟩) (by assumption) ?_; rotate_left; focus (intro w hSw; (try dsimp only at hSw); go_simp; try with_reducible rfl); (try simp only [List.getElem_toArray, List.getElem_cons_succ, List.getElem_cons_zero, Act.put, List.setIfInBounds_toArray, List.set_cons_zero, List.set_cons_succ]))
          refine wpAnyH_ready (rs := [11]) (by kernel_rfl) (by simp) (AllReadyH.cons rfl (fun K hK => ?_) AllReadyH.nil)
          go_simp
          have bd := Below.ofNew (w := w7) (.cells #[.int .i64 0, .int .i64 0, .slice none 0 0] 62)
          have KS := Lib.hid (AdH.of (hHeld.2.2.2.2.2.2.2.keep bd))
          have K9n := Lib.hid (owns_below K9.out bd); clear K9; have K9 := K9n; clear K9n
          have K11 := Lib.hid (And.intro (ObAt.new w7 62 #[.int .i64 0, .int .i64 0, .slice none 0 0]) (show w.heap.size + 1 + 1 < _ from hHeld.2.2.2.2.2.2.2.2.2.1.lt))
          clear hHeld bd
          generalize w7.alloc (.cells #[.int .i64 0, .int .i64 0, .slice none 0 0] 62) = w13 at *
          first
            | refine hK.out _ _ KS.out (fun hHeld => ?_)
            | refine hK _ _ KS.out (fun hHeld => ?_)
          clear hK K KS
          (try simp only [List.getElem_toArray, List.getElem_cons_succ, List.getElem_cons_zero, Act.put, List.setIfInBounds_toArray, List.set_cons_zero, List.set_cons_succ])
          have hcut := Lib.hid (CutAdd.mk (t := t) (wn := wn) K11.out.1 K11.out.2 K9.out hHeld.2.2.2.2.2.2.2)
          obtain ⟨z0, z1, z2, f0, f1, f2⟩ := K11.out.1.three
          clear hHeld
          refine wpAnyH_ready (rs := [12]) (by kernel_rfl) (by simp) ?_; refine AllReadyH.cons rfl (fun K hK => ?_) AllReadyH.nil
          go_simp
          clear z0 z1 z2 f0 f1 f2
          have KS := Lib.hid (AdH.of hcut.out.adS)
          first
            | refine hK.out _ _ KS.out (fun hHeld => ?_)
            | refine hK _ _ KS.out (fun hHeld => ?_)
          clear hK K KS
          (try simp only [List.getElem_toArray, List.getElem_cons_succ, List.getElem_cons_zero, Act.put, List.setIfInBounds_toArray, List.set_cons_zero, List.set_cons_succ])
          clear hHeld
          refine wpAnyH_done (by kernel_rfl) ?_ _
          go_wp2_with fail
          go_meet
          exact hcut
        · go_simp
          have bd := Below.ofNew (w := w4) (.cells #[.int .i64 0, .int .i64 0, .slice none 0 0] 62)
          have KS := Lib.hid (AdH.of (hHeld.2.2.2.2.2.2.2.keep bd))
          have KOn := Lib.hid (owns_below KO.out bd); clear KO; have KO := KOn; clear KOn
          have K8n := Lib.hid (K8.out.keep bd); clear K8; have K8 := K8n; clear K8n
          have K11 := Lib.hid (And.intro (ObAt.new w4 62 #[.int .i64 0, .int .i64 0, .slice none 0 0]) (show w.heap.size + 1 + 1 < _ from hHeld.2.2.2.2.2.2.2.2.2.1.lt))
          clear hHeld bd
          generalize w4.alloc (.cells #[.int .i64 0, .int .i64 0, .slice none 0 0] 62) = w13 at *
          first
            | refine hK.out _ _ KS.out (fun hHeld => ?_)
            | refine hK _ _ KS.out (fun hHeld => ?_)
          clear hK K KS
          (try simp only [List.getElem_toArray, List.getElem_cons_succ, List.getElem_cons_zero, Act.put, List.setIfInBounds_toArray, List.set_cons_zero, List.set_cons_succ])
          refine wpAnyH_ready (rs := [9]) (by kernel_rfl) (by simp) (AllReadyH.cons rfl (fun K hK => ?_) AllReadyH.nil)
          (try simp only [List.getElem_toArray, List.getElem_cons_succ, List.getElem_cons_zero, Act.put, List.setIfInBounds_toArray, List.set_cons_zero, List.set_cons_succ])
          have HBB : Below (w.heap.size + 1 + 1 + 1) w13 w13 := Below.refl _ _
          refine wp_append_resL (.tmp 13) (.tmp 15) ?_ (w.heap.size + 1 + 1 + 1) w13 _ l.length l [(r0, r1, r2, r3)] _ 1 1 ?_ ?_ rfl KO.out (reads_one K8.out) HBB hHeld.2.2.2.2.2.2.2.2.2.1.lt (by simp; omega) (by simp) ?_
          · rfl
          · rfl
          · rfl
          intro v7 w7 hown bd7 hgrow
          have KS := Lib.hid (AdH.of (hHeld.2.2.2.2.2.2.2.grow KO.out (hHeld.2.2.2.2.2.2.2.2.2.2.trans (bd7.mono (by omega))) hgrow))
          have K11n := Lib.hid (And.intro (K11.out.1.grow (T' := 66) (by decide) KO.out hgrow) K11.out.2); clear K11; have K11 := K11n; clear K11n
          rw [HM.out, HN.out] at hown
          obtain ⟨a', c', rfl, hc', hrd', -⟩ := own_cap hown
          have K9 := Lib.hid hown
          clear hHeld hown hgrow KO K8 bd7 hc' hrd' HBB
          first
            | refine hK.out _ _ KS.out (fun hHeld => ?_)
            | refine hK _ _ KS.out (fun hHeld => ?_)
          clear hK K KS
          (try simp only [List.getElem_toArray, List.getElem_cons_succ, List.getElem_cons_zero, Act.put, List.setIfInBounds_toArray, List.set_cons_zero, List.set_cons_succ])
          (refine wpAnyH_take (i := 10) (v := ?_) rfl (by kernel_rfl) (by kernel_rfl) (by kernel_rfl) (fun _ _ _ h => h) (Or.inl ⟨by kernel_rfl, ?_⟩) (by assumption) ?_; rotate_left; focus (intro w hSw; (try dsimp only at hSw); go_simp; try with_reducible rfl); (try simp only [List.getElem_toArray, List.getElem_cons_succ, List.getElem_cons_zero, Act.put, List.setIfInBounds_toArray, List.set_cons_zero, List.set_cons_succ]))
          have hcut := Lib.hid (CutAdd.mk (t := t) (wn := wn) K11.out.1 K11.out.2 K9.out hHeld.2.2.2.2.2.2.2)
          obtain ⟨z0, z1, z2, f0, f1, f2⟩ := K11.out.1.three
          clear hHeld
          refine wpAnyH_ready (rs := [12]) (by kernel_rfl) (by simp) ?_; refine AllReadyH.cons rfl (fun K hK => ?_) AllReadyH.nil
          go_simp
          clear z0 z1 z2 f0 f1 f2
          have KS := Lib.hid (AdH.of hcut.out.adS)
          first
            | refine hK.out _ _ KS.out (fun hHeld => ?_)
            | refine hK _ _ KS.out (fun hHeld => ?_)
          clear hK K KS
          (try simp only [List.getElem_toArray, List.getElem_cons_succ, List.getElem_cons_zero, Act.put, List.setIfInBounds_toArray, List.set_cons_zero, List.set_cons_succ])
          clear hHeld
          refine wpAnyH_done (by kernel_rfl) ?_ _
          go_wp2_with fail
          go_meet
          exact hcut
      · go_simp
        have bd := Below.ofNew (w := w6) (.cells #[.int .i64 0, .int .i64 0, .slice none 0 0] 62)
        have KS := Lib.hid (AdH.of (hHeld.2.2.2.2.2.2.2.keep bd))
        have K8n := Lib.hid (K8.out.keep bd); clear K8; have K8 := K8n; clear K8n
        have K11 := Lib.hid (And.intro (ObAt.new w6 62 #[.int .i64 0, .int .i64 0, .slice none 0 0]) (show w.heap.size + 1 + 1 < _ from hHeld.2.2.2.2.2.2.2.2.2.1.lt))
        clear hHeld bd
        generalize w6.alloc (.cells #[.int .i64 0, .int .i64 0, .slice none 0 0] 62) = w13 at *
        first
          | refine hK.out _ _ KS.out (fun hHeld => ?_)
          | refine hK _ _ KS.out (fun hHeld => ?_)
        clear hK K KS
        (try simp only [List.getElem_toArray, List.getElem_cons_succ, List.getElem_cons_zero, Act.put, List.setIfInBounds_toArray, List.set_cons_zero, List.set_cons_succ])
        refine wpAnyH_ready (rs := [6]) (by kernel_rfl) (by simp) (AllReadyH.cons rfl (fun K hK => ?_) AllReadyH.nil)
        go_simp
        go_at_call 111
        refine (HO.out _ hHeld.2.2.2.2.2.2.2.2.2.2).mono ?_; rintro e w4 ⟨v4, rfl, own4, bd⟩
        have KS := Lib.hid (AdH.of (hHeld.2.2.2.2.2.2.2.keep bd))
        have K8n := Lib.hid (K8.out.keep bd); clear K8; have K8 := K8n; clear K8n
        have K11n := Lib.hid (And.intro (K11.out.1.keep bd) K11.out.2); clear K11; have K11 := K11n; clear K11n
        have KO := Lib.hid (owns_mono own4 (show w.heap.size + 1 + 1 + 1 ≤ _ from hHeld.2.2.2.2.2.2.2.2.2.1.lt)); clear hHeld own4 bd
        go_wp2_with fail
        first
          | refine hK.out _ _ KS.out (fun hHeld => ?_)
          | refine hK _ _ KS.out (fun hHeld => ?_)
        clear hK K KS
        (try simp only [List.getElem_toArray, List.getElem_cons_succ, List.getElem_cons_zero, Act.put, List.setIfInBounds_toArray, List.set_cons_zero, List.set_cons_succ])
        refine wpAnyH_ready (rs := [9]) (by kernel_rfl) (by simp) (AllReadyH.cons rfl (fun K hK => ?_) AllReadyH.nil)
        (try simp only [List.getElem_toArray, List.getElem_cons_succ, List.getElem_cons_zero, Act.put, List.setIfInBounds_toArray, List.set_cons_zero, List.set_cons_succ])
        have HBB : Below (w.heap.size + 1 + 1 + 1) w4 w4 := Below.refl _ _
        refine wp_append_resL (.tmp 13) (.tmp 15) ?_ (w.heap.size + 1 + 1 + 1) w4 _ l.length l [(r0, r1, r2, r3)] _ 1 1 ?_ ?_ rfl KO.out (reads_one K8.out) HBB hHeld.2.2.2.2.2.2.2.2.2.1.lt (by simp; omega) (by simp) ?_
        · rfl
        · rfl
        · rfl
        intro v7 w7 hown bd7 hgrow
        have KS := Lib.hid (AdH.of (hHeld.2.2.2.2.2.2.2.grow KO.out (hHeld.2.2.2.2.2.2.2.2.2.2.trans (bd7.mono (by omega))) hgrow))
        have K11n := Lib.hid (And.intro (K11.out.1.grow (T' := 66) (by decide) KO.out hgrow) K11.out.2); clear K11; have K11 := K11n; clear K11n
        rw [HM.out, HN.out] at hown
        obtain ⟨a', c', rfl, hc', hrd', -⟩ := own_cap hown
        have K9 := Lib.hid hown
        clear hHeld hown hgrow KO K8 bd7 hc' hrd' HBB
        first
          | refine hK.out _ _ KS.out (fun hHeld => ?_)
          | refine hK _ _ KS.out (fun hHeld => ?_)
        clear hK K KS
        (try simp only [List.getElem_toArray, List.getElem_cons_succ, List.getElem_cons_zero, Act.put, List.setIfInBounds_toArray, List.set_cons_zero, List.set_cons_succ])
        (refine wpAnyH_take (i := 10) (v := ?_) rfl (by kernel_rfl) (by kernel_rfl) (by kernel_rfl) (fun _ _ _ h => h) (Or.inl ⟨by kernel_rfl, ?_⟩) (by assumption) ?_; rotate_left; focus (intro w hSw; (try dsimp only at hSw); go_simp; try with_reducible rfl); (try simp only [List.getElem_toArray, List.getElem_cons_succ, List.getElem_cons_zero, Act.put, List.setIfInBounds_toArray, List.set_cons_zero, List.set_cons_succ]))
        have hcut := Lib.hid (CutAdd.mk (t := t) (wn := wn) K11.out.1 K11.out.2 K9.out hHeld.2.2.2.2.2.2.2)
        obtain ⟨z0, z1, z2, f0, f1, f2⟩ := K11.out.1.three
        clear hHeld
        refine wpAnyH_ready (rs := [12]) (by kernel_rfl) (by simp) ?_; refine AllReadyH.cons rfl (fun K hK => ?_) AllReadyH.nil
        go_simp
        clear z0 z1 z2 f0 f1 f2
        have KS := Lib.hid (AdH.of hcut.out.adS)
        first
          | refine hK.out _ _ KS.out (fun hHeld => ?_)
          | refine hK _ _ KS.out (fun hHeld => ?_)
        clear hK K KS
        (try simp only [List.getElem_toArray, List.getElem_cons_succ, List.getElem_cons_zero, Act.put, List.setIfInBounds_toArray, List.set_cons_zero, List.set_cons_succ])
        clear hHeld
        refine wpAnyH_done (by kernel_rfl) ?_ _
        go_wp2_with fail
        go_meet
        exact hcut
    · go_simp
      have bd := Below.ofNew (w := X0) (.cells #[.int .i64 0, .int .i64 0, .slice none 0 0] 62)
      have KS := Lib.hid (AdH.of (hHeld.2.2.2.2.2.2.2.keep bd))
      have K11 := Lib.hid (And.intro (ObAt.new X0 62 #[.int .i64 0, .int .i64 0, .slice none 0 0]) (show w.heap.size + 1 + 1 < _ from hHeld.2.2.2.2.2.2.2.2.2.1.lt))
      clear hHeld bd
      generalize X0.alloc (.cells #[.int .i64 0, .int .i64 0, .slice none 0 0] 62) = w13 at *
      first
        | refine hK.out _ _ KS.out (fun hHeld => ?_)
        | refine hK _ _ KS.out (fun hHeld => ?_)
      clear hK K KS
      (try simp only [List.getElem_toArray, List.getElem_cons_succ, List.getElem_cons_zero, Act.put, List.setIfInBounds_toArray, List.set_cons_zero, List.set_cons_succ])
      refine wpAnyH_ready (rs := [6, 8]) (by kernel_rfl) (by simp) (AllReadyH.cons rfl (fun K hK => ?_) (AllReadyH.cons rfl (fun K hK => ?_) AllReadyH.nil))
      · go_simp
        go_at_call 111
        refine (HO.out _ hHeld.2.2.2.2.2.2.2.2.2.2).mono ?_; rintro e w4 ⟨v4, rfl, own4, bd⟩
        have KS := Lib.hid (AdH.of (hHeld.2.2.2.2.2.2.2.keep bd))
        have K11n := Lib.hid (And.intro (K11.out.1.keep bd) K11.out.2); clear K11; have K11 := K11n; clear K11n
        have KO := Lib.hid (owns_mono own4 (show w.heap.size + 1 + 1 + 1 ≤ _ from hHeld.2.2.2.2.2.2.2.2.2.1.lt)); clear hHeld own4 bd
        go_wp2_with fail
        first
          | refine hK.out _ _ KS.out (fun hHeld => ?_)
          | refine hK _ _ KS.out (fun hHeld => ?_)
        clear hK K KS
        (try simp only [List.getElem_toArray, List.getElem_cons_succ, List.getElem_cons_zero, Act.put, List.setIfInBounds_toArray, List.set_cons_zero, List.set_cons_succ])
        refine wpAnyH_ready (rs := [8]) (by kernel_rfl) (by simp) (AllReadyH.cons rfl (fun K hK => ?_) AllReadyH.nil)
        go_simp
        have bd := Below.ofNew (w := w4) (.cells #[.int .i64 r0, .int .i64 r1, .int .i64 r2, .int .i64 r3] 66)
        have KS := Lib.hid (AdH.of (hHeld.2.2.2.2.2.2.2.keep bd))
        have KOn := Lib.hid (owns_below KO.out bd); clear KO; have KO := KOn; clear KOn
        have K11n := Lib.hid (And.intro (K11.out.1.keep bd) K11.out.2); clear K11; have K11 := K11n; clear K11n
        have K8 := Lib.hid (ObAt.new w4 66 #[.int .i64 r0, .int .i64 r1, .int .i64 r2, .int .i64 r3])
        clear hHeld bd
        generalize w4.alloc (.cells #[.int .i64 r0, .int .i64 r1, .int .i64 r2, .int .i64 r3] 66) = w6 at *
        first
          | refine hK.out _ _ KS.out (fun hHeld => ?_)
          | refine hK _ _ KS.out (fun hHeld => ?_)
        clear hK K KS
        (try simp only [List.getElem_toArray, List.getElem_cons_succ, List.getElem_cons_zero, Act.put, List.setIfInBounds_toArray, List.set_cons_zero, List.set_cons_succ])
        refine wpAnyH_ready (rs := [9]) (by kernel_rfl) (by simp) (AllReadyH.cons rfl (fun K hK => ?_) AllReadyH.nil)
        (try simp only [List.getElem_toArray, List.getElem_cons_succ, List.getElem_cons_zero, Act.put, List.setIfInBounds_toArray, List.set_cons_zero, List.set_cons_succ])
        have HBB : Below (w.heap.size + 1 + 1 + 1) w6 w6 := Below.refl _ _
        refine wp_append_resL (.tmp 13) (.tmp 15) ?_ (w.heap.size + 1 + 1 + 1) w6 _ l.length l [(r0, r1, r2, r3)] _ 1 1 ?_ ?_ rfl KO.out (reads_one K8.out) HBB hHeld.2.2.2.2.2.2.2.2.2.1.lt (by simp; omega) (by simp) ?_
        · rfl
        · rfl
        · rfl
        intro v7 w7 hown bd7 hgrow
        have KS := Lib.hid (AdH.of (hHeld.2.2.2.2.2.2.2.grow KO.out (hHeld.2.2.2.2.2.2.2.2.2.2.trans (bd7.mono (by omega))) hgrow))
        have K11n := Lib.hid (And.intro (K11.out.1.grow (T' := 66) (by decide) KO.out hgrow) K11.out.2); clear K11; have K11 := K11n; clear K11n
        rw [HM.out, HN.out] at hown
        obtain ⟨a', c', rfl, hc', hrd', -⟩ := own_cap hown
        have K9 := Lib.hid hown
        clear hHeld hown hgrow KO K8 bd7 hc' hrd' HBB
        first
          | refine hK.out _ _ KS.out (fun hHeld => ?_)
          | refine hK _ _ KS.out (fun hHeld => ?_)
        clear hK K KS
        (try simp only [List.getElem_toArray, List.getElem_cons_succ, List.getElem_cons_zero, Act.put, List.setIfInBounds_toArray, List.set_cons_zero, List.set_cons_succ])
        (refine wpAnyH_take (i := 10) (v := ?_) rfl (by kernel_rfl) (by kernel_rfl) (by kernel_rfl) (fun _ _ _ h => h) (Or.inl ⟨by kernel_rfl, ?_⟩) (by assumption) ?_; rotate_left; focus (intro w hSw; (try dsimp only at hSw); go_simp; try with_reducible rfl); (try simp only [List.getElem_toArray, List.getElem_cons_succ, List.getElem_cons_zero, Act.put, List.setIfInBounds_toArray, List.set_cons_zero, List.set_cons_succ]))
        have hcut := Lib.hid (CutAdd.mk (t := t) (wn := wn) K11.out.1 K11.out.2 K9.out hHeld.2.2.2.2.2.2.2)
        obtain ⟨z0, z1, z2, f0, f1, f2⟩ := K11.out.1.three
        clear hHeld
        refine wpAnyH_ready (rs := [12]) (by kernel_rfl) (by simp) ?_; refine AllReadyH.cons rfl (fun K hK => ?_) AllReadyH.nil
        go_simp
        clear z0 z1 z2 f0 f1 f2
        have KS := Lib.hid (AdH.of hcut.out.adS)
        first
          | refine hK.out _ _ KS.out (fun hHeld => ?_)
          | refine hK _ _ KS.out (fun hHeld => ?_)
        clear hK K KS
        (try simp only [List.getElem_toArray, List.getElem_cons_succ, List.getElem_cons_zero, Act.put, List.setIfInBounds_toArray, List.set_cons_zero, List.set_cons_succ])
        clear hHeld
        refine wpAnyH_done (by kernel_rfl) ?_ _
        go_wp2_with fail
        go_meet
        exact hcut
      · go_simp
        have bd := Below.ofNew (w := w13) (.cells #[.int .i64 r0, .int .i64 r1, .int .i64 r2, .int .i64 r3] 66)
        have KS := Lib.hid (AdH.of (hHeld.2.2.2.2.2.2.2.keep bd))
        have K11n := Lib.hid (And.intro (K11.out.1.keep bd) K11.out.2); clear K11; have K11 := K11n; clear K11n
        have K8 := Lib.hid (ObAt.new w13 66 #[.int .i64 r0, .int .i64 r1, .int .i64 r2, .int .i64 r3])
        clear hHeld bd
        generalize w13.alloc (.cells #[.int .i64 r0, .int .i64 r1, .int .i64 r2, .int .i64 r3] 66) = w6 at *
        first
          | refine hK.out _ _ KS.out (fun hHeld => ?_)
          | refine hK _ _ KS.out (fun hHeld => ?_)
        clear hK K KS
        (try simp only [List.getElem_toArray, List.getElem_cons_succ, List.getElem_cons_zero, Act.put, List.setIfInBounds_toArray, List.set_cons_zero, List.set_cons_succ])
        refine wpAnyH_ready (rs := [6]) (by kernel_rfl) (by simp) (AllReadyH.cons rfl (fun K hK => ?_) AllReadyH.nil)
        go_simp
        go_at_call 111
        refine (HO.out _ hHeld.2.2.2.2.2.2.2.2.2.2).mono ?_; rintro e w4 ⟨v4, rfl, own4, bd⟩
        have KS := Lib.hid (AdH.of (hHeld.2.2.2.2.2.2.2.keep bd))
        have K8n := Lib.hid (K8.out.keep bd); clear K8; have K8 := K8n; clear K8n
        have K11n := Lib.hid (And.intro (K11.out.1.keep bd) K11.out.2); clear K11; have K11 := K11n; clear K11n
        have KO := Lib.hid (owns_mono own4 (show w.heap.size + 1 + 1 + 1 ≤ _ from hHeld.2.2.2.2.2.2.2.2.2.1.lt)); clear hHeld own4 bd
        go_wp2_with fail
        first
          | refine hK.out _ _ KS.out (fun hHeld => ?_)
          | refine hK _ _ KS.out (fun hHeld => ?_)
        clear hK K KS
        (try simp only [List.getElem_toArray, List.getElem_cons_succ, List.getElem_cons_zero, Act.put, List.setIfInBounds_toArray, List.set_cons_zero, List.set_cons_succ])
        refine wpAnyH_ready (rs := [9]) (by kernel_rfl) (by simp) (AllReadyH.cons rfl (fun K hK => ?_) AllReadyH.nil)
        (try simp only [List.getElem_toArray, List.getElem_cons_succ, List.getElem_cons_zero, Act.put, List.setIfInBounds_toArray, List.set_cons_zero, List.set_cons_succ])
        have HBB : Below (w.heap.size + 1 + 1 + 1) w4 w4 := Below.refl _ _
        refine wp_append_resL (.tmp 13) (.tmp 15) ?_ (w.heap.size + 1 + 1 + 1) w4 _ l.length l [(r0, r1, r2, r3)] _ 1 1 ?_ ?_ rfl KO.out (reads_one K8.out) HBB hHeld.2.2.2.2.2.2.2.2.2.1.lt (by simp; omega) (by simp) ?_
        · rfl
        · rfl
        · rfl
        intro v7 w7 hown bd7 hgrow
        have KS := Lib.hid (AdH.of (hHeld.2.2.2.2.2.2.2.grow KO.out (hHeld.2.2.2.2.2.2.2.2.2.2.trans (bd7.mono (by omega))) hgrow))
        have K11n := Lib.hid (And.intro (K11.out.1.grow (T' := 66) (by decide) KO.out hgrow) K11.out.2); clear K11; have K11 := K11n; clear K11n
        rw [HM.out, HN.out] at hown
        obtain ⟨a', c', rfl, hc', hrd', -⟩ := own_cap hown
        have K9 := Lib.hid hown
        clear hHeld hown hgrow KO K8 bd7 hc' hrd' HBB
        first
          | refine hK.out _ _ KS.out (fun hHeld => ?_)
          | refine hK _ _ KS.out (fun hHeld => ?_)
        clear hK K KS
        (try simp only [List.getElem_toArray, List.getElem_cons_succ, List.getElem_cons_zero, Act.put, List.setIfInBounds_toArray, List.set_cons_zero, List.set_cons_succ])
        (refine wpAnyH_take (i := 10) (v := ?_) rfl (by kernel_rfl) (by kernel_rfl) (by kernel_rfl) (fun _ _ _ h => h) (Or.inl ⟨by kernel_rfl, ?_⟩) (by assumption) ?_; rotate_left; focus (intro w hSw; (try dsimp only at hSw); go_simp; try with_reducible rfl); (try simp only [List.getElem_toArray, List.getElem_cons_succ, List.getElem_cons_zero, Act.put, List.setIfInBounds_toArray, List.set_cons_zero, List.set_cons_succ]))
        have hcut := Lib.hid (CutAdd.mk (t := t) (wn := wn) K11.out.1 K11.out.2 K9.out hHeld.2.2.2.2.2.2.2)
        obtain ⟨z0, z1, z2, f0, f1, f2⟩ := K11.out.1.three
        clear hHeld
        refine wpAnyH_ready (rs := [12]) (by kernel_rfl) (by simp) ?_; refine AllReadyH.cons rfl (fun K hK => ?_) AllReadyH.nil
        go_simp
        clear z0 z1 z2 f0 f1 f2
        have KS := Lib.hid (AdH.of hcut.out.adS)
        first
          | refine hK.out _ _ KS.out (fun hHeld => ?_)
          | refine hK _ _ KS.out (fun hHeld => ?_)
        clear hK K KS
        (try simp only [List.getElem_toArray, List.getElem_cons_succ, List.getElem_cons_zero, Act.put, List.setIfInBounds_toArray, List.set_cons_zero, List.set_cons_succ])
        clear hHeld
        refine wpAnyH_done (by kernel_rfl) ?_ _
        go_wp2_with fail
        go_meet
        exact hcut
  case rest =>
    clear HS0 HO
    obtain ⟨g, a', c', rfl, hg, hO, hown, hS⟩ := hcut.out
    clear hcut
    obtain ⟨x9, y9, ev, hc', hrd', -⟩ := own_cap hown
    injection ev with ev1 ev2 ev3
    subst ev1 ev3
    clear ev2
    have HRD := Lib.hid hrd'; clear hrd'
    have H0 := Lib.hid (And.intro hO (And.intro hown hS)); clear hO hown hS
    rcases HCS.out with ⟨h1, e1, e2, e3, e4⟩ | ⟨h1, h2, e1, e2, e3, e4⟩ | ⟨h1, h2, e1, e2, e3, e4⟩
    · subst e1 e2 e3 e4
      clear HCS
      have HG1 := HG.out wc H0.out.2.2.2.2.2
      rw [h1] at HG1
      have HG1 := Lib.hid HG1
      obtain ⟨p0, p1, p2, -, -, -⟩ := H0.out.2.2.1.three
      clear h1 HG
      go_wp2_with fail
      refine HG1.out.mono ?_; rintro e w3 ⟨rfl, b3⟩
      have HX := Lib.hid (And.intro (H0.out.2.2.2.2.1.keep b3) (H0.out.2.2.2.2.2.trans (b3.mono H0.out.2.2.2.2.2.size)))
      clear b3 HG1 H0 p0 p1 p2
      obtain ⟨q0, q1, q2, f0, f1, f2⟩ := HX.out.1.three
      have HF := Lib.hid (fun u0 u1 u2 : Value => ((HX.out.2.setCell (p := ⟨w.heap.size + 1 + 1, 0, none⟩) (by simp only; omega) u0).setCell (p := ⟨w.heap.size + 1 + 1, 1, none⟩) (by simp only; omega) u1).setCell (p := ⟨w.heap.size + 1 + 1, 2, none⟩) (by simp only; omega) u2)
      go_wp2_with fail
      refine bodyPost_ret (v := .tuple #[.agg #[.int .i64 0, .int .i64 0, .slice none 0 0], .bool false]) ?_ rfl ⟨none, 0, rfl, owns_nil4 _ _ _, HF.out _ _ _⟩
      simp [results, Try.results65, go_sem, *]
    · subst e1 e2 e3 e4
      clear HCS
      have HG1 := HG.out wc H0.out.2.2.2.2.2
      rw [h1] at HG1
      have HG1 := Lib.hid HG1
      obtain ⟨p0, p1, p2, -, -, -⟩ := H0.out.2.2.1.three
      clear h1 HG
      go_wp2_with fail
      refine HG1.out.mono ?_; rintro e w3 ⟨rfl, b3⟩
      have H1 : Hid (ObAt w3 g 62 #[.int .i64 t, .int .i64 wn, .slice a' m.length c'] ∧ w3.ownsRow w.heap.size 66 4 (.slice a' m.length c') m.length (ress m) ∧ AdS w t wn ad l.length c r0 r1 r2 r3 w3) := ⟨H0.out.1.keep b3, owns_below H0.out.2.1 b3, H0.out.2.2.keep b3⟩
      have HG2 := HGM.out a' c' w3 hc' (HRD.out.old b3)
      rw [h2] at HG2
      have HG2 := Lib.hid HG2
      obtain ⟨y0, y1, y2, -, -, -⟩ := H1.out.1.three
      clear b3 h2 HGM HG1 H0 HRD p0 p1 p2
      go_wp2_with fail
      refine HG2.out.mono ?_; rintro e w4 ⟨rfl, b4⟩
      have HX := Lib.hid (And.intro (H1.out.2.2.2.2.1.keep b4) (H1.out.2.2.2.2.2.trans (b4.mono H1.out.2.2.2.2.2.size)))
      clear b4 HG2 H1 y0 y1 y2
      obtain ⟨q0, q1, q2, f0, f1, f2⟩ := HX.out.1.three
      have HF := Lib.hid (fun u0 u1 u2 : Value => ((HX.out.2.setCell (p := ⟨w.heap.size + 1 + 1, 0, none⟩) (by simp only; omega) u0).setCell (p := ⟨w.heap.size + 1 + 1, 1, none⟩) (by simp only; omega) u1).setCell (p := ⟨w.heap.size + 1 + 1, 2, none⟩) (by simp only; omega) u2)
      go_wp2_with fail
      refine bodyPost_ret (v := .tuple #[.agg #[.int .i64 0, .int .i64 0, .slice none 0 0], .bool false]) ?_ rfl ⟨none, 0, rfl, owns_nil4 _ _ _, HF.out _ _ _⟩
      simp [results, Try.results65, go_sem, *]
    · subst e1 e2 e3 e4
      clear HCS
      have HG1 := HG.out wc H0.out.2.2.2.2.2
      rw [h1] at HG1
      have HG1 := Lib.hid HG1
      obtain ⟨p0, p1, p2, -, -, -⟩ := H0.out.2.2.1.three
      clear h1 HG
      go_wp2_with fail
      refine HG1.out.mono ?_; rintro e w3 ⟨rfl, b3⟩
      have H1 : Hid (ObAt w3 g 62 #[.int .i64 t, .int .i64 wn, .slice a' m.length c'] ∧ w3.ownsRow w.heap.size 66 4 (.slice a' m.length c') m.length (ress m) ∧ AdS w t wn ad l.length c r0 r1 r2 r3 w3) := ⟨H0.out.1.keep b3, owns_below H0.out.2.1 b3, H0.out.2.2.keep b3⟩
      have HG2 := HGM.out a' c' w3 hc' (HRD.out.old b3)
      rw [h2] at HG2
      have HG2 := Lib.hid HG2
      obtain ⟨y0, y1, y2, -, -, -⟩ := H1.out.1.three
      clear b3 h2 HGM HG1 H0 HRD p0 p1 p2
      go_wp2_with fail
      refine HG2.out.mono ?_; rintro e w4 ⟨rfl, b4⟩
      have H2 : Hid (ObAt w4 g 62 #[.int .i64 t, .int .i64 wn, .slice a' m.length c'] ∧ w4.ownsRow w.heap.size 66 4 (.slice a' m.length c') m.length (ress m) ∧ AdS w t wn ad l.length c r0 r1 r2 r3 w4) := ⟨H1.out.1.keep b4, owns_below H1.out.2.1 b4, H1.out.2.2.keep b4⟩
      clear b4 HG2 H1 y0 y1 y2
      obtain ⟨y0, y1, y2, -, -, -⟩ := H2.out.1.three
      obtain ⟨q0, q1, q2, f0, f1, f2⟩ := H2.out.2.2.2.2.1.three
      have HF : Hid (∀ u0 u1 u2 : Value, (((w4.setCell ⟨w.heap.size + 1 + 1, 0, none⟩ u0).setCell ⟨w.heap.size + 1 + 1, 1, none⟩ u1).setCell ⟨w.heap.size + 1 + 1, 2, none⟩ u2).ownsRow w.heap.size 66 4 (.slice a' m.length c') m.length (ress m) ∧ Below w.heap.size w (((w4.setCell ⟨w.heap.size + 1 + 1, 0, none⟩ u0).setCell ⟨w.heap.size + 1 + 1, 1, none⟩ u1).setCell ⟨w.heap.size + 1 + 1, 2, none⟩ u2)) := by
        intro u0 u1 u2
        refine ⟨owns_heap H2.out.2.1 (fun k e => ?_), ((H2.out.2.2.2.2.2.setCell (p := ⟨w.heap.size + 1 + 1, 0, none⟩) (by simp only; omega) u0).setCell (p := ⟨w.heap.size + 1 + 1, 1, none⟩) (by simp only; omega) u1).setCell (p := ⟨w.heap.size + 1 + 1, 2, none⟩) (by simp only; omega) u2⟩
        have hne : k ≠ w.heap.size + 1 + 1 := by
          intro e2
          subst e2
          exact owns_apart (g := w.heap.size + 1 + 1) (T := 62) (fr := (0, 0)) H2.out.2.2.2.2.1 (by decide) H2.out.2.1 e
        rw [Below.heap_setCell _ _ _ _ hne, Below.heap_setCell _ _ _ _ hne, Below.heap_setCell _ _ _ _ hne]
      go_wp2_with fail
      refine bodyPost_ret (v := .tuple #[.agg #[.int .i64 t, .int .i64 wn, .slice a' m.length c'], .bool true]) ?_ rfl ⟨a', c', rfl, (HF.out _ _ _).1, (HF.out _ _ _).2⟩
      simp [results, Try.results65, go_sem, *]
end Go.Proofs.Ythlkndloggmehaa
