/-
  Leagues: a result more (the program's).
-/
import Derived.Test.YthlkndloggmehaaLgDropS
namespace Go.Proofs.Ythlkndloggmehaa
open Go.RowKit
set_option linter.unusedVariables false
set_option linter.unusedSimpArgs false

def resV (r : Rs) : Value := .agg #[.int .i64 r.1, .int .i64 r.2.1, .int .i64 r.2.2.1, .int .i64 r.2.2.2]
def okA (t wn : Int) (l : List Rs) (r : Rs) : Bool := goodL t wn l && goodL t wn (l ++ [r])
/-- leagueWith, whatever the results. -/
def lwR (t wn : Int) (l : List Rs) (a : Option Addr) (c : Nat) : Value := if goodL t wn l = true then .tuple #[.agg #[.int .i64 t, .int .i64 wn, .slice a l.length c], .bool true] else .tuple #[.agg #[.int .i64 0, .int .i64 0, .slice none 0 0], .bool false]

set_option maxHeartbeats 1600000 in
theorem leagueWith_bad (t wn : Int) (v0 : Value) (l : List Rs) (hl : (l.length : Int) ≤ 1000000000000) (hgd : goodL t wn l = false) (a : Option Addr) (c : Nat) (hlc : l.length ≤ c) (w : World) (hr : Reads w a (ress l)) :
    Calls Try.prog 115 #[.agg #[.int .i64 t, .int .i64 wn, v0], .slice a l.length c] w fun e w' => e = .returned (.tuple #[.agg #[.int .i64 0, .int .i64 0, .slice none 0 0], .bool false]) ∧ Below w.heap.size w w' := by
  have HB0 : Hid (∀ x y : Obj, Below w.heap.size w ((w.alloc x).alloc y)) := fun x y => by (repeat (first | exact Below.refl _ _ | exact ‹Below _ _ _› | refine Below.drew ?_ | refine Below.alloc ?_ (by first | omega | (simp; done) | (simp; omega)) _ | refine Below.setCell ?_ (by first | omega | (simp; done) | (simp; omega)) _ | refine Below.trans ?_ (Below.mono ‹Below _ _ _› (by first | omega | (simp; done) | (simp; omega)))))
  have HIS := Lib.hid (fun W (hb : Below w.heap.size w W) => isLeague_any t wn l a c W hl hlc (hr.old hb))
  rw [hgd] at HIS
  clear hr hgd
  go_enter Try.func115, Try.ntmps115
  go_wp2_with fail
  have A1 := Lib.hid ((ObAt.new w 62 #[.int .i64 t, .int .i64 wn, .slice a l.length c]).old (.cells #[.int .i64 0, .int .i64 0, .slice none 0 0] 62))
  have A2 := ObAt.new (w.alloc (.cells #[.int .i64 t, .int .i64 wn, .slice a l.length c] 62)) 62 #[.int .i64 0, .int .i64 0, .slice none 0 0]
  rw [World.size_alloc] at A2
  have A2 := Lib.hid A2
  refine (HIS.out _ (HB0.out _ _)).mono ?_; rintro e w1 ⟨rfl, b1⟩
  have H1 := Lib.hid (And.intro (A1.out.keep b1) (And.intro (A2.out.keep b1) ((HB0.out _ _).trans (b1.mono (HB0.out _ _).size)))); clear b1 A1 A2
  obtain ⟨p0, p1, p2, -, -, -⟩ := H1.out.1.three
  obtain ⟨q0, q1, q2, f0, f1, f2⟩ := H1.out.2.1.three
  have HF := Lib.hid (fun u0 u1 u2 : Value => ((H1.out.2.2.setCell (p := ⟨w.heap.size + 1, 0, none⟩) (by simp only; omega) u0).setCell (p := ⟨w.heap.size + 1, 1, none⟩) (by simp only; omega) u1).setCell (p := ⟨w.heap.size + 1, 2, none⟩) (by simp only; omega) u2)
  go_wp2_with fail
  refine bodyPost_ret (v := .tuple #[.agg #[.int .i64 0, .int .i64 0, .slice none 0 0], .bool false]) ?_ rfl ⟨rfl, HF.out _ _ _⟩
  simp [results, Try.results115, go_sem, *]

set_option maxHeartbeats 1600000 in
set_option maxRecDepth 100000 in
theorem implAdd_any (t wn : Int) (l : List Rs) (r0 r1 r2 r3 : Int) (ad : Option Addr) (c : Nat) (w : World) (hl : (l.length : Int) ≤ 1000000000000) (hlc : l.length ≤ c) (hr : Reads w ad (ress l)) :
    Calls Try.prog 68 #[.agg #[.int .i64 t, .int .i64 wn, .slice ad l.length c], .agg #[.int .i64 r0, .int .i64 r1, .int .i64 r2, .int .i64 r3]] w fun e w' => LgR (if okA t wn l (r0, r1, r2, r3) then t else 0) (if okA t wn l (r0, r1, r2, r3) then wn else 0) (if okA t wn l (r0, r1, r2, r3) then l ++ [(r0, r1, r2, r3)] else []) (okA t wn l (r0, r1, r2, r3)) w e w' := by
  obtain ⟨OL, hOL⟩ : ∃ OL : Obj, OL = .cells #[.int .i64 t, .int .i64 wn, .slice ad l.length c] 62 := ⟨_, rfl⟩
  have HB0 : Hid (∀ x y z : Obj, Below w.heap.size w (((w.alloc x).alloc y).alloc z)) := fun x y z => by (repeat (first | exact Below.refl _ _ | exact ‹Below _ _ _› | refine Below.drew ?_ | refine Below.alloc ?_ (by first | omega | (simp; done) | (simp; omega)) _ | refine Below.setCell ?_ (by first | omega | (simp; done) | (simp; omega)) _ | refine Below.trans ?_ (Below.mono ‹Below _ _ _› (by first | omega | (simp; done) | (simp; omega)))))
  clear hOL OL
  have HG := Lib.hid (fun W (hb : Below w.heap.size w W) => isLeague_any t wn l ad c W hl hlc (hr.old hb))
  have HR := Lib.hid hr; clear hr
  have A1 := Lib.hid (((ObAt.new w 62 #[.int .i64 t, .int .i64 wn, .slice ad l.length c]).old (.cells #[.int .i64 r0, .int .i64 r1, .int .i64 r2, .int .i64 r3] 66)).old (.cells #[.int .i64 0, .int .i64 0, .slice none 0 0] 62))
  have A3 := (ObAt.new (w.alloc (.cells #[.int .i64 t, .int .i64 wn, .slice ad l.length c] 62)) 66 #[.int .i64 r0, .int .i64 r1, .int .i64 r2, .int .i64 r3]).old (.cells #[.int .i64 0, .int .i64 0, .slice none 0 0] 62)
  rw [World.size_alloc] at A3
  have A3 := Lib.hid A3
  have A2 := ObAt.new ((w.alloc (.cells #[.int .i64 t, .int .i64 wn, .slice ad l.length c] 62)).alloc (.cells #[.int .i64 r0, .int .i64 r1, .int .i64 r2, .int .i64 r3] 66)) 62 #[.int .i64 0, .int .i64 0, .slice none 0 0]
  rw [World.size_alloc, World.size_alloc] at A2
  have A2 := Lib.hid A2
  cases hg : goodL t wn l
  · have hok : okA t wn l (r0, r1, r2, r3) = false := by unfold okA; rw [hg]; rfl
    rw [hok]; clear hok
    simp only [Bool.false_eq_true, if_false]
    rw [hg] at HG; clear hg
    go_enter Try.func68, Try.ntmps68
    go_wp2_with fail
    refine (HG.out _ (HB0.out _ _ _)).mono ?_; rintro e w1 ⟨rfl, b1⟩
    have H1 := Lib.hid (And.intro (A2.out.keep b1) ((HB0.out _ _ _).trans (b1.mono (HB0.out _ _ _).size))); clear b1 A1 A2 A3
    obtain ⟨q0, q1, q2, f0, f1, f2⟩ := H1.out.1.three
    have HF := Lib.hid (fun u0 u1 u2 : Value => ((H1.out.2.setCell (p := ⟨w.heap.size + 1 + 1, 0, none⟩) (by simp only; omega) u0).setCell (p := ⟨w.heap.size + 1 + 1, 1, none⟩) (by simp only; omega) u1).setCell (p := ⟨w.heap.size + 1 + 1, 2, none⟩) (by simp only; omega) u2)
    go_wp2_with fail
    refine bodyPost_ret (v := .tuple #[.agg #[.int .i64 0, .int .i64 0, .slice none 0 0], .bool false]) ?_ rfl ⟨none, 0, rfl, owns_nil4 _ _ _, HF.out _ _ _⟩
    simp [results, Try.results68, go_sem, *]
  · have h56 := (goodL_bd hg).2.2.2.2
    have hokv : okA t wn l (r0, r1, r2, r3) = goodL t wn (l ++ [(r0, r1, r2, r3)]) := by unfold okA; rw [hg]; rfl
    rw [hokv]; clear hokv
    generalize htt : (if goodL t wn (l ++ [(r0, r1, r2, r3)]) = true then t else 0) = tt
    generalize hww : (if goodL t wn (l ++ [(r0, r1, r2, r3)]) = true then wn else 0) = ww
    generalize hmm : (if goodL t wn (l ++ [(r0, r1, r2, r3)]) = true then l ++ [(r0, r1, r2, r3)] else []) = mm
    generalize hoo : goodL t wn (l ++ [(r0, r1, r2, r3)]) = oo
    have HLW : Hid (∀ a c' (hlc' : (l ++ [(r0, r1, r2, r3)]).length ≤ c') B W (hr' : Reads W a (ress (l ++ [(r0, r1, r2, r3)]))) (ho : W.ownsRow B 66 4 (.slice a (l ++ [(r0, r1, r2, r3)]).length c') (l ++ [(r0, r1, r2, r3)]).length (ress (l ++ [(r0, r1, r2, r3)]))),
        Calls Try.prog 115 #[.agg #[.int .i64 t, .int .i64 wn, .slice ad l.length c], .slice a (l ++ [(r0, r1, r2, r3)]).length c'] W fun e w' => ∃ a4 c4, e = .returned (.tuple #[.agg #[.int .i64 tt, .int .i64 ww, .slice a4 mm.length c4], .bool oo]) ∧ W.ownsRow B 66 4 (.slice a4 mm.length c4) mm.length (ress mm) ∧ Below W.heap.size W w') := fun a c' hlc' B W hr' ho => by
      cases hq : goodL t wn (l ++ [(r0, r1, r2, r3)])
      · rw [hq] at htt hww hmm hoo
        simp only [Bool.false_eq_true, if_false] at htt hww hmm
        subst htt hww hmm hoo
        exact (leagueWith_bad t wn _ _ (by simp; omega) hq a c' hlc' W hr').mono (fun e w' ⟨h1, h2⟩ => ⟨none, 0, h1, owns_nil4 _ _ _, h2⟩)
      · rw [hq] at htt hww hmm hoo
        simp only [if_true] at htt hww hmm
        subst htt hww hmm hoo
        exact (leagueWith_any t wn _ _ hq a c' hlc' W hr').mono (fun e w' ⟨h1, h2⟩ => ⟨a, c', h1, ho, h2⟩)
    clear htt hww hmm hoo
    have HCC : Hid (∀ g g2 W, g < W.heap.size → W.cell? ⟨g, 0, none⟩ = some (.slice ad l.length c) → W.cell? ⟨g, 1, none⟩ = some (.slice (some ⟨g2, 0, none⟩) 1 1) → ObAt W g2 66 #[.int .i64 r0, .int .i64 r1, .int .i64 r2, .int .i64 r3] → Below w.heap.size w W →
        Calls Try.prog 116 #[.slice (some ⟨g, 0, none⟩) 2 2] W fun e w' => ∃ v, e = .returned v ∧ w'.ownsRow W.heap.size 66 4 v (l ++ [(r0, r1, r2, r3)]).length (ress (l ++ [(r0, r1, r2, r3)])) ∧ Below W.heap.size W w') := fun g g2 W h1 h2 h3 h4 hb =>
      concat_any l [(r0, r1, r2, r3)] ad (some ⟨g2, 0, none⟩) c 1 g W (by omega) (by simp) h1 h2 h3 (HR.out.old hb) (.inr ⟨g2, 0, rfl, h4.lt, fun j hj => by
        have hj4 : j < 4 := hj
        rw [Nat.zero_add, h4.cell j]
        have : j = 0 ∨ j = 1 ∨ j = 2 ∨ j = 3 := by omega
        rcases this with rfl | rfl | rfl | rfl <;> rfl⟩) (Or.inl (by simp))
    generalize l ++ [(r0, r1, r2, r3)] = m at *
    have SF : ∀ wi : World, ObAt wi w.heap.size 62 #[.int .i64 t, .int .i64 wn, .slice ad l.length c] → ObAt wi (w.heap.size + 1) 66 #[.int .i64 r0, .int .i64 r1, .int .i64 r2, .int .i64 r3] → ObAt wi (w.heap.size + 1 + 1) 62 #[.int .i64 0, .int .i64 0, .slice none 0 0] → (wi.cell? ⟨w.heap.size, 0, none⟩ = some (.int .i64 t) ∧ wi.cell? ⟨w.heap.size, 1, none⟩ = some (.int .i64 wn) ∧ wi.cell? ⟨w.heap.size, 2, none⟩ = some (.slice ad l.length c) ∧ wi.cell? ⟨w.heap.size + 1, 0, none⟩ = some (.int .i64 r0) ∧ wi.cell? ⟨w.heap.size + 1, 1, none⟩ = some (.int .i64 r1) ∧ wi.cell? ⟨w.heap.size + 1, 2, none⟩ = some (.int .i64 r2) ∧ wi.cell? ⟨w.heap.size + 1, 3, none⟩ = some (.int .i64 r3) ∧ w.heap.size + 1 + 1 < wi.heap.size) :=
      fun wi h1 h2 h3 => ⟨h1.cell 0, h1.cell 1, h1.cell 2, h2.cell 0, h2.cell 1, h2.cell 2, h2.cell 3, h3.lt⟩
    rw [hg] at HG; clear hg
    go_enter Try.func68, Try.ntmps68
    go_wp2_with fail
    refine (HG.out _ (HB0.out _ _ _)).mono ?_; rintro e w1 ⟨rfl, b1⟩
    have H0 : Hid (ObAt w1 w.heap.size 62 #[.int .i64 t, .int .i64 wn, .slice ad l.length c] ∧ ObAt w1 (w.heap.size + 1) 66 #[.int .i64 r0, .int .i64 r1, .int .i64 r2, .int .i64 r3] ∧ ObAt w1 (w.heap.size + 1 + 1) 62 #[.int .i64 0, .int .i64 0, .slice none 0 0] ∧ Below w.heap.size w w1) := ⟨A1.out.keep b1, A3.out.keep b1, A2.out.keep b1, (HB0.out _ _ _).trans (b1.mono (HB0.out _ _ _).size)⟩
    clear b1 A1 A2 A3 HG HB0
    go_wp2_with fail
    refine wp_region_held_drew (S := fun wi => wi.cell? ⟨w.heap.size, 0, none⟩ = some (.int .i64 t) ∧ wi.cell? ⟨w.heap.size, 1, none⟩ = some (.int .i64 wn) ∧ wi.cell? ⟨w.heap.size, 2, none⟩ = some (.slice ad l.length c) ∧ wi.cell? ⟨w.heap.size + 1, 0, none⟩ = some (.int .i64 r0) ∧ wi.cell? ⟨w.heap.size + 1, 1, none⟩ = some (.int .i64 r1) ∧ wi.cell? ⟨w.heap.size + 1, 2, none⟩ = some (.int .i64 r2) ∧ wi.cell? ⟨w.heap.size + 1, 3, none⟩ = some (.int .i64 r3) ∧ w.heap.size + 1 + 1 < wi.heap.size) (by kernel_rfl) (SF _ H0.out.1.drew H0.out.2.1.drew H0.out.2.2.1.drew) (fun hHeld => ?_)
    (refine wpAnyH_take (i := 0) (v := ?_) rfl (by kernel_rfl) (by kernel_rfl) (by kernel_rfl) (fun _ _ _ h => h) (Or.inl ⟨by kernel_rfl, ?_⟩) (by assumption) ?_; rotate_left; focus (intro w hSw; (try dsimp only at hSw); go_simp; try with_reducible rfl); (try simp only [List.getElem_toArray, List.getElem_cons_succ, List.getElem_cons_zero, Act.put, List.setIfInBounds_toArray, List.set_cons_zero, List.set_cons_succ])); (refine wpAnyH_take (i := 1) (v := ?_) rfl (by kernel_rfl) (by kernel_rfl) (by kernel_rfl) (fun _ _ _ h => h) (Or.inl ⟨by kernel_rfl, ?_⟩) (by assumption) ?_; rotate_left; focus (intro w hSw; (try dsimp only at hSw); go_simp; try with_reducible rfl); (try simp only [List.getElem_toArray, List.getElem_cons_succ, List.getElem_cons_zero, Act.put, List.setIfInBounds_toArray, List.set_cons_zero, List.set_cons_succ])); (refine wpAnyH_take (i := 2) (v := ?_) rfl (by kernel_rfl) (by kernel_rfl) (by kernel_rfl) (fun _ _ _ h => h) (Or.inl ⟨by kernel_rfl, ?_⟩) (by assumption) ?_; rotate_left; focus (intro w hSw; (try dsimp only at hSw); go_simp; try with_reducible rfl); (try simp only [List.getElem_toArray, List.getElem_cons_succ, List.getElem_cons_zero, Act.put, List.setIfInBounds_toArray, List.set_cons_zero, List.set_cons_succ])); (refine wpAnyH_take (i := 3) (v := ?_) rfl (by kernel_rfl) (by kernel_rfl) (by kernel_rfl) (fun _ _ _ h => h) (Or.inl ⟨by kernel_rfl, ?_⟩) (by assumption) ?_; rotate_left; focus (intro w hSw; (try dsimp only at hSw); go_simp; try with_reducible rfl); (try simp only [List.getElem_toArray, List.getElem_cons_succ, List.getElem_cons_zero, Act.put, List.setIfInBounds_toArray, List.set_cons_zero, List.set_cons_succ]))
    have hbn := Below.ofNew (w := w1) (.cells #[.int .i64 r0, .int .i64 r1, .int .i64 r2, .int .i64 r3] 66)
    have hbn2 := Below.ofNew (w := w1.alloc (.cells #[.int .i64 r0, .int .i64 r1, .int .i64 r2, .int .i64 r3] 66)) (.cells #[.slice ad l.length c, .slice (some ⟨w1.heap.size, 0, none⟩) 1 1] 60)
    have P1 : Hid (ObAt (w1.alloc (.cells #[.int .i64 r0, .int .i64 r1, .int .i64 r2, .int .i64 r3] 66)) w.heap.size 62 #[.int .i64 t, .int .i64 wn, .slice ad l.length c] ∧ ObAt (w1.alloc (.cells #[.int .i64 r0, .int .i64 r1, .int .i64 r2, .int .i64 r3] 66)) (w.heap.size + 1) 66 #[.int .i64 r0, .int .i64 r1, .int .i64 r2, .int .i64 r3] ∧ ObAt (w1.alloc (.cells #[.int .i64 r0, .int .i64 r1, .int .i64 r2, .int .i64 r3] 66)) (w.heap.size + 1 + 1) 62 #[.int .i64 0, .int .i64 0, .slice none 0 0] ∧ Below w.heap.size w (w1.alloc (.cells #[.int .i64 r0, .int .i64 r1, .int .i64 r2, .int .i64 r3] 66)) ∧ ObAt (w1.alloc (.cells #[.int .i64 r0, .int .i64 r1, .int .i64 r2, .int .i64 r3] 66)) w1.heap.size 66 #[.int .i64 r0, .int .i64 r1, .int .i64 r2, .int .i64 r3]) := ⟨H0.out.1.keep hbn, H0.out.2.1.keep hbn, H0.out.2.2.1.keep hbn, H0.out.2.2.2.trans (hbn.mono H0.out.2.2.2.size), ObAt.new _ _ _⟩
    have P2 : Hid (ObAt ((w1.alloc (.cells #[.int .i64 r0, .int .i64 r1, .int .i64 r2, .int .i64 r3] 66)).alloc (.cells #[.slice ad l.length c, .slice (some ⟨w1.heap.size, 0, none⟩) 1 1] 60)) w.heap.size 62 #[.int .i64 t, .int .i64 wn, .slice ad l.length c] ∧ ObAt ((w1.alloc (.cells #[.int .i64 r0, .int .i64 r1, .int .i64 r2, .int .i64 r3] 66)).alloc (.cells #[.slice ad l.length c, .slice (some ⟨w1.heap.size, 0, none⟩) 1 1] 60)) (w.heap.size + 1) 66 #[.int .i64 r0, .int .i64 r1, .int .i64 r2, .int .i64 r3] ∧ ObAt ((w1.alloc (.cells #[.int .i64 r0, .int .i64 r1, .int .i64 r2, .int .i64 r3] 66)).alloc (.cells #[.slice ad l.length c, .slice (some ⟨w1.heap.size, 0, none⟩) 1 1] 60)) (w.heap.size + 1 + 1) 62 #[.int .i64 0, .int .i64 0, .slice none 0 0] ∧ Below w.heap.size w ((w1.alloc (.cells #[.int .i64 r0, .int .i64 r1, .int .i64 r2, .int .i64 r3] 66)).alloc (.cells #[.slice ad l.length c, .slice (some ⟨w1.heap.size, 0, none⟩) 1 1] 60)) ∧ ObAt ((w1.alloc (.cells #[.int .i64 r0, .int .i64 r1, .int .i64 r2, .int .i64 r3] 66)).alloc (.cells #[.slice ad l.length c, .slice (some ⟨w1.heap.size, 0, none⟩) 1 1] 60)) w1.heap.size 66 #[.int .i64 r0, .int .i64 r1, .int .i64 r2, .int .i64 r3] ∧ ObAt ((w1.alloc (.cells #[.int .i64 r0, .int .i64 r1, .int .i64 r2, .int .i64 r3] 66)).alloc (.cells #[.slice ad l.length c, .slice (some ⟨w1.heap.size, 0, none⟩) 1 1] 60)) (w1.alloc (.cells #[.int .i64 r0, .int .i64 r1, .int .i64 r2, .int .i64 r3] 66)).heap.size 60 #[.slice ad l.length c, .slice (some ⟨w1.heap.size, 0, none⟩) 1 1]) := ⟨P1.out.1.keep hbn2, P1.out.2.1.keep hbn2, P1.out.2.2.1.keep hbn2, P1.out.2.2.2.1.trans (hbn2.mono P1.out.2.2.2.1.size), P1.out.2.2.2.2.keep hbn2, ObAt.new _ _ _⟩
    rw [World.size_alloc] at P2
    have H2 : Hid (ObAt (w1.alloc (.cells #[.int .i64 r0, .int .i64 r1, .int .i64 r2, .int .i64 r3] 66)).drew w.heap.size 62 #[.int .i64 t, .int .i64 wn, .slice ad l.length c] ∧ ObAt (w1.alloc (.cells #[.int .i64 r0, .int .i64 r1, .int .i64 r2, .int .i64 r3] 66)).drew (w.heap.size + 1) 66 #[.int .i64 r0, .int .i64 r1, .int .i64 r2, .int .i64 r3] ∧ ObAt (w1.alloc (.cells #[.int .i64 r0, .int .i64 r1, .int .i64 r2, .int .i64 r3] 66)).drew (w.heap.size + 1 + 1) 62 #[.int .i64 0, .int .i64 0, .slice none 0 0] ∧ Below w.heap.size w (w1.alloc (.cells #[.int .i64 r0, .int .i64 r1, .int .i64 r2, .int .i64 r3] 66)).drew) := ⟨P1.out.1.drew, P1.out.2.1.drew, P1.out.2.2.1.drew, P1.out.2.2.2.1.drew⟩
    have H3 : Hid (ObAt ((w1.alloc (.cells #[.int .i64 r0, .int .i64 r1, .int .i64 r2, .int .i64 r3] 66)).alloc (.cells #[.slice ad l.length c, .slice (some ⟨w1.heap.size, 0, none⟩) 1 1] 60)).drew w.heap.size 62 #[.int .i64 t, .int .i64 wn, .slice ad l.length c] ∧ ObAt ((w1.alloc (.cells #[.int .i64 r0, .int .i64 r1, .int .i64 r2, .int .i64 r3] 66)).alloc (.cells #[.slice ad l.length c, .slice (some ⟨w1.heap.size, 0, none⟩) 1 1] 60)).drew (w.heap.size + 1) 66 #[.int .i64 r0, .int .i64 r1, .int .i64 r2, .int .i64 r3] ∧ ObAt ((w1.alloc (.cells #[.int .i64 r0, .int .i64 r1, .int .i64 r2, .int .i64 r3] 66)).alloc (.cells #[.slice ad l.length c, .slice (some ⟨w1.heap.size, 0, none⟩) 1 1] 60)).drew (w.heap.size + 1 + 1) 62 #[.int .i64 0, .int .i64 0, .slice none 0 0] ∧ Below w.heap.size w ((w1.alloc (.cells #[.int .i64 r0, .int .i64 r1, .int .i64 r2, .int .i64 r3] 66)).alloc (.cells #[.slice ad l.length c, .slice (some ⟨w1.heap.size, 0, none⟩) 1 1] 60)).drew ∧ ObAt ((w1.alloc (.cells #[.int .i64 r0, .int .i64 r1, .int .i64 r2, .int .i64 r3] 66)).alloc (.cells #[.slice ad l.length c, .slice (some ⟨w1.heap.size, 0, none⟩) 1 1] 60)).drew w1.heap.size 66 #[.int .i64 r0, .int .i64 r1, .int .i64 r2, .int .i64 r3] ∧ ObAt ((w1.alloc (.cells #[.int .i64 r0, .int .i64 r1, .int .i64 r2, .int .i64 r3] 66)).alloc (.cells #[.slice ad l.length c, .slice (some ⟨w1.heap.size, 0, none⟩) 1 1] 60)).drew (w1.heap.size + 1) 60 #[.slice ad l.length c, .slice (some ⟨w1.heap.size, 0, none⟩) 1 1]) := ⟨P2.out.1.drew, P2.out.2.1.drew, P2.out.2.2.1.drew, P2.out.2.2.2.1.drew, P2.out.2.2.2.2.1.drew, P2.out.2.2.2.2.2.drew⟩
    clear hbn hbn2 H0 P1 P2
    refine wpAnyH_ready (rs := [4]) (by kernel_rfl) (by simp) ?_; refine AllReadyH.cons rfl (fun K hK => ?_) AllReadyH.nil
    go_simp
    first
      | refine hK.out _ _ (SF _ H2.out.1 H2.out.2.1 H2.out.2.2.1) (fun hHeld => ?_)
      | refine hK _ _ (SF _ H2.out.1 H2.out.2.1 H2.out.2.2.1) (fun hHeld => ?_)
    clear hK K
    (try simp only [List.getElem_toArray, List.getElem_cons_succ, List.getElem_cons_zero, Act.put, List.setIfInBounds_toArray, List.set_cons_zero, List.set_cons_succ])
    clear H2
    refine wpAnyH_ready (rs := [5]) (by kernel_rfl) (by simp) ?_; refine AllReadyH.cons rfl (fun K hK => ?_) AllReadyH.nil
    go_simp
    first
      | refine hK.out _ _ (SF _ H3.out.1 H3.out.2.1 H3.out.2.2.1) (fun hHeld => ?_)
      | refine hK _ _ (SF _ H3.out.1 H3.out.2.1 H3.out.2.2.1) (fun hHeld => ?_)
    clear hK K
    (try simp only [List.getElem_toArray, List.getElem_cons_succ, List.getElem_cons_zero, Act.put, List.setIfInBounds_toArray, List.set_cons_zero, List.set_cons_succ])
    refine wpAnyH_ready (rs := [6]) (by kernel_rfl) (by simp) ?_; refine AllReadyH.cons rfl (fun K hK => ?_) AllReadyH.nil
    go_simp
    go_at_call 116
    refine (HCC.out _ _ _ H3.out.2.2.2.2.2.lt (H3.out.2.2.2.2.2.cell 0) (H3.out.2.2.2.2.2.cell 1) H3.out.2.2.2.2.1 H3.out.2.2.2.1).mono ?_; rintro e w3 ⟨v, rfl, o3, b3⟩
    have H4 : Hid (ObAt w3 w.heap.size 62 #[.int .i64 t, .int .i64 wn, .slice ad l.length c] ∧ ObAt w3 (w.heap.size + 1) 66 #[.int .i64 r0, .int .i64 r1, .int .i64 r2, .int .i64 r3] ∧ ObAt w3 (w.heap.size + 1 + 1) 62 #[.int .i64 0, .int .i64 0, .slice none 0 0] ∧ Below w.heap.size w w3 ∧ w3.ownsRow w.heap.size 66 4 v m.length (ress m)) := ⟨H3.out.1.keep b3, H3.out.2.1.keep b3, H3.out.2.2.1.keep b3, H3.out.2.2.2.1.trans (b3.mono H3.out.2.2.2.1.size), owns_mono o3 H3.out.2.2.2.1.size⟩
    clear b3 o3 H3 HCC
    obtain ⟨a3, c3, rfl, hc3, hrd3, -⟩ := own_cap H4.out.2.2.2.2
    have HR3 := Lib.hid hrd3; clear hrd3
    go_wp2_with fail
    first
      | refine hK.out _ _ (SF _ H4.out.1 H4.out.2.1 H4.out.2.2.1) (fun hHeld => ?_)
      | refine hK _ _ (SF _ H4.out.1 H4.out.2.1 H4.out.2.2.1) (fun hHeld => ?_)
    clear hK K
    (try simp only [List.getElem_toArray, List.getElem_cons_succ, List.getElem_cons_zero, Act.put, List.setIfInBounds_toArray, List.set_cons_zero, List.set_cons_succ])
    refine wpAnyH_ready (rs := [7]) (by kernel_rfl) (by simp) ?_; refine AllReadyH.cons rfl (fun K hK => ?_) AllReadyH.nil
    go_simp
    go_at_call 115
    refine (HLW.out a3 c3 hc3 _ _ HR3.out H4.out.2.2.2.2).mono ?_; rintro e w4 ⟨a4, c4, rfl, o4, b4⟩
    have H5 : Hid (ObAt w4 w.heap.size 62 #[.int .i64 t, .int .i64 wn, .slice ad l.length c] ∧ ObAt w4 (w.heap.size + 1) 66 #[.int .i64 r0, .int .i64 r1, .int .i64 r2, .int .i64 r3] ∧ ObAt w4 (w.heap.size + 1 + 1) 62 #[.int .i64 0, .int .i64 0, .slice none 0 0] ∧ Below w.heap.size w w4 ∧ w4.ownsRow w.heap.size 66 4 (.slice a4 mm.length c4) mm.length (ress mm)) := ⟨H4.out.1.keep b4, H4.out.2.1.keep b4, H4.out.2.2.1.keep b4, H4.out.2.2.2.1.trans (b4.mono H4.out.2.2.2.1.size), owns_below o4 b4⟩
    clear b4 o4 H4 HR3 HLW
    go_wp2_with fail
    first
      | refine hK.out _ _ (SF _ H5.out.1 H5.out.2.1 H5.out.2.2.1) (fun hHeld => ?_)
      | refine hK _ _ (SF _ H5.out.1 H5.out.2.1 H5.out.2.2.1) (fun hHeld => ?_)
    clear hK K
    (try simp only [List.getElem_toArray, List.getElem_cons_succ, List.getElem_cons_zero, Act.put, List.setIfInBounds_toArray, List.set_cons_zero, List.set_cons_succ])
    (refine wpAnyH_take (i := 8) (v := ?_) rfl (by kernel_rfl) (by kernel_rfl) (by kernel_rfl) (fun _ _ _ h => h) (Or.inl ⟨by kernel_rfl, ?_⟩) (by assumption) ?_; rotate_left; focus (intro w hSw; (try dsimp only at hSw); go_simp; try with_reducible rfl); (try simp only [List.getElem_toArray, List.getElem_cons_succ, List.getElem_cons_zero, Act.put, List.setIfInBounds_toArray, List.set_cons_zero, List.set_cons_succ])); (refine wpAnyH_take (i := 9) (v := ?_) rfl (by kernel_rfl) (by kernel_rfl) (by kernel_rfl) (fun _ _ _ h => h) (Or.inl ⟨by kernel_rfl, ?_⟩) (by assumption) ?_; rotate_left; focus (intro w hSw; (try dsimp only at hSw); go_simp; try with_reducible rfl); (try simp only [List.getElem_toArray, List.getElem_cons_succ, List.getElem_cons_zero, Act.put, List.setIfInBounds_toArray, List.set_cons_zero, List.set_cons_succ]))
    obtain ⟨q0, q1, q2, f0, f1, f2⟩ := H5.out.2.2.1.three
    have HF : Hid (∀ u0 u1 u2 : Value, ObAt (((w4.setCell ⟨w.heap.size + 1 + 1, 0, none⟩ u0).setCell ⟨w.heap.size + 1 + 1, 1, none⟩ u1).setCell ⟨w.heap.size + 1 + 1, 2, none⟩ u2) w.heap.size 62 #[.int .i64 t, .int .i64 wn, .slice ad l.length c] ∧ ObAt (((w4.setCell ⟨w.heap.size + 1 + 1, 0, none⟩ u0).setCell ⟨w.heap.size + 1 + 1, 1, none⟩ u1).setCell ⟨w.heap.size + 1 + 1, 2, none⟩ u2) (w.heap.size + 1) 66 #[.int .i64 r0, .int .i64 r1, .int .i64 r2, .int .i64 r3] ∧ ObAt (((w4.setCell ⟨w.heap.size + 1 + 1, 0, none⟩ u0).setCell ⟨w.heap.size + 1 + 1, 1, none⟩ u1).setCell ⟨w.heap.size + 1 + 1, 2, none⟩ u2) (w.heap.size + 1 + 1) 62 #[u0, u1, u2] ∧ Below w.heap.size w (((w4.setCell ⟨w.heap.size + 1 + 1, 0, none⟩ u0).setCell ⟨w.heap.size + 1 + 1, 1, none⟩ u1).setCell ⟨w.heap.size + 1 + 1, 2, none⟩ u2) ∧ (((w4.setCell ⟨w.heap.size + 1 + 1, 0, none⟩ u0).setCell ⟨w.heap.size + 1 + 1, 1, none⟩ u1).setCell ⟨w.heap.size + 1 + 1, 2, none⟩ u2).ownsRow w.heap.size 66 4 (.slice a4 mm.length c4) mm.length (ress mm)) := by
      intro u0 u1 u2
      refine ⟨((H5.out.1.other (by omega) u0).other (by omega) u1).other (by omega) u2, ((H5.out.2.1.other (by omega) u0).other (by omega) u1).other (by omega) u2, ((H5.out.2.2.1.put 0 u0).put 1 u1).put 2 u2, ((H5.out.2.2.2.1.setCell (p := ⟨w.heap.size + 1 + 1, 0, none⟩) (by simp only; omega) u0).setCell (p := ⟨w.heap.size + 1 + 1, 1, none⟩) (by simp only; omega) u1).setCell (p := ⟨w.heap.size + 1 + 1, 2, none⟩) (by simp only; omega) u2, owns_heap H5.out.2.2.2.2 (fun g e => ?_)⟩
      have hne : g ≠ w.heap.size + 1 + 1 := by
        intro e2
        subst e2
        exact owns_apart (g := w.heap.size + 1 + 1) (T := 62) (fr := (0, 0)) H5.out.2.2.1 (by decide) H5.out.2.2.2.2 e
      rw [Below.heap_setCell _ _ _ _ hne, Below.heap_setCell _ _ _ _ hne, Below.heap_setCell _ _ _ _ hne]
    have SG : ∀ (wi : World) (u0 u1 u2 : Value), ObAt wi w.heap.size 62 #[.int .i64 t, .int .i64 wn, .slice ad l.length c] → ObAt wi (w.heap.size + 1) 66 #[.int .i64 r0, .int .i64 r1, .int .i64 r2, .int .i64 r3] → ObAt wi (w.heap.size + 1 + 1) 62 #[u0, u1, u2] → (wi.cell? ⟨w.heap.size, 0, none⟩ = some (.int .i64 t) ∧ wi.cell? ⟨w.heap.size, 1, none⟩ = some (.int .i64 wn) ∧ wi.cell? ⟨w.heap.size, 2, none⟩ = some (.slice ad l.length c) ∧ wi.cell? ⟨w.heap.size + 1, 0, none⟩ = some (.int .i64 r0) ∧ wi.cell? ⟨w.heap.size + 1, 1, none⟩ = some (.int .i64 r1) ∧ wi.cell? ⟨w.heap.size + 1, 2, none⟩ = some (.int .i64 r2) ∧ wi.cell? ⟨w.heap.size + 1, 3, none⟩ = some (.int .i64 r3) ∧ w.heap.size + 1 + 1 < wi.heap.size) :=
      fun wi u0 u1 u2 h1 h2 h3 => ⟨h1.cell 0, h1.cell 1, h1.cell 2, h2.cell 0, h2.cell 1, h2.cell 2, h2.cell 3, h3.lt⟩
    refine wpAnyH_ready (rs := [10]) (by kernel_rfl) (by simp) ?_; refine AllReadyH.cons rfl (fun K hK => ?_) AllReadyH.nil
    go_simp
    first
      | refine hK.out _ _ (SG _ _ _ _ (HF.out _ _ _).1 (HF.out _ _ _).2.1 (HF.out _ _ _).2.2.1) (fun hHeld => ?_)
      | refine hK _ _ (SG _ _ _ _ (HF.out _ _ _).1 (HF.out _ _ _).2.1 (HF.out _ _ _).2.2.1) (fun hHeld => ?_)
    clear hK K
    (try simp only [List.getElem_toArray, List.getElem_cons_succ, List.getElem_cons_zero, Act.put, List.setIfInBounds_toArray, List.set_cons_zero, List.set_cons_succ])
    (refine wpAnyH_take (i := 11) (v := ?_) rfl (by kernel_rfl) (by kernel_rfl) (by kernel_rfl) (fun _ _ _ h => h) (Or.inl ⟨by kernel_rfl, ?_⟩) (by assumption) ?_; rotate_left; focus (intro w hSw; (try dsimp only at hSw); go_simp; try with_reducible rfl); (try simp only [List.getElem_toArray, List.getElem_cons_succ, List.getElem_cons_zero, Act.put, List.setIfInBounds_toArray, List.set_cons_zero, List.set_cons_succ]))
    refine wpAnyH_done (by kernel_rfl) ?_ _
    clear hHeld q0 q1 q2 f0 f1 f2
    obtain ⟨z0, z1, z2, -, -, -⟩ := (HF.out (.int .i64 tt) (.int .i64 ww) (.slice a4 mm.length c4)).2.2.1.three
    go_wp2_with fail
    refine bodyPost_ret (v := .tuple #[.agg #[.int .i64 tt, .int .i64 ww, .slice a4 mm.length c4], .bool oo]) ?_ rfl ⟨a4, c4, rfl, (HF.out _ _ _).2.2.2.2, (HF.out _ _ _).2.2.2.1⟩
    simp [results, Try.results68, go_sem, *]
end Go.Proofs.Ythlkndloggmehaa
