/-
  Leagues: what places a team in the table (the program's).
-/
import Derived.Test.YthbkclgdoopbpaaLgPts
namespace Go.Proofs.Ythbkclgdoopbpaa
open Go.RowKit
set_option linter.unusedVariables false
set_option linter.unusedSimpArgs false

theorem sum_bd {α : Type} (f : α → Int) (m : Int) (h0 : 0 ≤ m) : ∀ l : List α, (∀ x ∈ l, 0 ≤ f x ∧ f x ≤ m) → 0 ≤ (l.map f).sum ∧ (l.map f).sum ≤ m * l.length
  | [], _ => by simp
  | x :: l, h => by
    have h1 := sum_bd f m h0 l (fun y hy => h y (List.mem_cons_of_mem _ hy))
    have h2 := h x (List.mem_cons_self ..)
    simp only [List.map_cons, List.sum_cons, List.length_cons]
    have : m * ((l.length + 1 : Nat) : Int) = m * l.length + m := by rw [show ((l.length + 1 : Nat) : Int) = (l.length : Int) + 1 from by omega, Int.mul_add, Int.mul_one]
    omega
/-- Games whose goals are bounded. -/
def SmallG (gs : List Gm) : Prop := gs.length ≤ 56 ∧ ∀ g ∈ gs, (0 ≤ g.2.1 ∧ g.2.1 ≤ 20) ∧ (0 ≤ g.2.2 ∧ g.2.2 ≤ 20)
theorem SmallG.of {t wn : Int} {l : List Rs} (h : goodL t wn l = true) (team : Int) : SmallG (gamesL l team) := by
  obtain ⟨-, -, -, -, h5⟩ := goodL_bd h
  exact ⟨Nat.le_trans (gamesL_len l team) h5, fun g hg => (gamesL_good h team g hg).2⟩
theorem SmallG.bd {gs : List Gm} (h : SmallG gs) (k : Nat) : (0 ≤ forL (gs.take k) ∧ forL (gs.take k) ≤ 1120) ∧ (0 ≤ agL (gs.take k) ∧ agL (gs.take k) ≤ 1120) := by
  have hl : (gs.take k).length ≤ 56 := by rw [List.length_take]; have := h.1; omega
  have h1 := sum_bd (fun g : Gm => g.2.1) 20 (by omega) (gs.take k) (fun g hg => (h.2 g (List.mem_of_mem_take hg)).1)
  have h2 := sum_bd (fun g : Gm => g.2.2) 20 (by omega) (gs.take k) (fun g hg => (h.2 g (List.mem_of_mem_take hg)).2)
  unfold forL agL
  omega

/-- What holds at the head of each round: the league, the result's variable, the standing. -/
def StAt (w : World) (t wn : Int) (lv : Value) (team : Int) (p f a : Int) (wr : World) : Prop :=
  ObAt wr w.heap.size 40 #[.int .i64 t, .int .i64 wn, lv] ∧ ObAt wr (w.heap.size + 1) 81 #[.int .i64 0, .int .i64 0, .int .i64 0, .int .i64 0] ∧ ObAt wr (w.heap.size + 2) 81 #[.int .i64 team, .int .i64 p, .int .i64 f, .int .i64 a] ∧ Below w.heap.size w wr
theorem StAt.keep {w : World} {t wn : Int} {lv : Value} {team p f a : Int} {wr w' : World} (h : StAt w t wn lv team p f a wr) (hb : Below wr.heap.size wr w') : StAt w t wn lv team p f a w' :=
  ⟨h.1.keep hb, h.2.1.keep hb, h.2.2.1.keep hb, h.2.2.2.trans (hb.mono h.2.2.2.size)⟩

theorem Reads.set {w : World} {a : Option Addr} {cs : List Value} (h : Reads w a cs) {g : Nat} (hne : ∀ b, blockOf a = some b → b ≠ g) (o : Nat) (v : Value) : Reads (w.setCell ⟨g, o, none⟩ v) a cs := by
  rcases h with h | ⟨b, off, rfl, hlt, hc⟩
  · exact .inl h
  · exact .inr ⟨b, off, rfl, by simpa using hlt, fun j hj => by rw [World.cell?_setCell_other _ _ _ _ (by intro e; injection e with e1; exact hne b rfl e1.symm)]; exact hc j hj⟩
/-- What stays while the points are added. -/
def StX (w : World) (t wn : Int) (lv : Value) (team f a : Int) (g : Nat) (o p q : Int) (ag : Option Addr) (gs : List Gm) (Y : World) : Prop :=
  ∃ P', StAt w t wn lv team P' f a Y ∧ ObAt Y g 112 #[.int .i64 o, .int .i64 p, .int .i64 q] ∧ Reads Y ag (gmc gs)
theorem StX.full {w : World} {t wn : Int} {lv : Value} {team f a : Int} {g : Nat} {o p q : Int} {ag : Option Addr} {gs : List Gm} {Y : World} (h : StX w t wn lv team f a g o p q ag gs Y) :
    Y.cell? ⟨w.heap.size, 1, none⟩ = some (.int .i64 wn) ∧ Y.cell? ⟨g, 0, none⟩ = some (.int .i64 o) ∧ Y.cell? ⟨g, 1, none⟩ = some (.int .i64 p) ∧ Y.cell? ⟨g, 2, none⟩ = some (.int .i64 q) ∧ StX w t wn lv team f a g o p q ag gs Y := by
  have h2 := h
  obtain ⟨P', h0, h1, -⟩ := h2
  exact ⟨h0.1.cell 1, h1.cell 0, h1.cell 1, h1.cell 2, h⟩

set_option maxHeartbeats 3200000 in
set_option maxRecDepth 100000 in
theorem standingOf_any (t wn : Int) (l : List Rs) (hgd : goodL t wn l = true) (ad : Option Addr) (c : Nat) (team : Int) (w : World) (hr : Reads w ad (ress l)) :
    Calls Try.prog 51 #[.agg #[.int .i64 t, .int .i64 wn, .slice ad l.length c], .int .i64 team] w fun e w' => e = .returned (.agg #[.int .i64 team, .int .i64 (ptsL wn (gamesL l team)), .int .i64 (forL (gamesL l team)), .int .i64 (agL (gamesL l team))]) ∧ Below w.heap.size w w' := by
  obtain ⟨t2, t8, hw2, hw3, h56⟩ := goodL_bd hgd
  have HSM := Lib.hid (SmallG.of hgd team)
  have HB0 : Hid (∀ x y z : Obj, Below w.heap.size w (((w.alloc x).alloc y).alloc z)) := fun x y z => by (repeat (first | exact Below.refl _ _ | exact ‹Below _ _ _› | refine Below.drew ?_ | refine Below.alloc ?_ (by first | omega | (simp; done) | (simp; omega)) _ | refine Below.setCell ?_ (by first | omega | (simp; done) | (simp; omega)) _ | refine Below.trans ?_ (Below.mono ‹Below _ _ _› (by first | omega | (simp; done) | (simp; omega)))))
  have HS0 : Hid (StAt w t wn (.slice ad l.length c) team 0 0 0 (((w.alloc (.cells #[.int .i64 t, .int .i64 wn, .slice ad l.length c] 40)).alloc (.cells #[.int .i64 0, .int .i64 0, .int .i64 0, .int .i64 0] 81)).alloc (.cells #[.int .i64 team, .int .i64 0, .int .i64 0, .int .i64 0] 81))) :=
    ⟨((ObAt.new w 40 #[.int .i64 t, .int .i64 wn, .slice ad l.length c]).old _).old _, by
      have h := (ObAt.new (w.alloc (.cells #[.int .i64 t, .int .i64 wn, .slice ad l.length c] 40)) 81 #[.int .i64 0, .int .i64 0, .int .i64 0, .int .i64 0]).old (.cells #[.int .i64 team, .int .i64 0, .int .i64 0, .int .i64 0] 81)
      rwa [World.size_alloc] at h, by
      have h := ObAt.new ((w.alloc (.cells #[.int .i64 t, .int .i64 wn, .slice ad l.length c] 40)).alloc (.cells #[.int .i64 0, .int .i64 0, .int .i64 0, .int .i64 0] 81)) 81 #[.int .i64 team, .int .i64 0, .int .i64 0, .int .i64 0]
      rwa [World.size_alloc, World.size_alloc] at h, HB0.out _ _ _⟩
  have HGM := Lib.hid (fun W (hb : Below w.heap.size w W) => gamesOfTeam_any t wn l ad c team W (by omega) (hr.old hb))
  clear hr hgd HB0
  go_enter Try.func51, Try.ntmps51
  go_wp2_with fail
  refine (HGM.out _ HS0.out.2.2.2).mono ?_; rintro e w1 ⟨v, rfl, hown, b1⟩
  obtain ⟨a2, c2, rfl, hrd, -, -, hab⟩ := Reads.own hown
  have hab2 : ∀ b, blockOf a2 = some b → b ≠ w.heap.size + 2 := fun b e => by have := hab b e; simp only [World.size_alloc] at this; omega
  have HAB := Lib.hid hab2; clear hab hab2
  have HS1 := Lib.hid (HS0.out.keep b1)
  have HRD := Lib.hid hrd
  clear hown b1 hrd HS0 HGM
  generalize hgs : gamesL l team = gs at *
  have HGS := Lib.hid hgs; clear hgs
  have h57 := HSM.out.1
  go_wp2_with fail
  go_loopw [14] (fun i wr => ∃ k : Nat, i = .int .i64 k ∧ k ≤ gs.length ∧ Hid (StAt w t wn (.slice ad l.length c) team (ptsL wn (gs.take k)) (forL (gs.take k)) (agL (gs.take k)) wr ∧ Reads wr a2 (gmc gs))) (fun i _ => gs.length - (intOf i).toNat)
  case atStart => exact ⟨0, rfl, Nat.zero_le _, HS1.out, HRD.out⟩
  case round =>
    obtain ⟨k, rfl, hk, hH⟩ := hrel
    by_cases hlt : k < gs.length
    · have b1 : (k : Int) < (gs.length : Int) := by omega
      obtain ⟨b, off, ha, _, hc⟩ := gcells_of_reads hH.out.2 (by omega)
      subst ha
      obtain ⟨c0, c1, c2'⟩ := hc k hlt
      clear hc
      have hp := ptsL_snoc wn (gs.take k) (gs.getD k zG)
      have hf := forL_snoc (gs.take k) (gs.getD k zG)
      have hag := agL_snoc (gs.take k) (gs.getD k zG)
      rw [← gtake_snoc gs k hlt] at hp hf hag
      have hmem : gs.getD k zG ∈ gs := by simp [hlt]
      have hgb := HSM.out.2 _ hmem
      have hpb := ptsL_bd (wn := wn) ⟨hw2, hw3⟩ (gs.take k)
      rw [List.length_take] at hpb
      have hpg := ptsG_bd (wn := wn) ⟨hw2, hw3⟩ (gs.getD k zG)
      obtain ⟨hfb, hab⟩ := HSM.out.bd k
      have HP := Lib.hid (And.intro hp (And.intro hf hag)); clear hp hf hag hmem
      have hst := hH.out.1
      have hbb := hH.out.2
      generalize gs.getD k zG = g at *
      obtain ⟨o, p, q⟩ := g
      simp only at c0 c1 c2' HP hgb
      generalize ptsL wn (gs.take k) = P at *
      generalize forL (gs.take k) = F at *
      generalize agL (gs.take k) = A at *
      generalize hd : ptsG wn (o, p, q) = d at *
      have HD := Lib.hid hd; clear hd
      have hb1 := Below.ofNew (w := wr) (.cells #[.int .i64 o, .int .i64 p, .int .i64 q] 112)
      have HX := Lib.hid (And.intro (hst.keep hb1) (And.intro (ObAt.new wr 112 #[.int .i64 o, .int .i64 p, .int .i64 q]) (hbb.old hb1)))
      have hz := hst.2.2.1.lt
      clear hH hst hbb hb1
      go_wp2_with fail
      have HXD : Hid (StAt w t wn (.slice ad l.length c) team P F A (wr.alloc (.cells #[.int .i64 o, .int .i64 p, .int .i64 q] 112)).drew ∧ ObAt (wr.alloc (.cells #[.int .i64 o, .int .i64 p, .int .i64 q] 112)).drew wr.heap.size 112 #[.int .i64 o, .int .i64 p, .int .i64 q] ∧ Reads (wr.alloc (.cells #[.int .i64 o, .int .i64 p, .int .i64 q] 112)).drew (some ⟨b, off, none⟩) (gmc gs)) := ⟨⟨HX.out.1.1.drew, HX.out.1.2.1.drew, HX.out.1.2.2.1.drew, HX.out.1.2.2.2.drew⟩, HX.out.2.1.drew, HX.out.2.2.old (Below.drew (Below.refl _ _))⟩
      clear HX
      refine wp_region_held_drew (S := fun w' => w'.cell? ⟨w.heap.size, 1, none⟩ = some (.int .i64 wn) ∧ w'.cell? ⟨wr.heap.size, 0, none⟩ = some (.int .i64 o) ∧ w'.cell? ⟨wr.heap.size, 1, none⟩ = some (.int .i64 p) ∧ w'.cell? ⟨wr.heap.size, 2, none⟩ = some (.int .i64 q) ∧ StX w t wn (.slice ad l.length c) team F A wr.heap.size o p q (some ⟨b, off, none⟩) gs w') (by kernel_rfl) (StX.full ⟨P, HXD.out⟩) (fun hHeld => ?_)
      (refine wpAnyH_take (i := 0) (v := ?_) rfl (by kernel_rfl) (by kernel_rfl) (by kernel_rfl) (fun _ _ _ h => h) (Or.inl ⟨by kernel_rfl, ?_⟩) (by assumption) ?_; rotate_left; focus (intro w hSw; (try dsimp only at hSw); go_simp; try with_reducible rfl); (try simp only [List.getElem_toArray, List.getElem_cons_succ, List.getElem_cons_zero, Act.put, List.setIfInBounds_toArray, List.set_cons_zero, List.set_cons_succ])); (refine wpAnyH_take (i := 2) (v := ?_) rfl (by kernel_rfl) (by kernel_rfl) (by kernel_rfl) (fun _ _ _ h => h) (Or.inl ⟨by kernel_rfl, ?_⟩) (by assumption) ?_; rotate_left; focus (intro w hSw; (try dsimp only at hSw); go_simp; try with_reducible rfl); (try simp only [List.getElem_toArray, List.getElem_cons_succ, List.getElem_cons_zero, Act.put, List.setIfInBounds_toArray, List.set_cons_zero, List.set_cons_succ])); (refine wpAnyH_take (i := 3) (v := ?_) rfl (by kernel_rfl) (by kernel_rfl) (by kernel_rfl) (fun _ _ _ h => h) (Or.inl ⟨by kernel_rfl, ?_⟩) (by assumption) ?_; rotate_left; focus (intro w hSw; (try dsimp only at hSw); go_simp; try with_reducible rfl); (try simp only [List.getElem_toArray, List.getElem_cons_succ, List.getElem_cons_zero, Act.put, List.setIfInBounds_toArray, List.set_cons_zero, List.set_cons_succ])); (refine wpAnyH_take (i := 4) (v := ?_) rfl (by kernel_rfl) (by kernel_rfl) (by kernel_rfl) (fun _ _ _ h => h) (Or.inl ⟨by kernel_rfl, ?_⟩) (by assumption) ?_; rotate_left; focus (intro w hSw; (try dsimp only at hSw); go_simp; try with_reducible rfl); (try simp only [List.getElem_toArray, List.getElem_cons_succ, List.getElem_cons_zero, Act.put, List.setIfInBounds_toArray, List.set_cons_zero, List.set_cons_succ]))
      refine wpAnyH_ready (rs := [1, 5]) (by kernel_rfl) (by simp) ?_; refine AllReadyH.cons rfl (fun K hK => ?_) (AllReadyH.cons rfl (fun K hK => ?_) AllReadyH.nil)
      · have cP := HXD.out.1.2.2.1.cell 1
        go_simp
        clear cP
        first
          | refine hK.out _ _ (StX.full ⟨P, HXD.out⟩) (fun hHeld => ?_)
          | refine hK _ _ (StX.full ⟨P, HXD.out⟩) (fun hHeld => ?_)
        clear hK K
        (try simp only [List.getElem_toArray, List.getElem_cons_succ, List.getElem_cons_zero, Act.put, List.setIfInBounds_toArray, List.set_cons_zero, List.set_cons_succ])
        refine wpAnyH_ready (rs := [5]) (by kernel_rfl) (by simp) ?_; refine AllReadyH.cons rfl (fun K hK => ?_) AllReadyH.nil
        go_simp
        go_at_call 77
        refine (points_any o p q wn _).mono ?_; rintro e w5 ⟨rfl, b5⟩
        rw [HD.out]
        have HNX := Lib.hid (And.intro (HXD.out.1.keep b5) (And.intro (HXD.out.2.1.keep b5) (HXD.out.2.2.old b5))); clear b5 HXD
        go_wp2_with fail
        first
          | refine hK.out _ _ (StX.full ⟨P, HNX.out⟩) (fun hHeld => ?_)
          | refine hK _ _ (StX.full ⟨P, HNX.out⟩) (fun hHeld => ?_)
        clear hK K
        (try simp only [List.getElem_toArray, List.getElem_cons_succ, List.getElem_cons_zero, Act.put, List.setIfInBounds_toArray, List.set_cons_zero, List.set_cons_succ])
        have hwr : IntKind.i64.wrap (P + d) = P + d := IntWalk.i64_in _ (by omega)
        (refine wpAnyH_take (i := 6) (v := ?_) rfl (by kernel_rfl) (by kernel_rfl) (by kernel_rfl) (fun _ _ _ h => h) (Or.inl ⟨by kernel_rfl, ?_⟩) (by assumption) ?_; rotate_left; focus (intro w hSw; (try dsimp only at hSw); go_simp; try with_reducible rfl); (try simp only [List.getElem_toArray, List.getElem_cons_succ, List.getElem_cons_zero, Act.put, List.setIfInBounds_toArray, List.set_cons_zero, List.set_cons_succ])); (refine wpAnyH_take (i := 7) (v := ?_) rfl (by kernel_rfl) (by kernel_rfl) (by kernel_rfl) (fun _ _ _ h => h) (Or.inl ⟨by kernel_rfl, ?_⟩) (by assumption) ?_; rotate_left; focus (intro w hSw; (try dsimp only at hSw); go_simp; try with_reducible rfl); (try simp only [List.getElem_toArray, List.getElem_cons_succ, List.getElem_cons_zero, Act.put, List.setIfInBounds_toArray, List.set_cons_zero, List.set_cons_succ]))
        have hA := HNX.out.1.2.2.1
        have cP := hA.cell 1
        have fP := hA.free 1
        have hA2 := hA.put 1 (.int .i64 (P + d))
        have HN8 : Hid (StAt w t wn (.slice ad l.length c) team (P + d) F A (w5.setCell ⟨w.heap.size + 2, 1, none⟩ (.int .i64 (P + d))) ∧ ObAt (w5.setCell ⟨w.heap.size + 2, 1, none⟩ (.int .i64 (P + d))) wr.heap.size 112 #[.int .i64 o, .int .i64 p, .int .i64 q] ∧ Reads (w5.setCell ⟨w.heap.size + 2, 1, none⟩ (.int .i64 (P + d))) (some ⟨b, off, none⟩) (gmc gs)) :=
          ⟨⟨HNX.out.1.1.other (by omega) _, HNX.out.1.2.1.other (by omega) _, hA2, HNX.out.1.2.2.2.setCell (by simp only; omega) _⟩, HNX.out.2.1.other (by omega) _, HNX.out.2.2.set HAB.out _ _⟩
        clear hA hA2 hHeld
        refine wpAnyH_ready (rs := [8]) (by kernel_rfl) (by simp) ?_; refine AllReadyH.cons rfl (fun K hK => ?_) AllReadyH.nil
        go_simp
        clear cP fP hwr
        first
          | refine hK.out _ _ (StX.full ⟨P + d, HN8.out⟩) (fun hHeld => ?_)
          | refine hK _ _ (StX.full ⟨P + d, HN8.out⟩) (fun hHeld => ?_)
        clear hK K
        (try simp only [List.getElem_toArray, List.getElem_cons_succ, List.getElem_cons_zero, Act.put, List.setIfInBounds_toArray, List.set_cons_zero, List.set_cons_succ])
        refine wpAnyH_done (by kernel_rfl) ?_ _
        clear hHeld
        have h8 := HN8.out
        obtain ⟨x0, x1, x2, x3, e0, e1, e2, e3⟩ := h8.1.2.2.1.four
        obtain ⟨m0, m1, m2, -, -, -⟩ := h8.2.1.three
        have hy2 := (h8.1.2.2.1.put 2 (.int .i64 (F + p))).put 3 (.int .i64 (A + q))
        have HN9 := Lib.hid (show StAt w t wn (.slice ad l.length c) team (P + d) (F + p) (A + q) _ ∧ Reads _ (some ⟨b, off, none⟩) (gmc gs) from ⟨⟨(h8.1.1.other (by omega) _).other (by omega) _, (h8.1.2.1.other (by omega) _).other (by omega) _, hy2, (h8.1.2.2.2.setCell (by simp only; omega) _).setCell (by simp only; omega) _⟩, (h8.2.2.set HAB.out 2 (.int .i64 (F + p))).set HAB.out 3 (.int .i64 (A + q))⟩)
        have hne : wr.heap.size ≠ w.heap.size + 2 := by omega
        clear h8 hy2 HN8
        go_wp2_with fail
        go_roundw
        case rel => exact ⟨k + 1, by go_num, by omega, Lib.hid ⟨by rw [HP.out.1, HP.out.2.1, HP.out.2.2]; exact HN9.out.1, HN9.out.2⟩⟩
        case measure => simp [intOf]; omega
      · go_simp
        go_at_call 77
        refine (points_any o p q wn _).mono ?_; rintro e w5 ⟨rfl, b5⟩
        rw [HD.out]
        have HNX := Lib.hid (And.intro (HXD.out.1.keep b5) (And.intro (HXD.out.2.1.keep b5) (HXD.out.2.2.old b5))); clear b5 HXD
        go_wp2_with fail
        first
          | refine hK.out _ _ (StX.full ⟨P, HNX.out⟩) (fun hHeld => ?_)
          | refine hK _ _ (StX.full ⟨P, HNX.out⟩) (fun hHeld => ?_)
        clear hK K
        (try simp only [List.getElem_toArray, List.getElem_cons_succ, List.getElem_cons_zero, Act.put, List.setIfInBounds_toArray, List.set_cons_zero, List.set_cons_succ])
        refine wpAnyH_ready (rs := [1]) (by kernel_rfl) (by simp) ?_; refine AllReadyH.cons rfl (fun K hK => ?_) AllReadyH.nil
        have cP := HNX.out.1.2.2.1.cell 1
        go_simp
        clear cP
        first
          | refine hK.out _ _ (StX.full ⟨P, HNX.out⟩) (fun hHeld => ?_)
          | refine hK _ _ (StX.full ⟨P, HNX.out⟩) (fun hHeld => ?_)
        clear hK K
        (try simp only [List.getElem_toArray, List.getElem_cons_succ, List.getElem_cons_zero, Act.put, List.setIfInBounds_toArray, List.set_cons_zero, List.set_cons_succ])
        have hwr : IntKind.i64.wrap (P + d) = P + d := IntWalk.i64_in _ (by omega)
        (refine wpAnyH_take (i := 6) (v := ?_) rfl (by kernel_rfl) (by kernel_rfl) (by kernel_rfl) (fun _ _ _ h => h) (Or.inl ⟨by kernel_rfl, ?_⟩) (by assumption) ?_; rotate_left; focus (intro w hSw; (try dsimp only at hSw); go_simp; try with_reducible rfl); (try simp only [List.getElem_toArray, List.getElem_cons_succ, List.getElem_cons_zero, Act.put, List.setIfInBounds_toArray, List.set_cons_zero, List.set_cons_succ])); (refine wpAnyH_take (i := 7) (v := ?_) rfl (by kernel_rfl) (by kernel_rfl) (by kernel_rfl) (fun _ _ _ h => h) (Or.inl ⟨by kernel_rfl, ?_⟩) (by assumption) ?_; rotate_left; focus (intro w hSw; (try dsimp only at hSw); go_simp; try with_reducible rfl); (try simp only [List.getElem_toArray, List.getElem_cons_succ, List.getElem_cons_zero, Act.put, List.setIfInBounds_toArray, List.set_cons_zero, List.set_cons_succ]))
        have hA := HNX.out.1.2.2.1
        have cP := hA.cell 1
        have fP := hA.free 1
        have hA2 := hA.put 1 (.int .i64 (P + d))
        have HN8 : Hid (StAt w t wn (.slice ad l.length c) team (P + d) F A (w5.setCell ⟨w.heap.size + 2, 1, none⟩ (.int .i64 (P + d))) ∧ ObAt (w5.setCell ⟨w.heap.size + 2, 1, none⟩ (.int .i64 (P + d))) wr.heap.size 112 #[.int .i64 o, .int .i64 p, .int .i64 q] ∧ Reads (w5.setCell ⟨w.heap.size + 2, 1, none⟩ (.int .i64 (P + d))) (some ⟨b, off, none⟩) (gmc gs)) :=
          ⟨⟨HNX.out.1.1.other (by omega) _, HNX.out.1.2.1.other (by omega) _, hA2, HNX.out.1.2.2.2.setCell (by simp only; omega) _⟩, HNX.out.2.1.other (by omega) _, HNX.out.2.2.set HAB.out _ _⟩
        clear hA hA2 hHeld
        refine wpAnyH_ready (rs := [8]) (by kernel_rfl) (by simp) ?_; refine AllReadyH.cons rfl (fun K hK => ?_) AllReadyH.nil
        go_simp
        clear cP fP hwr
        first
          | refine hK.out _ _ (StX.full ⟨P + d, HN8.out⟩) (fun hHeld => ?_)
          | refine hK _ _ (StX.full ⟨P + d, HN8.out⟩) (fun hHeld => ?_)
        clear hK K
        (try simp only [List.getElem_toArray, List.getElem_cons_succ, List.getElem_cons_zero, Act.put, List.setIfInBounds_toArray, List.set_cons_zero, List.set_cons_succ])
        refine wpAnyH_done (by kernel_rfl) ?_ _
        clear hHeld
        have h8 := HN8.out
        obtain ⟨x0, x1, x2, x3, e0, e1, e2, e3⟩ := h8.1.2.2.1.four
        obtain ⟨m0, m1, m2, -, -, -⟩ := h8.2.1.three
        have hy2 := (h8.1.2.2.1.put 2 (.int .i64 (F + p))).put 3 (.int .i64 (A + q))
        have HN9 := Lib.hid (show StAt w t wn (.slice ad l.length c) team (P + d) (F + p) (A + q) _ ∧ Reads _ (some ⟨b, off, none⟩) (gmc gs) from ⟨⟨(h8.1.1.other (by omega) _).other (by omega) _, (h8.1.2.1.other (by omega) _).other (by omega) _, hy2, (h8.1.2.2.2.setCell (by simp only; omega) _).setCell (by simp only; omega) _⟩, (h8.2.2.set HAB.out 2 (.int .i64 (F + p))).set HAB.out 3 (.int .i64 (A + q))⟩)
        have hne : wr.heap.size ≠ w.heap.size + 2 := by omega
        clear h8 hy2 HN8
        go_wp2_with fail
        go_roundw
        case rel => exact ⟨k + 1, by go_num, by omega, Lib.hid ⟨by rw [HP.out.1, HP.out.2.1, HP.out.2.2]; exact HN9.out.1, HN9.out.2⟩⟩
        case measure => simp [intOf]; omega
    · obtain rfl : k = gs.length := by omega
      have hh := hH.out
      rw [List.take_length] at hh
      obtain ⟨z0, z1, z2, z3, -, -, -, -⟩ := hh.1.2.2.1.four
      obtain ⟨y0, y1, y2, y3, f0, f1, f2, f3⟩ := hh.1.2.1.four
      have HH := Lib.hid hh; clear hh hH
      have HB := Lib.hid (fun u0 u1 u2 u3 => (((HH.out.1.2.2.2.setCell (p := ⟨w.heap.size + 1, 0, none⟩) (by simp only; omega) u0).setCell (p := ⟨w.heap.size + 1, 1, none⟩) (by simp only; omega) u1).setCell (p := ⟨w.heap.size + 1, 2, none⟩) (by simp only; omega) u2).setCell (p := ⟨w.heap.size + 1, 3, none⟩) (by simp only; omega) u3)
      generalize hP : ptsL wn gs = P at *
      generalize hF : forL gs = F at *
      generalize hA : agL gs = A at *
      go_wp2_with fail
      refine bodyPost_ret (v := .agg #[.int .i64 team, .int .i64 P, .int .i64 F, .int .i64 A]) ?_ rfl ⟨by rw [HGS.out, hP, hF, hA], HB.out _ _ _ _⟩
      simp [results, Try.results51, go_sem, *]
end Go.Proofs.Ythbkclgdoopbpaa
