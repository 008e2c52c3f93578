/-
  Pins: the model plays on.
-/
import Derived.Test.YteippgbaaipiiaaPnRl
namespace Go.Proofs.Yteippgbaaipiiaa
open Go.RowKit
set_option linter.unusedVariables false
set_option linter.unusedSimpArgs false

def PlayB (F : Nat) (rolls : List Int) (w : World) (g4 g6 k : Nat) (wr : World) : Prop :=
  ∃ s a c, InvG F s ∧ gameG F s (rolls.drop k) = gameG F ([], []) rolls ∧ BoAt wr g6 (frA F s) (.slice a (bsA F s).length c) (stA F s) (overG F s) ∧ Reads wr a (ints (bsA F s)) ∧
    (∀ b off, a = some ⟨b, off, none⟩ → b ≠ g4 ∧ b ≠ g6 ∧ w.heap.size ≤ b) ∧ BoAt wr g4 0 (.slice none 0 0) 0 false ∧ Below w.heap.size w wr

/-- What boPlay hands back: the place, and whether there were rolls. -/
def PlayQ (F : Nat) (o : Option St) (w : World) (e : Ending) (w' : World) : Prop :=
  (∀ s, o = some s → ∃ a c, e = .returned (.tuple #[.agg #[.int .i64 (frA F s), .slice a (bsA F s).length c, .int .i64 (stA F s), .bool (overG F s)], .bool true]) ∧ Reads w' a (ints (bsA F s)) ∧ (∀ b off, a = some ⟨b, off, none⟩ → w.heap.size ≤ b)) ∧
  (o = none → ∃ fr a n c st ov, e = .returned (.tuple #[.agg #[.int .i64 fr, .slice a n c, .int .i64 st, .bool ov], .bool false])) ∧ Below w.heap.size w w'

set_option maxHeartbeats 6400000 in
set_option maxRecDepth 100000 in
theorem boPlayF_any (F : Nat) (h1 : 1 ≤ F) (h2 : F ≤ 10) (rolls : List Int) (a : Option Addr) (c : Nat) (w : World) (hl : (rolls.length : Int) ≤ 1000000000000) (h : Reads w a (ints rolls)) :
    Calls Try.prog 77 #[.int .i64 F, .slice a rolls.length c] w fun e w' => PlayQ F (gameG F ([], []) rolls) w e w' := by
  have HR := Lib.hid h; clear h
  go_enter Try.func77, Try.ntmps77
  go_wp2_with fail
  refine (boStart_any _).mono ?_; rintro e w1 ⟨rfl, b1⟩
  have hz4 := (BoAt.new w 0 (.slice none 0 0) 0 false).keep b1
  have hz1 : w.heap.size < w1.heap.size := by have := b1.size; simp at this; omega
  have hb1 := ((Below.refl w.heap.size w).alloc (Nat.le_refl _) (.cells #[.int .i64 0, .slice none 0 0, .int .i64 0, .bool false] 67)).trans (b1.mono (by simp))
  have hp0 : PlayB F rolls w w.heap.size w1.heap.size 0 (w1.alloc (.cells #[.int .i64 0, .slice none 0 0, .int .i64 10, .bool false] 67)) := by
    obtain ⟨e1, e2, e3, e4⟩ := start_place F h1
    refine ⟨([], []), none, 0, inv_start h1, by simp, ?_, ?_, (fun b off e => by cases e), hz4.old _, hb1.alloc (by omega) _⟩
    · rw [e1, e2, e3, e4]; exact BoAt.new w1 _ _ _ _
    · rw [e2]; exact .inl rfl
  have HP0 := Lib.hid hp0; clear hp0
  have HZ := Lib.hid (And.intro hz4 hb1); clear hz4 hb1 b1
  go_wp2_with fail
  generalize w1.alloc (.cells #[.int .i64 0, .slice none 0 0, .int .i64 10, .bool false] 67) = X at *
  generalize hg6 : w1.heap.size = g6 at *
  have hg6' : w.heap.size ≤ g6 := by omega
  have HG6 := Lib.hid hg6'; clear hg6' hg6
  go_loopw [12] (fun i wr => ∃ k : Nat, i = .int .i64 k ∧ k ≤ rolls.length ∧ Hid (PlayB F rolls w w.heap.size g6 k wr)) (fun i _ => rolls.length - (intOf i).toNat)
  case atStart => exact ⟨0, rfl, Nat.zero_le _, HP0⟩
  case round =>
    clear HP0 HZ
    obtain ⟨k, rfl, hk, hA⟩ := hrel
    obtain ⟨s, a2, c2, hi, hgm, hat, hrd, hne, h4, hbel⟩ := hA.out
    clear hA
    by_cases hlt : k < rolls.length
    · have hkl : (k : Int) < (rolls.length : Int) := by omega
      obtain ⟨b, off, ha, hcell⟩ := ints_cell (HR.out.old hbel) hlt
      subst ha
      have hdr : rolls.drop k = rolls.getD k 0 :: rolls.drop (k + 1) := by rw [List.drop_eq_getElem_cons hlt]; simp [hlt]
      rw [hdr, gameG] at hgm
      clear hdr
      generalize hp : rolls.getD k 0 = p at *
      clear hp
      cases ho : overG F s
      · have e1 : frA F s = s.1.length := by simp [frA, ho]
        have e2 : bsA F s = s.2 := by simp [bsA, ho]
        have e3 : stA F s = leftP s.2 := by simp [stA, e2]
        rw [e1, e2, e3, ho] at hat
        rw [e2] at hrd
        clear e1 e2 e3
        cases hf : fitsG F s p
        · rw [hf] at hgm
          simp only [Bool.false_eq_true, if_false] at hgm
          have HG := Lib.hid hgm; clear hgm
          have hin : inR p 0 (leftP s.2) = false := by rw [← fits_in ho]; exact hf
          have HIN := Lib.hid hin; clear hin hf ho
          have hbd := leftP_bd s.2
          have hfin := h4.stored (s.1.length : Int) (.slice a2 s.2.length c2) (leftP s.2) false
          have Z := Lib.hid hfin.cells; clear hfin
          have HB := Lib.hid (below_four hbel (Nat.le_refl _) (.int .i64 (s.1.length : Int)) (.slice a2 s.2.length c2) (.int .i64 (leftP s.2)) (.bool false))
          have HRF := Lib.hid (reads_other hrd (fun b off e => (hne b off e).1) (heap_four wr w.heap.size (.int .i64 (s.1.length : Int)) (.slice a2 s.2.length c2) (.int .i64 (leftP s.2)) (.bool false)) (by simp))
          obtain ⟨g0, g1, g2, g3⟩ := hat.cells
          obtain ⟨r0, r1, r2, r3⟩ := h4.cells
          have q0 := h4.free 0
          have q1 := h4.free 1
          have q2 := h4.free 2
          have q3 := h4.free 3
          clear hat h4 hbel hrd
          generalize leftP s.2 = st at *
          generalize (s.1.length : Int) = d at *
          go_wp2_with fail
          refine (l1In_any _ _ _ _).mono ?_; rintro e w3 ⟨rfl, rfl⟩
          rw [HIN.out]
          go_wp2_with fail
          obtain ⟨z0, z1, z2, z3⟩ := Z.out
          clear g0 g1 g2 g3 r0 r1 r2 r3 q0 q1 q2 q3
          refine bodyPost_ret (v := .tuple #[.agg #[.int .i64 d, (.slice a2 s.2.length c2), .int .i64 st, .bool false], .bool false]) (by simp [results, Try.results77, go_sem, z0, z1, z2, z3]) rfl ?_
          exact ⟨fun t ht => (by rw [← HG.out] at ht; cases ht), fun _ => ⟨_, _, _, _, _, _, rfl⟩, HB.out⟩
        · rw [hf] at hgm
          simp only [if_true] at hgm
          have HG := Lib.hid hgm; clear hgm
          have hin : inR p 0 (leftP s.2) = true := by rw [← fits_in ho]; exact hf
          have hroll := fun w' (hr : Reads w' a2 (ints s.2)) => roll_any F h1 h2 s p hi hf a2 c2 w' hr
          have hi2 := inv_step hi hf
          have HI2 := Lib.hid hi2; clear hi2
          have HRO := Lib.hid hroll; clear hroll
          have HIN := Lib.hid hin; clear hin hf ho
          have hbd := leftP_bd s.2
          obtain ⟨g0, g1, g2, g3⟩ := hat.cells
          have HAT := Lib.hid (And.intro hat (And.intro hrd (And.intro h4 hbel)))
          have hg46 : w.heap.size ≠ g6 := fun e => by
            have x1 := h4.cells.2.2.2
            subst e
            have x2 := hat; have x3 := h4
            unfold BoAt at x2 x3
            rw [x2] at x3
            simp at x3
            omega
          have hg6 : w.heap.size ≤ g6 := HG6.out
          have hlt4 := h4.lt
          have hlt6 := hat.lt
          clear hat hrd h4 hbel
          generalize leftP s.2 = st at *
          generalize (s.1.length : Int) = d at *
          generalize stepG F s p = t at *
          go_wp2_with fail
          refine (l1In_any _ _ _ _).mono ?_; rintro e w3 ⟨rfl, rfl⟩
          rw [HIN.out]
          go_wp2_with fail
          refine (HRO.out _ HAT.out.2.1).mono ?_; rintro e w4 ⟨a3, c3, rfl, hr3, hf3, b4⟩
          have hat4 := HAT.out.1.keep b4
          have h44 := HAT.out.2.2.1.keep b4
          have hbel4 := HAT.out.2.2.2.trans (b4.mono HAT.out.2.2.2.size)
          have hst := hat4.stored (frA F t : Int) (.slice a3 (bsA F t).length c3) (stA F t) (overG F t)
          have hrst := reads_other hr3 (fun b off e => (by have := hf3 b off e; omega : b ≠ g6)) (heap_four w4 g6 (.int .i64 (frA F t : Int)) (.slice a3 (bsA F t).length c3) (.int .i64 (stA F t)) (.bool (overG F t))) (by simp)
          have h4st : BoAt ((((w4.setCell ⟨g6, 0, none⟩ (.int .i64 (frA F t : Int))).setCell ⟨g6, 1, none⟩ (.slice a3 (bsA F t).length c3)).setCell ⟨g6, 2, none⟩ (.int .i64 (stA F t))).setCell ⟨g6, 3, none⟩ (.bool (overG F t))) w.heap.size 0 (.slice none 0 0) 0 false := by
            unfold BoAt; rw [heap_four w4 g6 _ _ _ _ _ hg46]; exact h44
          have hbst := below_four hbel4 hg6 (.int .i64 (frA F t : Int)) (.slice a3 (bsA F t).length c3) (.int .i64 (stA F t)) (.bool (overG F t))
          have HEND := Lib.hid (And.intro hst (And.intro hrst (And.intro (fun b off e => (by have := hf3 b off e; omega : b ≠ w.heap.size ∧ b ≠ g6 ∧ w.heap.size ≤ b)) (And.intro h4st hbst))))
          clear g0 g1 g2 g3
          obtain ⟨g0, g1, g2, g3⟩ := hat4.cells
          have q0 := hat4.free 0
          have q1 := hat4.free 1
          have q2 := hat4.free 2
          have q3 := hat4.free 3
          clear hst hrst h4st hbst hat4 h44 hbel4 hr3 hf3 b4
          generalize hfr : (frA F t : Int) = fr at *
          generalize hst' : stA F t = st' at *
          have HFR := Lib.hid (And.intro hfr hst'); clear hfr hst'
          go_wp2_with fail
          go_roundw
          case rel =>
            refine ⟨k + 1, by go_num, by omega, Lib.hid ?_⟩
            obtain ⟨e1, e2⟩ := HFR.out
            subst e1 e2
            exact ⟨t, a3, c3, HI2.out, HG.out, HEND.out.1, HEND.out.2.1, HEND.out.2.2.1, HEND.out.2.2.2.1, HEND.out.2.2.2.2⟩
          case measure => simp [intOf]; omega
      · have hf : fitsG F s p = false := fits_over ho
        rw [hf] at hgm
        simp only [Bool.false_eq_true, if_false] at hgm
        have HG := Lib.hid hgm; clear hgm hf
        rw [ho] at hat
        clear ho
        have hfin := h4.stored (frA F s : Int) (.slice a2 (bsA F s).length c2) (stA F s) true
        have Z := Lib.hid hfin.cells; clear hfin
        have HB := Lib.hid (below_four hbel (Nat.le_refl _) (.int .i64 (frA F s : Int)) (.slice a2 (bsA F s).length c2) (.int .i64 (stA F s)) (.bool true))
        have HRF := Lib.hid (reads_other hrd (fun b off e => (hne b off e).1) (heap_four wr w.heap.size (.int .i64 (frA F s : Int)) (.slice a2 (bsA F s).length c2) (.int .i64 (stA F s)) (.bool true)) (by simp))
        obtain ⟨g0, g1, g2, g3⟩ := hat.cells
        obtain ⟨r0, r1, r2, r3⟩ := h4.cells
        have q0 := h4.free 0
        have q1 := h4.free 1
        have q2 := h4.free 2
        have q3 := h4.free 3
        clear hat h4 hbel hrd
        generalize (frA F s : Int) = fr at *
        generalize stA F s = st at *
        go_wp2_with fail
        obtain ⟨z0, z1, z2, z3⟩ := Z.out
        clear g0 g1 g2 g3 r0 r1 r2 r3 q0 q1 q2 q3
        refine bodyPost_ret (v := .tuple #[.agg #[.int .i64 fr, (.slice a2 (bsA F s).length c2), .int .i64 st, .bool true], .bool false]) (by simp [results, Try.results77, go_sem, z0, z1, z2, z3]) rfl ?_
        exact ⟨fun t ht => (by rw [← HG.out] at ht; cases ht), fun _ => ⟨_, _, _, _, _, _, rfl⟩, HB.out⟩
    · obtain rfl : k = rolls.length := by omega
      rw [List.drop_length, gameG] at hgm
      have HG := Lib.hid hgm; clear hgm
      have hfin := h4.stored (frA F s : Int) (.slice a2 (bsA F s).length c2) (stA F s) (overG F s)
      have Z := Lib.hid hfin.cells; clear hfin
      have HB := Lib.hid (below_four hbel (Nat.le_refl _) (.int .i64 (frA F s : Int)) (.slice a2 (bsA F s).length c2) (.int .i64 (stA F s)) (.bool (overG F s)))
      have HRF := Lib.hid (reads_other hrd (fun b off e => (hne b off e).1) (heap_four wr w.heap.size (.int .i64 (frA F s : Int)) (.slice a2 (bsA F s).length c2) (.int .i64 (stA F s)) (.bool (overG F s))) (by simp))
      obtain ⟨g0, g1, g2, g3⟩ := hat.cells
      obtain ⟨r0, r1, r2, r3⟩ := h4.cells
      have q0 := h4.free 0
      have q1 := h4.free 1
      have q2 := h4.free 2
      have q3 := h4.free 3
      clear hat h4 hbel hrd
      generalize hfr : (frA F s : Int) = fr at *
      generalize hst' : stA F s = st' at *
      generalize hov' : overG F s = ov' at *
      have HFR := Lib.hid (And.intro hfr (And.intro hst' hov')); clear hfr hst' hov'
      go_wp2_with fail
      obtain ⟨z0, z1, z2, z3⟩ := Z.out
      clear g0 g1 g2 g3 r0 r1 r2 r3 q0 q1 q2 q3
      refine bodyPost_ret (v := .tuple #[.agg #[.int .i64 fr, (.slice a2 (bsA F s).length c2), .int .i64 st', .bool ov'], .bool true]) (by simp [results, Try.results77, go_sem, z0, z1, z2, z3]) rfl ?_
      refine ⟨fun t ht => ?_, fun hn => (by rw [← HG.out] at hn; cases hn), HB.out⟩
      rw [← HG.out] at ht
      injection ht with ht
      subst ht
      obtain ⟨e1, e2, e3⟩ := HFR.out
      subst e1 e2 e3
      exact ⟨a2, c2, rfl, HRF.out, fun b off e => (hne b off e).2.2⟩


/-- Where somebody is behind all balls that are still rolled. -/
def endG (pick : Int → Bool → Int) (F : Nat) (s : St) : St := (gameG F s (fillG pick F s)).getD ([], [])
theorem end_game {pick : Int → Bool → Int} {F : Nat} {rolls : List Int} {s : St} (hp : fairP pick) (hi : InvG F s) (hg : gameG F ([], []) rolls = some s) : gameG F ([], []) (rolls ++ fillG pick F s) = some (endG pick F s) ∧ overG F (endG pick F s) = true := by
  obtain ⟨t, h1, h2, h3⟩ := fill_game hp (mG F s) s hi (Nat.le_refl _)
  have e : endG pick F s = t := by unfold endG; rw [h1]; rfl
  rw [e, game_append, hg]
  exact ⟨h1, h2⟩

def MoA (pick : Int → Bool → Int) (F : Nat) (full : List Int) (w : World) (g6 : Nat) (v : Value) (wr : World) : Prop :=
  ∃ s gl a c, InvG F s ∧ gameG F ([], []) gl = some s ∧ gl ++ fillG pick F s = full ∧ wr.ownsRow w.heap.size 3 1 v gl.length (ints gl) ∧ BoAt wr g6 (frA F s) (.slice a (bsA F s).length c) (stA F s) (overG F s) ∧ Reads wr a (ints (bsA F s)) ∧
    (bsA F s = [] ∨ ∀ b off, a = some ⟨b, off, none⟩ → b ≠ g6 ∧ some b ≠ v.ownBlock) ∧ Below w.heap.size w wr

set_option maxHeartbeats 6400000 in
set_option maxRecDepth 100000 in
theorem boMost_any (F : Nat) (h1 : 1 ≤ F) (h2 : F ≤ 10) (rolls : List Int) (s0 : St) (hg : gameG F ([], []) rolls = some s0) (a : Option Addr) (c : Nat) (w : World) (h : Reads w a (ints rolls)) :
    Calls Try.prog 70 #[.int .i64 F, .slice a rolls.length c] w fun e w' => e = .returned (.int .i64 (scoresG (endG pickAll F s0)).sum) ∧ Below w.heap.size w w' := by
  have hi0 := game_inv _ _ _ (inv_start h1) hg
  have hl30 := game_len h1 h2 hg
  obtain ⟨hend, hov⟩ := end_game fair_all hi0 hg
  have how := l1Own_any rolls a c w (by omega) h
  have hpl := fun v' c' w' (hr : Reads w' v' (ints rolls)) => boPlayF_any F h1 h2 rolls v' c' w' (by omega) hr
  rw [hg] at hpl
  have hbs := fun v' c' w' (hc' : (rolls ++ fillG pickAll F s0).length ≤ c') (hr : Reads w' v' (ints (rolls ++ fillG pickAll F s0))) => boSum_any F h1 h2 _ _ hend v' c' hc' w' hr
  generalize hfull : rolls ++ fillG pickAll F s0 = full at *
  generalize endG pickAll F s0 = se at *
  have HB := Lib.hid hbs; clear hbs
  have HP := Lib.hid hpl; clear hpl
  have HO := Lib.hid how; clear how h
  have HF := Lib.hid (And.intro hfull (And.intro hg hi0)); clear hfull hg hi0 hend hov
  obtain ⟨i0, hi1, hz0, hz1, hz2⟩ := info_parts infoInt
  have HI := Lib.hid (And.intro hi1 (And.intro hz0 (And.intro hz1 hz2))); clear hi1 hz0 hz1 hz2
  go_enter Try.func70, Try.ntmps70
  go_wp2_with fail
  refine HO.out.mono ?_; rintro e w1 ⟨v, rfl, hown, b1⟩
  obtain ⟨va, vc, rfl, hvc, hvr, -⟩ := own_cap hown
  have H1 := Lib.hid (And.intro hown (And.intro hvr b1)); clear hown hvr b1
  go_wp2_with fail
  refine (HP.out _ _ _ H1.out.2.1).mono ?_; rintro e w2 ⟨hs2, -, b2⟩
  obtain ⟨a2, c2, rfl, hr2, hf2⟩ := hs2 s0 rfl
  have hb2 := H1.out.2.2.trans (b2.mono H1.out.2.2.size)
  have hz2 := hb2.size
  have hma : MoA pickAll F full w w2.heap.size (.slice va rolls.length vc) (w2.alloc (.cells #[.int .i64 (frA F s0 : Int), .slice a2 (bsA F s0).length c2, .int .i64 (stA F s0), .bool (overG F s0)] 67)) := by
    refine ⟨s0, rolls, a2, c2, HF.out.2.2, HF.out.2.1, HF.out.1, owns_below (owns_below H1.out.1 b2) (below_new _ _), BoAt.new w2 _ _ _ _, hr2.old (below_new _ _), ?_, hb2.alloc hz2 _⟩
    by_cases hnb : bsA F s0 = []
    · exact .inl hnb
    · have hpos : 0 < (bsA F s0).length := by
        cases hh : bsA F s0 with
        | nil => exact absurd hh hnb
        | cons _ _ => simp
      obtain ⟨b', o', e', hlt', _⟩ := cells_of_reads hr2 hpos
      refine .inr (fun b off e => ?_)
      rw [e] at e'
      have e3 : (⟨b, off, none⟩ : Addr) = ⟨b', o', none⟩ := Option.some.inj e'
      have e4 : b = b' := congrArg Addr.block e3
      have h3 := hf2 b off e
      refine ⟨by omega, fun e2 => ?_⟩
      have h4 := (owns_ge H1.out.1 e2.symm).2
      omega
  have HM := Lib.hid hma; clear hma hs2 hr2 hf2 b2 hb2
  go_wp2_with fail
  generalize w2.alloc (.cells #[.int .i64 (frA F s0 : Int), .slice a2 (bsA F s0).length c2, .int .i64 (stA F s0), .bool (overG F s0)] 67) = X at *
  generalize hg6 : w2.heap.size = g6 at *
  have HG6 := Lib.hid (show w.heap.size ≤ g6 by omega); clear hg6
  go_loopw [5] (fun v wr => Hid (MoA pickAll F full w g6 v wr)) (fun v _ => 40 - lenOf v)
  case atStart => exact HM
  case round =>
    clear HM HF HP HO H1
    obtain ⟨s, gl, a3, c3, hi, hgm, hfl, hown, hat, hrd, hne, hbel⟩ := hrel.out
    clear hrel
    have hgl := game_len h1 h2 hgm
    obtain ⟨va3, vc3, ev, hvc3, hvr3, -⟩ := own_cap hown
    subst ev
    cases ho : overG F s
    · have e1 : frA F s = s.1.length := by simp [frA, ho]
      have e2 : bsA F s = s.2 := by simp [bsA, ho]
      have e3 : stA F s = leftP s.2 := by simp [stA, e2]
      rw [e1, e2, e3, ho] at hat
      rw [e2] at hrd hne
      clear e1 e2 e3
      have hfits := fits_pick ho (pick := pickAll) fair_all
      have hfs := fill_step (pick := pickAll) fair_all hi ho
      have hbd := leftP_bd s.2
      have hpk : pickAll (leftP s.2) (lastG F s) = leftP s.2 := rfl
      rw [hpk] at hfits hfs
      have hroll := fun w' (hr : Reads w' a3 (ints s.2)) => roll_any F h1 h2 s (leftP s.2) hi hfits a3 c3 w' hr
      have hsn := game_snoc hgm hfits
      have HS := Lib.hid (And.intro hfs (And.intro (inv_step hi hfits) (And.intro hsn hfl))); clear hfs hsn hfl hfits hpk
      have HRO := Lib.hid hroll; clear hroll
      have HX := Lib.hid (And.intro hown (And.intro hat (And.intro hrd (And.intro hne hbel)))); clear hown hrd hne
      have hzw := hbel.size
      obtain ⟨g0, g1, g2, g3⟩ := hat.cells
      clear hat hbel ho hi
      generalize hsd : s.1.length = d at *
      have HSD := Lib.hid hsd; clear hsd
      generalize hst : leftP s.2 = st at *
      have HST := Lib.hid hst; clear hst
      go_wp2_with (at_builtin; refine wpList_append_own_at _ rfl _ _ 22 rfl w.heap.size 3 i0 (.int .i64 0) 1 8 Try.underlying22 HI.out.1 HI.out.2.1 HI.out.2.2.1 HI.out.2.2.2 rfl (by decide) _ _ _ rfl (HX.out.1.alloc _) ⟨wr.heap.size, 0, none⟩ 1 1 [.int .i64 (st)] rfl rfl (cell_one_new _ _ _) ?_ ?_ ?_ ?_ ?_)
      · intro u hu; simp at hu; subst hu; rfl
      · unfold maxLen; omega
      · omega
      · simp; omega
      intro v' w3 hown3 hgrow _ hblk
      have bd := below_new wr (.cells #[.int .i64 (st)] 3)
      have hat3 := (HX.out.2.1.keep bd).grown (by decide) (HX.out.1.alloc _) hgrow
      have hrd3 : Reads w3 a3 (ints s.2) := by
        rcases HX.out.2.2.2.1 with hh | hh
        · exact reads_nil hh
        · exact reads_grown (HX.out.2.2.1.old bd) hgrow (fun b off e => (hh b off e).2)
      have hbl3 := below_grown (HX.out.2.2.2.2.trans (bd.mono hzw)) (HX.out.1.alloc _) hgrow (by simp; omega)
      rw [show ints gl ++ [Value.int .i64 (st)] = ints (gl ++ [(st)]) from by simp [ints]] at hown3
      obtain ⟨va4, vc4, ev, hvc4, hvr4, -⟩ := own_cap hown3
      subst ev
      have H3 := Lib.hid (And.intro hown3 (And.intro hrd3 (And.intro hat3 hbl3)))
      clear g0 g1 g2 g3
      obtain ⟨g0, g1, g2, g3⟩ := hat3.cells
      clear hown3 hgrow hblk hat3 hrd3 hbl3 bd HX hvr4 hzw
      go_wp2_with fail
      refine (HRO.out _ H3.out.2.1).mono ?_; rintro e w5 ⟨a5, c5, rfl, hr5, hf5, b5⟩
      have hat5 := H3.out.2.2.1.keep b5
      have hbl5 := H3.out.2.2.2.trans (b5.mono H3.out.2.2.2.size)
      have hown5 := owns_below H3.out.1 b5
      have hlt6 := H3.out.2.2.1.lt
      generalize ht : stepG F s (st) = t at *
      have hst5 := hat5.stored (frA F t : Int) (.slice a5 (bsA F t).length c5) (stA F t) (overG F t)
      have hrst := reads_other hr5 (fun b off e => (by have := hf5 b off e; omega : b ≠ g6)) (heap_four w5 g6 (.int .i64 (frA F t : Int)) (.slice a5 (bsA F t).length c5) (.int .i64 (stA F t)) (.bool (overG F t))) (by simp)
      have hap := owns_apart hat5 (by decide) hown5
      have how6 := owns_heap hown5 (fun k e => heap_four w5 g6 (.int .i64 (frA F t : Int)) (.slice a5 (bsA F t).length c5) (.int .i64 (stA F t)) (.bool (overG F t)) k (fun ek => hap (by rw [e, ek])))
      have hbst := below_four hbl5 HG6.out (.int .i64 (frA F t : Int)) (.slice a5 (bsA F t).length c5) (.int .i64 (stA F t)) (.bool (overG F t))
      have hnew : bsA F t = [] ∨ ∀ b off, a5 = some (⟨b, off, none⟩ : Addr) → b ≠ g6 ∧ some b ≠ (Value.slice va4 (gl.length + 1) vc4).ownBlock := .inr (fun b off e => by
        have h1 := hf5 b off e
        refine ⟨by omega, fun e2 => ?_⟩
        have := (owns_ge H3.out.1 e2.symm).2; omega)
      have HEND := Lib.hid (And.intro how6 (And.intro hst5 (And.intro hrst (And.intro hnew hbst))))
      clear g0 g1 g2 g3
      obtain ⟨g0, g1, g2, g3⟩ := hat5.cells
      have q0 := hat5.free 0
      have q1 := hat5.free 1
      have q2 := hat5.free 2
      have q3 := hat5.free 3
      clear hst5 hrst hap how6 hbst hnew hat5 hbl5 hown5 hr5 hf5 b5
      generalize hfr : (frA F t : Int) = fr at *
      generalize hst' : stA F t = st' at *
      have HFR := Lib.hid (And.intro hfr hst'); clear hfr hst'
      go_wp2_with fail
      go_roundw
      case rel =>
        obtain ⟨e1, e2⟩ := HFR.out
        subst e1 e2
        refine Lib.hid ⟨t, gl ++ [(st)], a5, c5, HS.out.2.1, HS.out.2.2.1, ?_, ?_, HEND.out.2.1, HEND.out.2.2.1, HEND.out.2.2.2.1, HEND.out.2.2.2.2⟩
        · have hx := HS.out.2.2.2
          rw [HS.out.1] at hx
          simpa using hx
        · rw [show (gl ++ [(st)]).length = gl.length + 1 from by simp]; exact HEND.out.1
      case measure => simp [lenOf]; omega
    · have hfe : gl = full := by rw [fill_over ho, List.append_nil] at hfl; exact hfl
      subst hfe
      rw [ho] at hat
      obtain ⟨g0, g1, g2, g3⟩ := hat.cells
      have HX := Lib.hid (And.intro hvr3 hbel); clear hown hat hrd hne hbel hvr3 ho hi hgm hfl
      have hb2 := fun w' hr => HB.out va3 vc3 w' hvc3 hr
      have HB2 := Lib.hid hb2; clear hb2
      go_wp2_with fail
      refine (HB2.out _ HX.out.1).mono ?_; rintro e w7 ⟨rfl, b7⟩
      have B7 := Lib.hid (HX.out.2.trans (b7.mono HX.out.2.size)); clear b7
      go_wp2_with fail
      go_ret
      exact ⟨rfl, B7.out⟩

set_option maxHeartbeats 6400000 in
set_option maxRecDepth 100000 in
theorem boLeast_any (F : Nat) (h1 : 1 ≤ F) (h2 : F ≤ 10) (rolls : List Int) (s0 : St) (hg : gameG F ([], []) rolls = some s0) (a : Option Addr) (c : Nat) (w : World) (h : Reads w a (ints rolls)) :
    Calls Try.prog 73 #[.int .i64 F, .slice a rolls.length c] w fun e w' => e = .returned (.int .i64 (scoresG (endG pickNone F s0)).sum) ∧ Below w.heap.size w w' := by
  have hi0 := game_inv _ _ _ (inv_start h1) hg
  have hl30 := game_len h1 h2 hg
  obtain ⟨hend, hov⟩ := end_game fair_none hi0 hg
  have how := l1Own_any rolls a c w (by omega) h
  have hpl := fun v' c' w' (hr : Reads w' v' (ints rolls)) => boPlayF_any F h1 h2 rolls v' c' w' (by omega) hr
  rw [hg] at hpl
  have hbs := fun v' c' w' (hc' : (rolls ++ fillG pickNone F s0).length ≤ c') (hr : Reads w' v' (ints (rolls ++ fillG pickNone F s0))) => boSum_any F h1 h2 _ _ hend v' c' hc' w' hr
  generalize hfull : rolls ++ fillG pickNone F s0 = full at *
  generalize endG pickNone F s0 = se at *
  have HB := Lib.hid hbs; clear hbs
  have HP := Lib.hid hpl; clear hpl
  have HO := Lib.hid how; clear how h
  have HF := Lib.hid (And.intro hfull (And.intro hg hi0)); clear hfull hg hi0 hend hov
  obtain ⟨i0, hi1, hz0, hz1, hz2⟩ := info_parts infoInt
  have HI := Lib.hid (And.intro hi1 (And.intro hz0 (And.intro hz1 hz2))); clear hi1 hz0 hz1 hz2
  go_enter Try.func73, Try.ntmps73
  go_wp2_with fail
  refine HO.out.mono ?_; rintro e w1 ⟨v, rfl, hown, b1⟩
  obtain ⟨va, vc, rfl, hvc, hvr, -⟩ := own_cap hown
  have H1 := Lib.hid (And.intro hown (And.intro hvr b1)); clear hown hvr b1
  go_wp2_with fail
  refine (HP.out _ _ _ H1.out.2.1).mono ?_; rintro e w2 ⟨hs2, -, b2⟩
  obtain ⟨a2, c2, rfl, hr2, hf2⟩ := hs2 s0 rfl
  have hb2 := H1.out.2.2.trans (b2.mono H1.out.2.2.size)
  have hz2 := hb2.size
  have hma : MoA pickNone F full w w2.heap.size (.slice va rolls.length vc) (w2.alloc (.cells #[.int .i64 (frA F s0 : Int), .slice a2 (bsA F s0).length c2, .int .i64 (stA F s0), .bool (overG F s0)] 67)) := by
    refine ⟨s0, rolls, a2, c2, HF.out.2.2, HF.out.2.1, HF.out.1, owns_below (owns_below H1.out.1 b2) (below_new _ _), BoAt.new w2 _ _ _ _, hr2.old (below_new _ _), ?_, hb2.alloc hz2 _⟩
    by_cases hnb : bsA F s0 = []
    · exact .inl hnb
    · have hpos : 0 < (bsA F s0).length := by
        cases hh : bsA F s0 with
        | nil => exact absurd hh hnb
        | cons _ _ => simp
      obtain ⟨b', o', e', hlt', _⟩ := cells_of_reads hr2 hpos
      refine .inr (fun b off e => ?_)
      rw [e] at e'
      have e3 : (⟨b, off, none⟩ : Addr) = ⟨b', o', none⟩ := Option.some.inj e'
      have e4 : b = b' := congrArg Addr.block e3
      have h3 := hf2 b off e
      refine ⟨by omega, fun e2 => ?_⟩
      have h4 := (owns_ge H1.out.1 e2.symm).2
      omega
  have HM := Lib.hid hma; clear hma hs2 hr2 hf2 b2 hb2
  go_wp2_with fail
  generalize w2.alloc (.cells #[.int .i64 (frA F s0 : Int), .slice a2 (bsA F s0).length c2, .int .i64 (stA F s0), .bool (overG F s0)] 67) = X at *
  generalize hg6 : w2.heap.size = g6 at *
  have HG6 := Lib.hid (show w.heap.size ≤ g6 by omega); clear hg6
  go_loopw [5] (fun v wr => Hid (MoA pickNone F full w g6 v wr)) (fun v _ => 40 - lenOf v)
  case atStart => exact HM
  case round =>
    clear HM HF HP HO H1
    obtain ⟨s, gl, a3, c3, hi, hgm, hfl, hown, hat, hrd, hne, hbel⟩ := hrel.out
    clear hrel
    have hgl := game_len h1 h2 hgm
    obtain ⟨va3, vc3, ev, hvc3, hvr3, -⟩ := own_cap hown
    subst ev
    cases ho : overG F s
    · have e1 : frA F s = s.1.length := by simp [frA, ho]
      have e2 : bsA F s = s.2 := by simp [bsA, ho]
      have e3 : stA F s = leftP s.2 := by simp [stA, e2]
      rw [e1, e2, e3, ho] at hat
      rw [e2] at hrd hne
      clear e1 e2 e3
      have hfits := fits_pick ho (pick := pickNone) fair_none
      have hfs := fill_step (pick := pickNone) fair_none hi ho
      have hbd := leftP_bd s.2
      have hpk : pickNone (leftP s.2) (lastG F s) = (0 : Int) := rfl
      rw [hpk] at hfits hfs
      have hroll := fun w' (hr : Reads w' a3 (ints s.2)) => roll_any F h1 h2 s ((0 : Int)) hi hfits a3 c3 w' hr
      have hsn := game_snoc hgm hfits
      have HS := Lib.hid (And.intro hfs (And.intro (inv_step hi hfits) (And.intro hsn hfl))); clear hfs hsn hfl hfits hpk
      have HRO := Lib.hid hroll; clear hroll
      have HX := Lib.hid (And.intro hown (And.intro hat (And.intro hrd (And.intro hne hbel)))); clear hown hrd hne
      have hzw := hbel.size
      obtain ⟨g0, g1, g2, g3⟩ := hat.cells
      clear hat hbel ho hi
      generalize hsd : s.1.length = d at *
      have HSD := Lib.hid hsd; clear hsd
      generalize hst : leftP s.2 = st at *
      have HST := Lib.hid hst; clear hst
      go_wp2_with (at_builtin; refine wpList_append_own_at _ rfl _ _ 22 rfl w.heap.size 3 i0 (.int .i64 0) 1 8 Try.underlying22 HI.out.1 HI.out.2.1 HI.out.2.2.1 HI.out.2.2.2 rfl (by decide) _ _ _ rfl (HX.out.1.alloc _) ⟨wr.heap.size, 0, none⟩ 1 1 [.int .i64 ((0 : Int))] rfl rfl (cell_one_new _ _ _) ?_ ?_ ?_ ?_ ?_)
      · intro u hu; simp at hu; subst hu; rfl
      · unfold maxLen; omega
      · omega
      · simp; omega
      intro v' w3 hown3 hgrow _ hblk
      have bd := below_new wr (.cells #[.int .i64 ((0 : Int))] 3)
      have hat3 := (HX.out.2.1.keep bd).grown (by decide) (HX.out.1.alloc _) hgrow
      have hrd3 : Reads w3 a3 (ints s.2) := by
        rcases HX.out.2.2.2.1 with hh | hh
        · exact reads_nil hh
        · exact reads_grown (HX.out.2.2.1.old bd) hgrow (fun b off e => (hh b off e).2)
      have hbl3 := below_grown (HX.out.2.2.2.2.trans (bd.mono hzw)) (HX.out.1.alloc _) hgrow (by simp; omega)
      rw [show ints gl ++ [Value.int .i64 ((0 : Int))] = ints (gl ++ [((0 : Int))]) from by simp [ints]] at hown3
      obtain ⟨va4, vc4, ev, hvc4, hvr4, -⟩ := own_cap hown3
      subst ev
      have H3 := Lib.hid (And.intro hown3 (And.intro hrd3 (And.intro hat3 hbl3)))
      clear g0 g1 g2 g3
      obtain ⟨g0, g1, g2, g3⟩ := hat3.cells
      clear hown3 hgrow hblk hat3 hrd3 hbl3 bd HX hvr4 hzw
      go_wp2_with fail
      refine (HRO.out _ H3.out.2.1).mono ?_; rintro e w5 ⟨a5, c5, rfl, hr5, hf5, b5⟩
      have hat5 := H3.out.2.2.1.keep b5
      have hbl5 := H3.out.2.2.2.trans (b5.mono H3.out.2.2.2.size)
      have hown5 := owns_below H3.out.1 b5
      have hlt6 := H3.out.2.2.1.lt
      generalize ht : stepG F s ((0 : Int)) = t at *
      have hst5 := hat5.stored (frA F t : Int) (.slice a5 (bsA F t).length c5) (stA F t) (overG F t)
      have hrst := reads_other hr5 (fun b off e => (by have := hf5 b off e; omega : b ≠ g6)) (heap_four w5 g6 (.int .i64 (frA F t : Int)) (.slice a5 (bsA F t).length c5) (.int .i64 (stA F t)) (.bool (overG F t))) (by simp)
      have hap := owns_apart hat5 (by decide) hown5
      have how6 := owns_heap hown5 (fun k e => heap_four w5 g6 (.int .i64 (frA F t : Int)) (.slice a5 (bsA F t).length c5) (.int .i64 (stA F t)) (.bool (overG F t)) k (fun ek => hap (by rw [e, ek])))
      have hbst := below_four hbl5 HG6.out (.int .i64 (frA F t : Int)) (.slice a5 (bsA F t).length c5) (.int .i64 (stA F t)) (.bool (overG F t))
      have hnew : bsA F t = [] ∨ ∀ b off, a5 = some (⟨b, off, none⟩ : Addr) → b ≠ g6 ∧ some b ≠ (Value.slice va4 (gl.length + 1) vc4).ownBlock := .inr (fun b off e => by
        have h1 := hf5 b off e
        refine ⟨by omega, fun e2 => ?_⟩
        have := (owns_ge H3.out.1 e2.symm).2; omega)
      have HEND := Lib.hid (And.intro how6 (And.intro hst5 (And.intro hrst (And.intro hnew hbst))))
      clear g0 g1 g2 g3
      obtain ⟨g0, g1, g2, g3⟩ := hat5.cells
      have q0 := hat5.free 0
      have q1 := hat5.free 1
      have q2 := hat5.free 2
      have q3 := hat5.free 3
      clear hst5 hrst hap how6 hbst hnew hat5 hbl5 hown5 hr5 hf5 b5
      generalize hfr : (frA F t : Int) = fr at *
      generalize hst' : stA F t = st' at *
      have HFR := Lib.hid (And.intro hfr hst'); clear hfr hst'
      go_wp2_with fail
      go_roundw
      case rel =>
        obtain ⟨e1, e2⟩ := HFR.out
        subst e1 e2
        refine Lib.hid ⟨t, gl ++ [((0 : Int))], a5, c5, HS.out.2.1, HS.out.2.2.1, ?_, ?_, HEND.out.2.1, HEND.out.2.2.1, HEND.out.2.2.2.1, HEND.out.2.2.2.2⟩
        · have hx := HS.out.2.2.2
          rw [HS.out.1] at hx
          simpa using hx
        · rw [show (gl ++ [((0 : Int))]).length = gl.length + 1 from by simp]; exact HEND.out.1
      case measure => simp [lenOf]; omega
    · have hfe : gl = full := by rw [fill_over ho, List.append_nil] at hfl; exact hfl
      subst hfe
      rw [ho] at hat
      obtain ⟨g0, g1, g2, g3⟩ := hat.cells
      have HX := Lib.hid (And.intro hvr3 hbel); clear hown hat hrd hne hbel hvr3 ho hi hgm hfl
      have hb2 := fun w' hr => HB.out va3 vc3 w' hvc3 hr
      have HB2 := Lib.hid hb2; clear hb2
      go_wp2_with fail
      refine (HB2.out _ HX.out.1).mono ?_; rintro e w7 ⟨rfl, b7⟩
      have B7 := Lib.hid (HX.out.2.trans (b7.mono HX.out.2.size)); clear b7
      go_wp2_with fail
      go_ret
      exact ⟨rfl, B7.out⟩
end Go.Proofs.Yteippgbaaipiiaa
