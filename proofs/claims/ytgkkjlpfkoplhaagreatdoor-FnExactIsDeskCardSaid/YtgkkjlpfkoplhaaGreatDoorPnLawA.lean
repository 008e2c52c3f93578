/-
  Pins: the model's way through rolls.
  Pins: what every law over rolls does: the numbers copied, and held against what came in.
  Pins: AreRolls, AreAll, StandingPins: the model's and the program's.
-/
import Derived.Test.YtgkkjlpfkoplhaaGreatDoorPnRoll
import Derived.Test.YtgkkjlpfkoplhaaGreatDoorPnSheet
import Derived.Deep.RegionHeld3
namespace Go.Proofs.YtgkkjlpfkoplhaaGreatDoor.Pn
open Go.RowKit
set_option linter.unusedVariables false
set_option linter.unusedSimpArgs false

def PlaceG (F : Nat) (s : St) (w : World) (e : Ending) (w' : World) : Prop := PlaceR (frA F s) (bsA F s) (stA F s) (overG F s) w e w'

theorem roll_any (F : Nat) (h1 : 1 ≤ F) (h2 : F ≤ 10) (s : St) (p : Int) (hi : InvG F s) (hf : fitsG F s p = true) (a : Option Addr) (c : Nat) (w : World) (h : Reads w a (ints s.2)) :
    Calls Tryz.prog 60 #[.int .i64 F, .agg #[.int .i64 s.1.length, .slice a s.2.length c, .int .i64 (leftP s.2), .bool false], .int .i64 p] w fun e w' => PlaceG F (stepG F s p) w e w' := by
  obtain ⟨ho, hp0, hp1⟩ := fits_parts hf
  have hlt := over_false hi ho
  have hop := inv_open hi ho
  have hbd := leftP_bd s.2
  refine (roll_out F s.1.length h2 hlt s.2 (leftP s.2) p (open_len hop) (small_open hop).2 (by omega) ⟨hp0, hp1⟩ a c w h).mono ?_
  rintro e w' ⟨r1, r2, r3⟩
  unfold PlaceG
  cases hl : lastG F s
  · have hd : s.1.length + 1 < F := by simp [lastG] at hl; omega
    obtain ⟨m1, m2⟩ := roll_mid hi hf hl
    by_cases hc : leftP s.2 - p = 0 ∨ s.2.length + 1 = 2
    · obtain ⟨e1, e2⟩ := m1 hc
      have := r1 hd hc
      have f1 : frA F (stepG F s p) = s.1.length + 1 := by unfold frA; rw [e2, e1]; simp
      have f2 : bsA F (stepG F s p) = [] := by unfold bsA; rw [e2, e1]; simp
      have f3 : stA F (stepG F s p) = 10 := by unfold stA; rw [f2]; rfl
      rw [f1, f2, f3, e2]
      exact this
    · obtain ⟨e1, e2⟩ := m2 hc
      have := r2 hd hc
      have e3 : overG F (stepG F s p) = false := by rw [e1]; simpa [overG] using ho
      have f1 : frA F (stepG F s p) = s.1.length := by unfold frA; rw [e3, e1]; simp
      have f2 : bsA F (stepG F s p) = s.2 ++ [p] := by unfold bsA; rw [e3, e1]; simp
      have f3 : stA F (stepG F s p) = leftP s.2 - p := by unfold stA; rw [f2, e2]
      rw [f1, f2, f3, e3]
      exact this
  · have hd : ¬ s.1.length + 1 < F := by simp [lastG] at hl; omega
    obtain ⟨g1, g2, g3, g4⟩ := roll_last hi hf hl
    have := r3 hd
    rw [g1, g2, g3, g4]
    exact this

set_option maxHeartbeats 800000 in
theorem boStart_any (w : World) :
    Calls Tryz.prog 59 #[] w fun e w' => e = .returned (.agg #[.int .i64 0, .slice none 0 0, .int .i64 10, .bool false]) ∧ Below w.heap.size w w' := by
  go_enter Tryz.func59, Tryz.ntmps59
  go_wp2
  refine bodyPost_ret (v := .agg #[.int .i64 0, .slice none 0 0, .int .i64 10, .bool false]) (by simp [results, Tryz.results59, go_sem]) rfl ⟨rfl, ?_⟩
  (repeat (first | exact Below.refl _ _ | exact ‹Below _ _ _› | refine Below.drew ?_ | refine Below.alloc ?_ (by first | omega | (simp; done) | (simp; omega)) _ | refine Below.setCell ?_ (by first | omega | (simp; done) | (simp; omega)) _ | refine Below.trans ?_ (Below.mono ‹Below _ _ _› (by first | omega | (simp; done) | (simp; omega)))))

def PlayA (F : Nat) (rolls : List Int) (w : World) (g4 g6 k : Nat) (wr : World) : Prop :=
  ∃ s a c, InvG F s ∧ gameG F s (rolls.drop k) = gameG F ([], []) rolls ∧ BoAt wr g6 (frA F s) (.slice a (bsA F s).length c) (stA F s) (overG F s) ∧ Reads wr a (ints (bsA F s)) ∧
    (∀ b off, a = some ⟨b, off, none⟩ → b ≠ g4 ∧ b ≠ g6) ∧ BoAt wr g4 0 (.slice none 0 0) 0 false ∧ Below w.heap.size w wr

/-- What boPlay hands back: the place, and whether there were rolls. -/
def PlayR (F : Nat) (o : Option St) (w : World) (e : Ending) (w' : World) : Prop :=
  (∀ s, o = some s → ∃ a c, e = .returned (.tuple #[.agg #[.int .i64 (frA F s), .slice a (bsA F s).length c, .int .i64 (stA F s), .bool (overG F s)], .bool true]) ∧ Reads w' a (ints (bsA F s))) ∧
  (o = none → ∃ fr a n c st ov, e = .returned (.tuple #[.agg #[.int .i64 fr, .slice a n c, .int .i64 st, .bool ov], .bool false])) ∧ Below w.heap.size w w'

theorem start_place (F : Nat) (h1 : 1 ≤ F) : frA F ([], []) = 0 ∧ bsA F ([], []) = [] ∧ stA F ([], []) = 10 ∧ overG F ([], []) = false := by
  have ho : overG F ([], []) = false := by simp [overG]; omega
  refine ⟨by simp [frA, ho], by simp [bsA, ho], by simp [stA, bsA, ho, leftP], ho⟩
theorem fits_in {F : Nat} {s : St} {p : Int} (ho : overG F s = false) : fitsG F s p = inR p 0 (leftP s.2) := by
  simp [fitsG, inR, ho]

set_option maxHeartbeats 6400000 in
set_option maxRecDepth 100000 in
theorem boPlay_any (F : Nat) (h1 : 1 ≤ F) (h2 : F ≤ 10) (rolls : List Int) (a : Option Addr) (c : Nat) (w : World) (hl : (rolls.length : Int) ≤ 1000000000000) (h : Reads w a (ints rolls)) :
    Calls Tryz.prog 35 #[.int .i64 F, .slice a rolls.length c] w fun e w' => PlayR F (gameG F ([], []) rolls) w e w' := by
  have HR := Lib.hid h; clear h
  go_enter Tryz.func35, Tryz.ntmps35
  go_wp2_with fail
  refine (boStart_any _).mono ?_; rintro e w1 ⟨rfl, b1⟩
  have hz4 := (BoAt.new w 0 (.slice none 0 0) 0 false).keep b1
  have hz1 : w.heap.size < w1.heap.size := by have := b1.size; simp at this; omega
  have hb1 := ((Below.refl w.heap.size w).alloc (Nat.le_refl _) (.cells #[.int .i64 0, .slice none 0 0, .int .i64 0, .bool false] 69)).trans (b1.mono (by simp))
  have hp0 : PlayA F rolls w w.heap.size w1.heap.size 0 (w1.alloc (.cells #[.int .i64 0, .slice none 0 0, .int .i64 10, .bool false] 69)) := by
    obtain ⟨e1, e2, e3, e4⟩ := start_place F h1
    refine ⟨([], []), none, 0, inv_start h1, by simp, ?_, ?_, (fun b off e => by cases e), hz4.old _, hb1.alloc (by omega) _⟩
    · rw [e1, e2, e3, e4]; exact BoAt.new w1 _ _ _ _
    · rw [e2]; exact .inl rfl
  have HP0 := Lib.hid hp0; clear hp0
  have HZ := Lib.hid (And.intro hz4 hb1); clear hz4 hb1 b1
  go_wp2_with fail
  generalize w1.alloc (.cells #[.int .i64 0, .slice none 0 0, .int .i64 10, .bool false] 69) = X at *
  generalize hg6 : w1.heap.size = g6 at *
  have hg6' : w.heap.size ≤ g6 := by omega
  have HG6 := Lib.hid hg6'; clear hg6' hg6
  go_loopw [12] (fun i wr => ∃ k : Nat, i = .int .i64 k ∧ k ≤ rolls.length ∧ Hid (PlayA F rolls w w.heap.size g6 k wr)) (fun i _ => rolls.length - (intOf i).toNat)
  case atStart => exact ⟨0, rfl, Nat.zero_le _, HP0⟩
  case round =>
    clear HP0 HZ
    obtain ⟨k, rfl, hk, hA⟩ := hrel
    obtain ⟨s, a2, c2, hi, hgm, hat, hrd, hne, h4, hbel⟩ := hA.out
    clear hA
    by_cases hlt : k < rolls.length
    · have hkl : (k : Int) < (rolls.length : Int) := by omega
      obtain ⟨b, off, ha, hcell⟩ := ints_cell (HR.out.old hbel) hlt
      subst ha
      have hdr : rolls.drop k = rolls.getD k 0 :: rolls.drop (k + 1) := by rw [List.drop_eq_getElem_cons hlt]; simp [hlt]
      rw [hdr, gameG] at hgm
      clear hdr
      generalize hp : rolls.getD k 0 = p at *
      clear hp
      cases ho : overG F s
      · have e1 : frA F s = s.1.length := by simp [frA, ho]
        have e2 : bsA F s = s.2 := by simp [bsA, ho]
        have e3 : stA F s = leftP s.2 := by simp [stA, e2]
        rw [e1, e2, e3, ho] at hat
        rw [e2] at hrd
        clear e1 e2 e3
        cases hf : fitsG F s p
        · rw [hf] at hgm
          simp only [Bool.false_eq_true, if_false] at hgm
          have HG := Lib.hid hgm; clear hgm
          have hin : inR p 0 (leftP s.2) = false := by rw [← fits_in ho]; exact hf
          have HIN := Lib.hid hin; clear hin hf ho
          have hbd := leftP_bd s.2
          have hfin := h4.stored (s.1.length : Int) (.slice a2 s.2.length c2) (leftP s.2) false
          have Z := Lib.hid hfin.cells; clear hfin
          have HB := Lib.hid (below_four hbel (Nat.le_refl _) (.int .i64 (s.1.length : Int)) (.slice a2 s.2.length c2) (.int .i64 (leftP s.2)) (.bool false))
          have HRF := Lib.hid (reads_other hrd (fun b off e => (hne b off e).1) (heap_four wr w.heap.size (.int .i64 (s.1.length : Int)) (.slice a2 s.2.length c2) (.int .i64 (leftP s.2)) (.bool false)) (by simp))
          obtain ⟨g0, g1, g2, g3⟩ := hat.cells
          obtain ⟨r0, r1, r2, r3⟩ := h4.cells
          have q0 := h4.free 0
          have q1 := h4.free 1
          have q2 := h4.free 2
          have q3 := h4.free 3
          clear hat h4 hbel hrd
          generalize leftP s.2 = st at *
          generalize (s.1.length : Int) = d at *
          go_wp2_with fail
          refine (l1In_any _ _ _ _).mono ?_; rintro e w3 ⟨rfl, rfl⟩
          rw [HIN.out]
          go_wp2_with fail
          obtain ⟨z0, z1, z2, z3⟩ := Z.out
          clear g0 g1 g2 g3 r0 r1 r2 r3 q0 q1 q2 q3
          refine bodyPost_ret (v := .tuple #[.agg #[.int .i64 d, (.slice a2 s.2.length c2), .int .i64 st, .bool false], .bool false]) (by simp [results, Tryz.results35, go_sem, z0, z1, z2, z3]) rfl ?_
          exact ⟨fun t ht => (by rw [← HG.out] at ht; cases ht), fun _ => ⟨_, _, _, _, _, _, rfl⟩, HB.out⟩
        · rw [hf] at hgm
          simp only [if_true] at hgm
          have HG := Lib.hid hgm; clear hgm
          have hin : inR p 0 (leftP s.2) = true := by rw [← fits_in ho]; exact hf
          have hroll := fun w' (hr : Reads w' a2 (ints s.2)) => roll_any F h1 h2 s p hi hf a2 c2 w' hr
          have hi2 := inv_step hi hf
          have HI2 := Lib.hid hi2; clear hi2
          have HRO := Lib.hid hroll; clear hroll
          have HIN := Lib.hid hin; clear hin hf ho
          have hbd := leftP_bd s.2
          obtain ⟨g0, g1, g2, g3⟩ := hat.cells
          have HAT := Lib.hid (And.intro hat (And.intro hrd (And.intro h4 hbel)))
          have hg46 : w.heap.size ≠ g6 := fun e => by
            have x1 := h4.cells.2.2.2
            subst e
            have x2 := hat; have x3 := h4
            unfold BoAt at x2 x3
            rw [x2] at x3
            simp at x3
            omega
          have hg6 : w.heap.size ≤ g6 := HG6.out
          have hlt4 := h4.lt
          have hlt6 := hat.lt
          clear hat hrd h4 hbel
          generalize leftP s.2 = st at *
          generalize (s.1.length : Int) = d at *
          generalize stepG F s p = t at *
          go_wp2_with fail
          refine (l1In_any _ _ _ _).mono ?_; rintro e w3 ⟨rfl, rfl⟩
          rw [HIN.out]
          go_wp2_with fail
          refine (HRO.out _ HAT.out.2.1).mono ?_; rintro e w4 ⟨a3, c3, rfl, hr3, hf3, b4⟩
          have hat4 := HAT.out.1.keep b4
          have h44 := HAT.out.2.2.1.keep b4
          have hbel4 := HAT.out.2.2.2.trans (b4.mono HAT.out.2.2.2.size)
          have hst := hat4.stored (frA F t : Int) (.slice a3 (bsA F t).length c3) (stA F t) (overG F t)
          have hrst := reads_other hr3 (fun b off e => (by have := hf3 b off e; omega : b ≠ g6)) (heap_four w4 g6 (.int .i64 (frA F t : Int)) (.slice a3 (bsA F t).length c3) (.int .i64 (stA F t)) (.bool (overG F t))) (by simp)
          have h4st : BoAt ((((w4.setCell ⟨g6, 0, none⟩ (.int .i64 (frA F t : Int))).setCell ⟨g6, 1, none⟩ (.slice a3 (bsA F t).length c3)).setCell ⟨g6, 2, none⟩ (.int .i64 (stA F t))).setCell ⟨g6, 3, none⟩ (.bool (overG F t))) w.heap.size 0 (.slice none 0 0) 0 false := by
            unfold BoAt; rw [heap_four w4 g6 _ _ _ _ _ hg46]; exact h44
          have hbst := below_four hbel4 hg6 (.int .i64 (frA F t : Int)) (.slice a3 (bsA F t).length c3) (.int .i64 (stA F t)) (.bool (overG F t))
          have HEND := Lib.hid (And.intro hst (And.intro hrst (And.intro (fun b off e => (by have := hf3 b off e; omega : b ≠ w.heap.size ∧ b ≠ g6)) (And.intro h4st hbst))))
          clear g0 g1 g2 g3
          obtain ⟨g0, g1, g2, g3⟩ := hat4.cells
          have q0 := hat4.free 0
          have q1 := hat4.free 1
          have q2 := hat4.free 2
          have q3 := hat4.free 3
          clear hst hrst h4st hbst hat4 h44 hbel4 hr3 hf3 b4
          generalize hfr : (frA F t : Int) = fr at *
          generalize hst' : stA F t = st' at *
          have HFR := Lib.hid (And.intro hfr hst'); clear hfr hst'
          go_wp2_with fail
          go_roundw
          case rel =>
            refine ⟨k + 1, by go_num, by omega, Lib.hid ?_⟩
            obtain ⟨e1, e2⟩ := HFR.out
            subst e1 e2
            exact ⟨t, a3, c3, HI2.out, HG.out, HEND.out.1, HEND.out.2.1, HEND.out.2.2.1, HEND.out.2.2.2.1, HEND.out.2.2.2.2⟩
          case measure => simp [intOf]; omega
      · have hf : fitsG F s p = false := fits_over ho
        rw [hf] at hgm
        simp only [Bool.false_eq_true, if_false] at hgm
        have HG := Lib.hid hgm; clear hgm hf
        rw [ho] at hat
        clear ho
        have hfin := h4.stored (frA F s : Int) (.slice a2 (bsA F s).length c2) (stA F s) true
        have Z := Lib.hid hfin.cells; clear hfin
        have HB := Lib.hid (below_four hbel (Nat.le_refl _) (.int .i64 (frA F s : Int)) (.slice a2 (bsA F s).length c2) (.int .i64 (stA F s)) (.bool true))
        have HRF := Lib.hid (reads_other hrd (fun b off e => (hne b off e).1) (heap_four wr w.heap.size (.int .i64 (frA F s : Int)) (.slice a2 (bsA F s).length c2) (.int .i64 (stA F s)) (.bool true)) (by simp))
        obtain ⟨g0, g1, g2, g3⟩ := hat.cells
        obtain ⟨r0, r1, r2, r3⟩ := h4.cells
        have q0 := h4.free 0
        have q1 := h4.free 1
        have q2 := h4.free 2
        have q3 := h4.free 3
        clear hat h4 hbel hrd
        generalize (frA F s : Int) = fr at *
        generalize stA F s = st at *
        go_wp2_with fail
        obtain ⟨z0, z1, z2, z3⟩ := Z.out
        clear g0 g1 g2 g3 r0 r1 r2 r3 q0 q1 q2 q3
        refine bodyPost_ret (v := .tuple #[.agg #[.int .i64 fr, (.slice a2 (bsA F s).length c2), .int .i64 st, .bool true], .bool false]) (by simp [results, Tryz.results35, go_sem, z0, z1, z2, z3]) rfl ?_
        exact ⟨fun t ht => (by rw [← HG.out] at ht; cases ht), fun _ => ⟨_, _, _, _, _, _, rfl⟩, HB.out⟩
    · obtain rfl : k = rolls.length := by omega
      rw [List.drop_length, gameG] at hgm
      have HG := Lib.hid hgm; clear hgm
      have hfin := h4.stored (frA F s : Int) (.slice a2 (bsA F s).length c2) (stA F s) (overG F s)
      have Z := Lib.hid hfin.cells; clear hfin
      have HB := Lib.hid (below_four hbel (Nat.le_refl _) (.int .i64 (frA F s : Int)) (.slice a2 (bsA F s).length c2) (.int .i64 (stA F s)) (.bool (overG F s)))
      have HRF := Lib.hid (reads_other hrd (fun b off e => (hne b off e).1) (heap_four wr w.heap.size (.int .i64 (frA F s : Int)) (.slice a2 (bsA F s).length c2) (.int .i64 (stA F s)) (.bool (overG F s))) (by simp))
      obtain ⟨g0, g1, g2, g3⟩ := hat.cells
      obtain ⟨r0, r1, r2, r3⟩ := h4.cells
      have q0 := h4.free 0
      have q1 := h4.free 1
      have q2 := h4.free 2
      have q3 := h4.free 3
      clear hat h4 hbel hrd
      generalize hfr : (frA F s : Int) = fr at *
      generalize hst' : stA F s = st' at *
      generalize hov' : overG F s = ov' at *
      have HFR := Lib.hid (And.intro hfr (And.intro hst' hov')); clear hfr hst' hov'
      go_wp2_with fail
      obtain ⟨z0, z1, z2, z3⟩ := Z.out
      clear g0 g1 g2 g3 r0 r1 r2 r3 q0 q1 q2 q3
      refine bodyPost_ret (v := .tuple #[.agg #[.int .i64 fr, (.slice a2 (bsA F s).length c2), .int .i64 st', .bool ov'], .bool true]) (by simp [results, Tryz.results35, go_sem, z0, z1, z2, z3]) rfl ?_
      refine ⟨fun t ht => ?_, fun hn => (by rw [← HG.out] at hn; cases hn), HB.out⟩
      rw [← HG.out] at ht
      injection ht with ht
      subst ht
      obtain ⟨e1, e2, e3⟩ := HFR.out
      subst e1 e2 e3
      exact ⟨a2, c2, rfl, HRF.out⟩

set_option maxHeartbeats 800000 in
theorem boFrames_any (f : Int) (w : World) :
    Calls Tryz.prog 34 #[.int .i64 f] w fun e w' => e = .returned (.bool (inR f 1 10)) ∧ w = w' := by
  go_enter Tryz.func34, Tryz.ntmps34
  go_wp2_with fail
  refine (l1In_any _ _ _ _).mono ?_; rintro e w1 ⟨rfl, rfl⟩
  go_wp2_with fail
  go_ret
  exact ⟨rfl, rfl⟩

theorem inR_frames {f : Int} : inR f 1 10 = true ↔ 1 ≤ f ∧ f ≤ 10 := by simp [inR]

set_option maxHeartbeats 1600000 in
theorem boGood_any (f : Int) (rolls : List Int) (a : Option Addr) (c : Nat) (w : World) (hl : (rolls.length : Int) ≤ 1000000000000) (h : Reads w a (ints rolls)) :
    Calls Tryz.prog 23 #[.int .i64 f, .slice a rolls.length c] w fun e w' => e = .returned (.bool (goodR f rolls).isSome) ∧ Below w.heap.size w w' := by
  by_cases hf : 1 ≤ f ∧ f ≤ 10
  · obtain ⟨F, rfl⟩ := Int.eq_ofNat_of_zero_le (a := f) (by omega)
    rw [goodR_nat (by omega) (by omega)]
    have hp := boPlay_any F (by omega) (by omega) rolls a c w hl h
    have hfr : inR (F : Int) 1 10 = true := inR_frames.2 hf
    have HFR := Lib.hid hfr; clear hfr h hf
    cases hg : gameG F ([], []) rolls with
    | none =>
      rw [hg] at hp
      have HP := Lib.hid hp; clear hp hg
      go_enter Tryz.func23, Tryz.ntmps23
      go_wp2_with fail
      refine (boFrames_any _ _).mono ?_; rintro e w1 ⟨rfl, rfl⟩
      rw [HFR.out]
      go_wp2_with fail
      refine HP.out.mono ?_; rintro e w1 ⟨-, hn, b1⟩
      obtain ⟨fr, a2, n2, c2, st, ov, rfl⟩ := hn rfl
      have z1 := b1.size
      have B1 := Lib.hid b1; clear b1 hn
      go_wp2_with fail
      go_ret
      exact ⟨rfl, B1.out.alloc z1 _⟩
    | some s =>
      rw [hg] at hp
      have HP := Lib.hid hp; clear hp hg
      go_enter Tryz.func23, Tryz.ntmps23
      go_wp2_with fail
      refine (boFrames_any _ _).mono ?_; rintro e w1 ⟨rfl, rfl⟩
      rw [HFR.out]
      go_wp2_with fail
      refine HP.out.mono ?_; rintro e w1 ⟨hn, -, b1⟩
      obtain ⟨a2, c2, rfl, -⟩ := hn s rfl
      have z1 := b1.size
      have B1 := Lib.hid b1; clear b1 hn
      go_wp2_with fail
      go_ret
      exact ⟨rfl, B1.out.alloc z1 _⟩
  · have hg : goodR f rolls = none := by unfold goodR; rw [if_neg hf]
    have hfr : inR f 1 10 = false := by
      cases hq : inR f 1 10
      · rfl
      · exact absurd (inR_frames.1 hq) hf
    rw [hg]
    have HFR := Lib.hid hfr; clear hfr h hf hg
    go_enter Tryz.func23, Tryz.ntmps23
    go_wp2_with fail
    refine (boFrames_any _ _).mono ?_; rintro e w1 ⟨rfl, rfl⟩
    rw [HFR.out]
    go_wp2_with fail
    go_ret
    exact ⟨rfl, Below.refl _ _⟩

end Go.Proofs.YtgkkjlpfkoplhaaGreatDoor.Pn

namespace Go.Proofs.YtgkkjlpfkoplhaaGreatDoor.Pn
open Go.RowKit Go.ChangeShapes Go.WideShapes Go.Deep
set_option linter.unusedVariables false
set_option linter.unusedSimpArgs false

theorem cell_of_cells1 {w : World} {base : Nat} {a : Addr} {v : Value} (h : w.cells? base a 1 = some [v]) : w.cell? a = some v := by
  unfold World.cells? at h
  split at h
  · have e0 : a.add 0 = a := by simp [Addr.add]
    simp only [List.range_succ, List.range_zero, List.nil_append, List.mapM_cons, List.mapM_nil, e0] at h
    cases hcc : w.cell? a with
    | none => simp [hcc] at h
    | some c => simp [hcc] at h; rw [h]
  · cases h

theorem open_ints {H : Type} {enc : TypeId × Value → H} {w : World} {a : Option Addr} {n c : Nat} {d : DataW H} {p : List MemPlace}
    (h : DataW.Trod enc Tryz.prog w 0 (fun _ => true) true 22 (.slice a n c) d p) :
    ∃ l : List Int, (l.length = n ∧ Reads w a (ints l)) ∧ (n : Int) ≤ 9223372036854775807 := by
  obtain ⟨fuel, hf⟩ := h
  have hone : Tryz.prog.cellsOf 3 = 1 := by kernel_rfl
  rcases open_slice Tryz.underlying22 hf with ⟨hcs, _⟩ | ⟨x, len, cap, m, k, D, Pl, hcs, _, hl, hm, hmm, _, hi⟩
  · simp [Value.cells] at hcs
    obtain ⟨rfl, rfl, rfl⟩ := hcs
    exact ⟨[], ⟨rfl, .inl rfl⟩, by omega⟩
  · simp [Value.cells] at hcs
    obtain ⟨rfl, rfl, rfl⟩ := hcs
    simp only [if_true] at hmm
    subst hmm
    have hm2 := hm
    unfold maxLen at hm2
    have hcell : ∀ i, i < n → ∃ s : Int, w.cell? (x.add i) = some (.int .i64 s) := by
      intro i hin
      obtain ⟨cs', h1, h2⟩ := hi i (by omega)
      rw [hone, Nat.mul_one] at h1
      obtain ⟨s, rfl, _, hz⟩ := DataW.trod_int Tryz.underlying3 h2
      exact ⟨s, cell_of_cells1 h1⟩
    obtain ⟨V, hV⟩ : ∃ V : Nat → Int, ∀ i, i < n → w.cell? (x.add i) = some (.int .i64 (V i)) :=
      ⟨fun i => if h : i < n then (hcell i h).choose else 0, fun i hin => by simp only [hin, dif_pos]; exact (hcell i hin).choose_spec⟩
    refine ⟨(List.range n).map V, ⟨by simp, ?_⟩, by omega⟩
    by_cases hn : n = 0
    · subst hn; exact .inl rfl
    obtain ⟨b, off, spot⟩ := x
    have hspot : spot = none := by simpa [Addr.add] using World.cell?_spot (hV 0 (by omega))
    subst hspot
    refine .inr ⟨b, off, rfl, World.block_lt_of_cell? w _ (hV 0 (by omega)), fun j hj => ?_⟩
    rw [ints_len] at hj
    simp at hj
    have h1 := hV j hj
    rw [add_plain] at h1
    rw [h1, ints_get _ _ (by simpa using hj)]
    simp [hj]

/-- A block of the call's own, 'tot' cells that may be written, the first of which are 'cs'. -/
def Filled (w : World) (g tot : Nat) (cs : List Value) : Prop :=
  g < w.heap.size ∧ (∀ j, j < tot → (w.cell? ⟨g, j, none⟩).isSome = true ∧ w.frozen? ⟨g, j, none⟩ = false) ∧ ∀ j, j < cs.length → w.cell? ⟨g, j, none⟩ = cs[j]?
theorem Filled.put {w : World} {g tot : Nat} {cs : List Value} (h : Filled w g tot cs) (v : Value) (hlt : cs.length < tot) : Filled (w.setCell ⟨g, cs.length, none⟩ v) g tot (cs ++ [v]) := by
  obtain ⟨h1, h2, h3⟩ := h
  have same : ∀ u, w.cell? ⟨g, cs.length, none⟩ = some u → (w.setCell ⟨g, cs.length, none⟩ v).cell? ⟨g, cs.length, none⟩ = some v := fun u hu => World.cell?_setCell_same _ _ _ hu
  obtain ⟨u, hu⟩ := Option.isSome_iff_exists.1 (h2 cs.length hlt).1
  have other : ∀ j, j ≠ cs.length → (w.setCell ⟨g, cs.length, none⟩ v).cell? ⟨g, j, none⟩ = w.cell? ⟨g, j, none⟩ := fun j hj => World.cell?_setCell_other _ _ _ _ (by intro e; injection e; omega)
  refine ⟨by simpa using h1, fun j hj => ⟨?_, by rw [World.frozen?_setCell]; exact (h2 j hj).2⟩, fun j hj => ?_⟩
  · by_cases e : j = cs.length
    · subst e; rw [same u hu]; rfl
    · rw [other j e]; exact (h2 j hj).1
  · simp at hj
    by_cases e : j = cs.length
    · subst e; rw [same u hu]; simp
    · rw [other j e, h3 j (by omega), List.getElem?_append_left (by omega)]
theorem Filled.reads {w : World} {g tot : Nat} {cs : List Value} (h : Filled w g tot cs) : Reads w (some ⟨g, 0, none⟩) cs :=
  .inr ⟨g, 0, rfl, h.1, fun j hj => by rw [Nat.zero_add]; exact h.2.2 j hj⟩
theorem Filled.made {w : World} {base g n c size : Nat} {e : TypeId} {xs : List Value} (h : w.ownsRow base e size (.slice (some ⟨g, 0, none⟩) n c) n xs) : Filled w g (n * size) [] := by
  obtain ⟨hl, h | ⟨g', cap, cur, hv, hg, hh, hn, hcap, hcs, htk⟩⟩ := h
  · exact absurd h.1 (by simp)
  · cases hv
    refine ⟨(Array.getElem?_eq_some_iff.1 hh).1, fun j hj => ⟨?_, frozen_of_row w g _ cur e hh⟩, fun j hj => absurd hj (by simp)⟩
    have : n * size ≤ cur.size := by rw [hcs]; exact Nat.mul_le_mul_right _ hn
    rw [cell_of_row w g _ cur e _ hh, Array.getElem?_eq_getElem (by omega)]; rfl

set_option maxHeartbeats 1600000 in
theorem toIntS_any (l : List Int) (a : Option Addr) (c : Nat) (w : World) (hl : (l.length : Int) ≤ 1048576) (h : Reads w a (ints l)) :
    Calls Tryz.prog 12 #[.slice a l.length c] w fun e w' => ∃ g, e = .returned (.slice (some ⟨g, 0, none⟩) l.length l.length) ∧ w.heap.size ≤ g ∧ Reads w' (some ⟨g, 0, none⟩) (ints l) ∧ Below w.heap.size w w' := by
  obtain ⟨i0, hi, hz0, hz1, hz2⟩ := info_parts infoInt
  go_enter Tryz.func12, Tryz.ntmps12
  go_wp2_with (at_make; refine wpList_make_full _ rfl _ _ _ rfl w.heap.size _ i0 _ 1 Tryz.underlying22 hi hz0 hz1 .i64 .i64 _ _ l.length rfl rfl rfl rfl ?_ ?_ (Nat.le_refl _) ?_)
  · rw [hz2]; omega
  · unfold maxLen; omega
  intro w1 hown hgrow
  have hfill := Filled.made hown
  have hbel : Below w.heap.size w w1 := (Below.refl _ _).grown hgrow (Nat.le_refl _) (fun k hk => by cases hk)
  have hg : w.heap.size < w1.heap.size := hfill.1
  clear hown hgrow hi hz0 hz1 hz2
  have HR := Lib.hid h; clear h
  generalize hgg : w.heap.size = g at hg hfill
  have HG := Lib.hid hgg; clear hgg
  go_wp2_with fail
  go_loopw [4] (fun i wr => ∃ k : Nat, i = .int .i64 k ∧ k ≤ l.length ∧ Filled wr g (l.length * 1) (ints (l.take k)) ∧ Below w.heap.size w wr) (fun i _ => l.length - (intOf i).toNat)
  case atStart => exact ⟨0, rfl, Nat.zero_le _, hfill, hbel⟩
  case round =>
    clear hfill hbel hg
    obtain ⟨k, rfl, hk, hfill, hbel⟩ := hrel
    by_cases hlt : k < l.length
    · obtain ⟨b, off, ha, hlb, hc⟩ := cells_of_reads (HR.out.old hbel) (by omega)
      subst ha
      have c0 := hc k hlt
      clear hc
      have hb : (k : Int) < (l.length : Int) := by omega
      have hlen : (ints (l.take k)).length = k := by rw [ints_len, List.length_take]; omega
      have p1 := hfill.put (.int .i64 (l.getD k 0)) (by omega)
      rw [hlen] at p1
      have hd : ints (l.take k) ++ [.int .i64 (l.getD k 0)] = ints (l.take (k + 1)) := by
        rw [List.take_succ_eq_append_getElem hlt]
        simp only [ints, List.map_append, List.map_cons, List.map_nil]
        simp [hlt]
      rw [hd] at p1
      obtain ⟨v0, hv0⟩ := Option.isSome_iff_exists.1 (hfill.2.1 k (by omega)).1
      have f0 := (hfill.2.1 k (by omega)).2
      have P1 := Lib.hid p1
      have hgw : w.heap.size ≤ g := by rw [HG.out]; exact Nat.le_refl _
      generalize l.getD k 0 = x at *
      have HB : Hid (Below w.heap.size w (wr.setCell ⟨g, k, none⟩ (.int .i64 x))) := hbel.setCell hgw _
      clear p1 hfill hbel hlen hd
      go_wp2
      go_roundw
      case rel => exact ⟨k + 1, by go_num, by omega, P1.out, HB.out⟩
      case measure => simp [intOf]; omega
    · obtain rfl : k = l.length := by omega
      rw [List.take_length] at hfill
      go_wp2
      go_ret
      exact ⟨g, rfl, by rw [HG.out]; exact Nat.le_refl _, hfill.reads, hbel⟩

theorem eqIntS_same (l : List Int) (g g' : Nat) (w : World) (hl : (l.length : Int) ≤ 1048576) (h : Reads w (some ⟨g, 0, none⟩) (ints l)) (h' : Reads w (some ⟨g', 0, none⟩) (ints l)) :
    Calls Tryz.prog 18 #[.slice (some ⟨g, 0, none⟩) l.length l.length, .slice (some ⟨g', 0, none⟩) l.length l.length] w fun e w' => e = .returned (.bool true) ∧ Below w.heap.size w w' := by
  have := eqIntS_any l l (some ⟨g, 0, none⟩) (some ⟨g', 0, none⟩) l.length l.length w (by omega) (by omega) h h'
  rw [show SameB l l = true from by simp [SameB]] at this
  exact this
end Go.Proofs.YtgkkjlpfkoplhaaGreatDoor.Pn

namespace Go.Proofs.YtgkkjlpfkoplhaaGreatDoor.Pn
open Go.RowKit
set_option linter.unusedVariables false
set_option linter.unusedSimpArgs false

set_option maxHeartbeats 800000 in
theorem implAreRolls_any (f : Int) (rolls : List Int) (a : Option Addr) (c : Nat) (w : World) (hl : (rolls.length : Int) ≤ 1000000000000) (h : Reads w a (ints rolls)) :
    Calls Tryz.prog 16 #[.int .i64 f, .slice a rolls.length c] w fun e w' => e = .returned (.bool (goodR f rolls).isSome) ∧ Below w.heap.size w w' := by
  have hs := sheetOf_any f rolls a c w hl h
  cases hg : goodR f rolls with
  | none =>
    rw [hg] at hs
    have HS := Lib.hid hs; clear hs hg h
    go_enter Tryz.func16, Tryz.ntmps16
    go_wp2_with fail
    refine HS.out.mono ?_; rintro e w1 ⟨-, hn, b1⟩
    obtain rfl := hn rfl
    go_wp2_with fail
    go_ret
    exact ⟨rfl, b1⟩
  | some s =>
    rw [hg] at hs
    have HS := Lib.hid hs; clear hs hg h
    go_enter Tryz.func16, Tryz.ntmps16
    go_wp2_with fail
    refine HS.out.mono ?_; rintro e w1 ⟨hn, -, b1⟩
    obtain ⟨g, rfl, -, -⟩ := hn s rfl
    clear hn
    go_wp2_with fail
    go_ret
    exact ⟨rfl, b1⟩

/-- How the place and the pins of the next ball are told. -/
theorem next_any (F : Nat) (h1 : 1 ≤ F) (h2 : F ≤ 10) (s : St) (hi : InvG F s) (g c : Nat) (w : World) (hx : ShAt w g (sheetG F s)) :
    Calls Tryz.prog 46 #[.slice (some ⟨g, 0, none⟩) F c] w fun e w' => e = .returned (.tuple #[.int .i64 (if overG F s then 0 else s.1.length), .int .i64 (if overG F s then 0 else leftP s.2)]) ∧ Below w.heap.size w w' := by
  cases ho : overG F s
  · have hbd := leftP_bd s.2
    exact next_at (sheetG F s) F s.1.length (leftP s.2) (sheet_len hi.1) h2 (sheet_small hi) (over_false hi ho) (fun i hi' => next_done hi hi') (next_cur hi ho) (by omega) g c w hx
  · have hF2 : s.1.length = F := by simpa [overG] using ho
    exact next_none (sheetG F s) F (sheet_len hi.1) h2 (sheet_small hi) (fun i hi' => next_done hi (by omega)) g c w hx

def allV : Option St → Nat → Bool
  | none, _ => false
  | some s, F => overG F s

def standV : Option St → Nat → Int
  | none, _ => 0
  | some s, F => if overG F s then 0 else leftP s.2
def standO : Option St → Nat → Bool
  | none, _ => false
  | some s, F => !overG F s

end Go.Proofs.YtgkkjlpfkoplhaaGreatDoor.Pn
