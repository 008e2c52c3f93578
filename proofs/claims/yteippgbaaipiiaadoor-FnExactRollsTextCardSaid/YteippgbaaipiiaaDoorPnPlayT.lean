/-
  Pins: the model's way through rolls.
-/
import Derived.Test.YteippgbaaipiiaaDoorPnRoll
import Derived.Test.YteippgbaaipiiaaDoorPnSheet
namespace Go.Proofs.YteippgbaaipiiaaDoor
open Go.RowKit
set_option linter.unusedVariables false
set_option linter.unusedSimpArgs false

def PlaceG (F : Nat) (s : St) (w : World) (e : Ending) (w' : World) : Prop := PlaceR (frA F s) (bsA F s) (stA F s) (overG F s) w e w'

theorem roll_any (F : Nat) (h1 : 1 ≤ F) (h2 : F ≤ 10) (s : St) (p : Int) (hi : InvG F s) (hf : fitsG F s p = true) (a : Option Addr) (c : Nat) (w : World) (h : Reads w a (ints s.2)) :
    Calls Tryd.prog 26 #[.int .i64 F, .agg #[.int .i64 s.1.length, .slice a s.2.length c, .int .i64 (leftP s.2), .bool false], .int .i64 p] w fun e w' => PlaceG F (stepG F s p) w e w' := by
  obtain ⟨ho, hp0, hp1⟩ := fits_parts hf
  have hlt := over_false hi ho
  have hop := inv_open hi ho
  have hbd := leftP_bd s.2
  refine (roll_out F s.1.length h2 hlt s.2 (leftP s.2) p (open_len hop) (small_open hop).2 (by omega) ⟨hp0, hp1⟩ a c w h).mono ?_
  rintro e w' ⟨r1, r2, r3⟩
  unfold PlaceG
  cases hl : lastG F s
  · have hd : s.1.length + 1 < F := by simp [lastG] at hl; omega
    obtain ⟨m1, m2⟩ := roll_mid hi hf hl
    by_cases hc : leftP s.2 - p = 0 ∨ s.2.length + 1 = 2
    · obtain ⟨e1, e2⟩ := m1 hc
      have := r1 hd hc
      have f1 : frA F (stepG F s p) = s.1.length + 1 := by unfold frA; rw [e2, e1]; simp
      have f2 : bsA F (stepG F s p) = [] := by unfold bsA; rw [e2, e1]; simp
      have f3 : stA F (stepG F s p) = 10 := by unfold stA; rw [f2]; rfl
      rw [f1, f2, f3, e2]
      exact this
    · obtain ⟨e1, e2⟩ := m2 hc
      have := r2 hd hc
      have e3 : overG F (stepG F s p) = false := by rw [e1]; simpa [overG] using ho
      have f1 : frA F (stepG F s p) = s.1.length := by unfold frA; rw [e3, e1]; simp
      have f2 : bsA F (stepG F s p) = s.2 ++ [p] := by unfold bsA; rw [e3, e1]; simp
      have f3 : stA F (stepG F s p) = leftP s.2 - p := by unfold stA; rw [f2, e2]
      rw [f1, f2, f3, e3]
      exact this
  · have hd : ¬ s.1.length + 1 < F := by simp [lastG] at hl; omega
    obtain ⟨g1, g2, g3, g4⟩ := roll_last hi hf hl
    have := r3 hd
    rw [g1, g2, g3, g4]
    exact this

set_option maxHeartbeats 800000 in
theorem boStart_any (w : World) :
    Calls Tryd.prog 23 #[] w fun e w' => e = .returned (.agg #[.int .i64 0, .slice none 0 0, .int .i64 10, .bool false]) ∧ Below w.heap.size w w' := by
  go_enter Tryd.func23, Tryd.ntmps23
  go_wp2
  refine bodyPost_ret (v := .agg #[.int .i64 0, .slice none 0 0, .int .i64 10, .bool false]) (by simp [results, Tryd.results23, go_sem]) rfl ⟨rfl, ?_⟩
  (repeat (first | exact Below.refl _ _ | exact ‹Below _ _ _› | refine Below.drew ?_ | refine Below.alloc ?_ (by first | omega | (simp; done) | (simp; omega)) _ | refine Below.setCell ?_ (by first | omega | (simp; done) | (simp; omega)) _ | refine Below.trans ?_ (Below.mono ‹Below _ _ _› (by first | omega | (simp; done) | (simp; omega)))))

def PlayA (F : Nat) (rolls : List Int) (w : World) (g4 g6 k : Nat) (wr : World) : Prop :=
  ∃ s a c, InvG F s ∧ gameG F s (rolls.drop k) = gameG F ([], []) rolls ∧ BoAt wr g6 (frA F s) (.slice a (bsA F s).length c) (stA F s) (overG F s) ∧ Reads wr a (ints (bsA F s)) ∧
    (∀ b off, a = some ⟨b, off, none⟩ → b ≠ g4 ∧ b ≠ g6) ∧ BoAt wr g4 0 (.slice none 0 0) 0 false ∧ Below w.heap.size w wr

/-- What boPlay hands back: the place, and whether there were rolls. -/
def PlayR (F : Nat) (o : Option St) (w : World) (e : Ending) (w' : World) : Prop :=
  (∀ s, o = some s → ∃ a c, e = .returned (.tuple #[.agg #[.int .i64 (frA F s), .slice a (bsA F s).length c, .int .i64 (stA F s), .bool (overG F s)], .bool true]) ∧ Reads w' a (ints (bsA F s))) ∧
  (o = none → ∃ fr a n c st ov, e = .returned (.tuple #[.agg #[.int .i64 fr, .slice a n c, .int .i64 st, .bool ov], .bool false])) ∧ Below w.heap.size w w'

theorem start_place (F : Nat) (h1 : 1 ≤ F) : frA F ([], []) = 0 ∧ bsA F ([], []) = [] ∧ stA F ([], []) = 10 ∧ overG F ([], []) = false := by
  have ho : overG F ([], []) = false := by simp [overG]; omega
  refine ⟨by simp [frA, ho], by simp [bsA, ho], by simp [stA, bsA, ho, leftP], ho⟩
theorem fits_in {F : Nat} {s : St} {p : Int} (ho : overG F s = false) : fitsG F s p = inR p 0 (leftP s.2) := by
  simp [fitsG, inR, ho]

set_option maxHeartbeats 6400000 in
set_option maxRecDepth 100000 in
theorem boPlay_any (F : Nat) (h1 : 1 ≤ F) (h2 : F ≤ 10) (rolls : List Int) (a : Option Addr) (c : Nat) (w : World) (hl : (rolls.length : Int) ≤ 1000000000000) (h : Reads w a (ints rolls)) :
    Calls Tryd.prog 22 #[.int .i64 F, .slice a rolls.length c] w fun e w' => PlayR F (gameG F ([], []) rolls) w e w' := by
  have HR := Lib.hid h; clear h
  go_enter Tryd.func22, Tryd.ntmps22
  go_wp2_with fail
  refine (boStart_any _).mono ?_; rintro e w1 ⟨rfl, b1⟩
  have hz4 := (BoAt.new w 0 (.slice none 0 0) 0 false).keep b1
  have hz1 : w.heap.size < w1.heap.size := by have := b1.size; simp at this; omega
  have hb1 := ((Below.refl w.heap.size w).alloc (Nat.le_refl _) (.cells #[.int .i64 0, .slice none 0 0, .int .i64 0, .bool false] 45)).trans (b1.mono (by simp))
  have hp0 : PlayA F rolls w w.heap.size w1.heap.size 0 (w1.alloc (.cells #[.int .i64 0, .slice none 0 0, .int .i64 10, .bool false] 45)) := by
    obtain ⟨e1, e2, e3, e4⟩ := start_place F h1
    refine ⟨([], []), none, 0, inv_start h1, by simp, ?_, ?_, (fun b off e => by cases e), hz4.old _, hb1.alloc (by omega) _⟩
    · rw [e1, e2, e3, e4]; exact BoAt.new w1 _ _ _ _
    · rw [e2]; exact .inl rfl
  have HP0 := Lib.hid hp0; clear hp0
  have HZ := Lib.hid (And.intro hz4 hb1); clear hz4 hb1 b1
  go_wp2_with fail
  generalize w1.alloc (.cells #[.int .i64 0, .slice none 0 0, .int .i64 10, .bool false] 45) = X at *
  generalize hg6 : w1.heap.size = g6 at *
  have hg6' : w.heap.size ≤ g6 := by omega
  have HG6 := Lib.hid hg6'; clear hg6' hg6
  go_loopw [12] (fun i wr => ∃ k : Nat, i = .int .i64 k ∧ k ≤ rolls.length ∧ Hid (PlayA F rolls w w.heap.size g6 k wr)) (fun i _ => rolls.length - (intOf i).toNat)
  case atStart => exact ⟨0, rfl, Nat.zero_le _, HP0⟩
  case round =>
    clear HP0 HZ
    obtain ⟨k, rfl, hk, hA⟩ := hrel
    obtain ⟨s, a2, c2, hi, hgm, hat, hrd, hne, h4, hbel⟩ := hA.out
    clear hA
    by_cases hlt : k < rolls.length
    · have hkl : (k : Int) < (rolls.length : Int) := by omega
      obtain ⟨b, off, ha, hcell⟩ := ints_cell (HR.out.old hbel) hlt
      subst ha
      have hdr : rolls.drop k = rolls.getD k 0 :: rolls.drop (k + 1) := by rw [List.drop_eq_getElem_cons hlt]; simp [hlt]
      rw [hdr, gameG] at hgm
      clear hdr
      generalize hp : rolls.getD k 0 = p at *
      clear hp
      cases ho : overG F s
      · have e1 : frA F s = s.1.length := by simp [frA, ho]
        have e2 : bsA F s = s.2 := by simp [bsA, ho]
        have e3 : stA F s = leftP s.2 := by simp [stA, e2]
        rw [e1, e2, e3, ho] at hat
        rw [e2] at hrd
        clear e1 e2 e3
        cases hf : fitsG F s p
        · rw [hf] at hgm
          simp only [Bool.false_eq_true, if_false] at hgm
          have HG := Lib.hid hgm; clear hgm
          have hin : inR p 0 (leftP s.2) = false := by rw [← fits_in ho]; exact hf
          have HIN := Lib.hid hin; clear hin hf ho
          have hbd := leftP_bd s.2
          have hfin := h4.stored (s.1.length : Int) (.slice a2 s.2.length c2) (leftP s.2) false
          have Z := Lib.hid hfin.cells; clear hfin
          have HB := Lib.hid (below_four hbel (Nat.le_refl _) (.int .i64 (s.1.length : Int)) (.slice a2 s.2.length c2) (.int .i64 (leftP s.2)) (.bool false))
          have HRF := Lib.hid (reads_other hrd (fun b off e => (hne b off e).1) (heap_four wr w.heap.size (.int .i64 (s.1.length : Int)) (.slice a2 s.2.length c2) (.int .i64 (leftP s.2)) (.bool false)) (by simp))
          obtain ⟨g0, g1, g2, g3⟩ := hat.cells
          obtain ⟨r0, r1, r2, r3⟩ := h4.cells
          have q0 := h4.free 0
          have q1 := h4.free 1
          have q2 := h4.free 2
          have q3 := h4.free 3
          clear hat h4 hbel hrd
          generalize leftP s.2 = st at *
          generalize (s.1.length : Int) = d at *
          go_wp2_with fail
          refine (l1In_any _ _ _ _).mono ?_; rintro e w3 ⟨rfl, rfl⟩
          rw [HIN.out]
          go_wp2_with fail
          obtain ⟨z0, z1, z2, z3⟩ := Z.out
          clear g0 g1 g2 g3 r0 r1 r2 r3 q0 q1 q2 q3
          refine bodyPost_ret (v := .tuple #[.agg #[.int .i64 d, (.slice a2 s.2.length c2), .int .i64 st, .bool false], .bool false]) (by simp [results, Tryd.results22, go_sem, z0, z1, z2, z3]) rfl ?_
          exact ⟨fun t ht => (by rw [← HG.out] at ht; cases ht), fun _ => ⟨_, _, _, _, _, _, rfl⟩, HB.out⟩
        · rw [hf] at hgm
          simp only [if_true] at hgm
          have HG := Lib.hid hgm; clear hgm
          have hin : inR p 0 (leftP s.2) = true := by rw [← fits_in ho]; exact hf
          have hroll := fun w' (hr : Reads w' a2 (ints s.2)) => roll_any F h1 h2 s p hi hf a2 c2 w' hr
          have hi2 := inv_step hi hf
          have HI2 := Lib.hid hi2; clear hi2
          have HRO := Lib.hid hroll; clear hroll
          have HIN := Lib.hid hin; clear hin hf ho
          have hbd := leftP_bd s.2
          obtain ⟨g0, g1, g2, g3⟩ := hat.cells
          have HAT := Lib.hid (And.intro hat (And.intro hrd (And.intro h4 hbel)))
          have hg46 : w.heap.size ≠ g6 := fun e => by
            have x1 := h4.cells.2.2.2
            subst e
            have x2 := hat; have x3 := h4
            unfold BoAt at x2 x3
            rw [x2] at x3
            simp at x3
            omega
          have hg6 : w.heap.size ≤ g6 := HG6.out
          have hlt4 := h4.lt
          have hlt6 := hat.lt
          clear hat hrd h4 hbel
          generalize leftP s.2 = st at *
          generalize (s.1.length : Int) = d at *
          generalize stepG F s p = t at *
          go_wp2_with fail
          refine (l1In_any _ _ _ _).mono ?_; rintro e w3 ⟨rfl, rfl⟩
          rw [HIN.out]
          go_wp2_with fail
          refine (HRO.out _ HAT.out.2.1).mono ?_; rintro e w4 ⟨a3, c3, rfl, hr3, hf3, b4⟩
          have hat4 := HAT.out.1.keep b4
          have h44 := HAT.out.2.2.1.keep b4
          have hbel4 := HAT.out.2.2.2.trans (b4.mono HAT.out.2.2.2.size)
          have hst := hat4.stored (frA F t : Int) (.slice a3 (bsA F t).length c3) (stA F t) (overG F t)
          have hrst := reads_other hr3 (fun b off e => (by have := hf3 b off e; omega : b ≠ g6)) (heap_four w4 g6 (.int .i64 (frA F t : Int)) (.slice a3 (bsA F t).length c3) (.int .i64 (stA F t)) (.bool (overG F t))) (by simp)
          have h4st : BoAt ((((w4.setCell ⟨g6, 0, none⟩ (.int .i64 (frA F t : Int))).setCell ⟨g6, 1, none⟩ (.slice a3 (bsA F t).length c3)).setCell ⟨g6, 2, none⟩ (.int .i64 (stA F t))).setCell ⟨g6, 3, none⟩ (.bool (overG F t))) w.heap.size 0 (.slice none 0 0) 0 false := by
            unfold BoAt; rw [heap_four w4 g6 _ _ _ _ _ hg46]; exact h44
          have hbst := below_four hbel4 hg6 (.int .i64 (frA F t : Int)) (.slice a3 (bsA F t).length c3) (.int .i64 (stA F t)) (.bool (overG F t))
          have HEND := Lib.hid (And.intro hst (And.intro hrst (And.intro (fun b off e => (by have := hf3 b off e; omega : b ≠ w.heap.size ∧ b ≠ g6)) (And.intro h4st hbst))))
          clear g0 g1 g2 g3
          obtain ⟨g0, g1, g2, g3⟩ := hat4.cells
          have q0 := hat4.free 0
          have q1 := hat4.free 1
          have q2 := hat4.free 2
          have q3 := hat4.free 3
          clear hst hrst h4st hbst hat4 h44 hbel4 hr3 hf3 b4
          generalize hfr : (frA F t : Int) = fr at *
          generalize hst' : stA F t = st' at *
          have HFR := Lib.hid (And.intro hfr hst'); clear hfr hst'
          go_wp2_with fail
          go_roundw
          case rel =>
            refine ⟨k + 1, by go_num, by omega, Lib.hid ?_⟩
            obtain ⟨e1, e2⟩ := HFR.out
            subst e1 e2
            exact ⟨t, a3, c3, HI2.out, HG.out, HEND.out.1, HEND.out.2.1, HEND.out.2.2.1, HEND.out.2.2.2.1, HEND.out.2.2.2.2⟩
          case measure => simp [intOf]; omega
      · have hf : fitsG F s p = false := fits_over ho
        rw [hf] at hgm
        simp only [Bool.false_eq_true, if_false] at hgm
        have HG := Lib.hid hgm; clear hgm hf
        rw [ho] at hat
        clear ho
        have hfin := h4.stored (frA F s : Int) (.slice a2 (bsA F s).length c2) (stA F s) true
        have Z := Lib.hid hfin.cells; clear hfin
        have HB := Lib.hid (below_four hbel (Nat.le_refl _) (.int .i64 (frA F s : Int)) (.slice a2 (bsA F s).length c2) (.int .i64 (stA F s)) (.bool true))
        have HRF := Lib.hid (reads_other hrd (fun b off e => (hne b off e).1) (heap_four wr w.heap.size (.int .i64 (frA F s : Int)) (.slice a2 (bsA F s).length c2) (.int .i64 (stA F s)) (.bool true)) (by simp))
        obtain ⟨g0, g1, g2, g3⟩ := hat.cells
        obtain ⟨r0, r1, r2, r3⟩ := h4.cells
        have q0 := h4.free 0
        have q1 := h4.free 1
        have q2 := h4.free 2
        have q3 := h4.free 3
        clear hat h4 hbel hrd
        generalize (frA F s : Int) = fr at *
        generalize stA F s = st at *
        go_wp2_with fail
        obtain ⟨z0, z1, z2, z3⟩ := Z.out
        clear g0 g1 g2 g3 r0 r1 r2 r3 q0 q1 q2 q3
        refine bodyPost_ret (v := .tuple #[.agg #[.int .i64 fr, (.slice a2 (bsA F s).length c2), .int .i64 st, .bool true], .bool false]) (by simp [results, Tryd.results22, go_sem, z0, z1, z2, z3]) rfl ?_
        exact ⟨fun t ht => (by rw [← HG.out] at ht; cases ht), fun _ => ⟨_, _, _, _, _, _, rfl⟩, HB.out⟩
    · obtain rfl : k = rolls.length := by omega
      rw [List.drop_length, gameG] at hgm
      have HG := Lib.hid hgm; clear hgm
      have hfin := h4.stored (frA F s : Int) (.slice a2 (bsA F s).length c2) (stA F s) (overG F s)
      have Z := Lib.hid hfin.cells; clear hfin
      have HB := Lib.hid (below_four hbel (Nat.le_refl _) (.int .i64 (frA F s : Int)) (.slice a2 (bsA F s).length c2) (.int .i64 (stA F s)) (.bool (overG F s)))
      have HRF := Lib.hid (reads_other hrd (fun b off e => (hne b off e).1) (heap_four wr w.heap.size (.int .i64 (frA F s : Int)) (.slice a2 (bsA F s).length c2) (.int .i64 (stA F s)) (.bool (overG F s))) (by simp))
      obtain ⟨g0, g1, g2, g3⟩ := hat.cells
      obtain ⟨r0, r1, r2, r3⟩ := h4.cells
      have q0 := h4.free 0
      have q1 := h4.free 1
      have q2 := h4.free 2
      have q3 := h4.free 3
      clear hat h4 hbel hrd
      generalize hfr : (frA F s : Int) = fr at *
      generalize hst' : stA F s = st' at *
      generalize hov' : overG F s = ov' at *
      have HFR := Lib.hid (And.intro hfr (And.intro hst' hov')); clear hfr hst' hov'
      go_wp2_with fail
      obtain ⟨z0, z1, z2, z3⟩ := Z.out
      clear g0 g1 g2 g3 r0 r1 r2 r3 q0 q1 q2 q3
      refine bodyPost_ret (v := .tuple #[.agg #[.int .i64 fr, (.slice a2 (bsA F s).length c2), .int .i64 st', .bool ov'], .bool true]) (by simp [results, Tryd.results22, go_sem, z0, z1, z2, z3]) rfl ?_
      refine ⟨fun t ht => ?_, fun hn => (by rw [← HG.out] at hn; cases hn), HB.out⟩
      rw [← HG.out] at ht
      injection ht with ht
      subst ht
      obtain ⟨e1, e2, e3⟩ := HFR.out
      subst e1 e2 e3
      exact ⟨a2, c2, rfl, HRF.out⟩

set_option maxHeartbeats 800000 in
theorem boFrames_any (f : Int) (w : World) :
    Calls Tryd.prog 21 #[.int .i64 f] w fun e w' => e = .returned (.bool (inR f 1 10)) ∧ w = w' := by
  go_enter Tryd.func21, Tryd.ntmps21
  go_wp2_with fail
  refine (l1In_any _ _ _ _).mono ?_; rintro e w1 ⟨rfl, rfl⟩
  go_wp2_with fail
  go_ret
  exact ⟨rfl, rfl⟩

theorem inR_frames {f : Int} : inR f 1 10 = true ↔ 1 ≤ f ∧ f ≤ 10 := by simp [inR]

set_option maxHeartbeats 1600000 in
theorem boGood_any (f : Int) (rolls : List Int) (a : Option Addr) (c : Nat) (w : World) (hl : (rolls.length : Int) ≤ 1000000000000) (h : Reads w a (ints rolls)) :
    Calls Tryd.prog 13 #[.int .i64 f, .slice a rolls.length c] w fun e w' => e = .returned (.bool (goodR f rolls).isSome) ∧ Below w.heap.size w w' := by
  by_cases hf : 1 ≤ f ∧ f ≤ 10
  · obtain ⟨F, rfl⟩ := Int.eq_ofNat_of_zero_le (a := f) (by omega)
    rw [goodR_nat (by omega) (by omega)]
    have hp := boPlay_any F (by omega) (by omega) rolls a c w hl h
    have hfr : inR (F : Int) 1 10 = true := inR_frames.2 hf
    have HFR := Lib.hid hfr; clear hfr h hf
    cases hg : gameG F ([], []) rolls with
    | none =>
      rw [hg] at hp
      have HP := Lib.hid hp; clear hp hg
      go_enter Tryd.func13, Tryd.ntmps13
      go_wp2_with fail
      refine (boFrames_any _ _).mono ?_; rintro e w1 ⟨rfl, rfl⟩
      rw [HFR.out]
      go_wp2_with fail
      refine HP.out.mono ?_; rintro e w1 ⟨-, hn, b1⟩
      obtain ⟨fr, a2, n2, c2, st, ov, rfl⟩ := hn rfl
      have z1 := b1.size
      have B1 := Lib.hid b1; clear b1 hn
      go_wp2_with fail
      go_ret
      exact ⟨rfl, B1.out.alloc z1 _⟩
    | some s =>
      rw [hg] at hp
      have HP := Lib.hid hp; clear hp hg
      go_enter Tryd.func13, Tryd.ntmps13
      go_wp2_with fail
      refine (boFrames_any _ _).mono ?_; rintro e w1 ⟨rfl, rfl⟩
      rw [HFR.out]
      go_wp2_with fail
      refine HP.out.mono ?_; rintro e w1 ⟨hn, -, b1⟩
      obtain ⟨a2, c2, rfl, -⟩ := hn s rfl
      have z1 := b1.size
      have B1 := Lib.hid b1; clear b1 hn
      go_wp2_with fail
      go_ret
      exact ⟨rfl, B1.out.alloc z1 _⟩
  · have hg : goodR f rolls = none := by unfold goodR; rw [if_neg hf]
    have hfr : inR f 1 10 = false := by
      cases hq : inR f 1 10
      · rfl
      · exact absurd (inR_frames.1 hq) hf
    rw [hg]
    have HFR := Lib.hid hfr; clear hfr h hf hg
    go_enter Tryd.func13, Tryd.ntmps13
    go_wp2_with fail
    refine (boFrames_any _ _).mono ?_; rintro e w1 ⟨rfl, rfl⟩
    rw [HFR.out]
    go_wp2_with fail
    go_ret
    exact ⟨rfl, Below.refl _ _⟩

end Go.Proofs.YteippgbaaipiiaaDoor
