/-
  Pins: the model's boText.
-/
import Derived.Test.YtgkkjlpfkoplhaaDoorPnPlayT
import Derived.Test.YtgkkjlpfkoplhaaDoorPnFresh
import Derived.Test.YtgkkjlpfkoplhaaDoorPnTr
namespace Go.Proofs.YtgkkjlpfkoplhaaDoor
open Go.RowKit
set_option linter.unusedVariables false
set_option linter.unusedSimpArgs false

def TxA (F : Nat) (rolls : List Int) (sf : St) (w : World) (g6 k : Nat) (q : Value) (wr : World) : Prop :=
  ∃ s a c, InvG F s ∧ gameG F s (rolls.drop k) = some sf ∧ q = .string ⟨(textG s).toArray⟩ ∧ BoAt wr g6 (frA F s) (.slice a (bsA F s).length c) (stA F s) (overG F s) ∧ Reads wr a (ints (bsA F s)) ∧ (∀ b off, a = some ⟨b, off, none⟩ → b ≠ g6) ∧ Below w.heap.size w wr

set_option maxHeartbeats 6400000 in
set_option maxRecDepth 100000 in
theorem boText_any (F : Nat) (h1 : 1 ≤ F) (h2 : F ≤ 10) (rolls : List Int) (sf : St) (hg : gameG F ([], []) rolls = some sf) (a : Option Addr) (c : Nat) (w : World) (hl : (rolls.length : Int) ≤ 1000000000000) (h : Reads w a (ints rolls)) :
    Calls Tryd.prog 34 #[.int .i64 F, .slice a rolls.length c] w fun e w' => e = .returned (.string ⟨(textG sf).toArray⟩) ∧ Below w.heap.size w w' := by
  have HR := Lib.hid h; clear h
  go_enter Tryd.func34, Tryd.ntmps34
  go_wp2_with fail
  refine (boStart_any _).mono ?_; rintro e w1 ⟨rfl, b1⟩
  have hz1 : w.heap.size ≤ w1.heap.size := b1.size
  have hp0 : TxA F rolls sf w w1.heap.size 0 (.string ⟨#[]⟩) (w1.alloc (.cells #[.int .i64 0, .slice none 0 0, .int .i64 10, .bool false] 56)) := by
    obtain ⟨e1, e2, e3, e4⟩ := start_place F h1
    refine ⟨([], []), none, 0, inv_start h1, by simpa using hg, rfl, ?_, ?_, (fun b off e => by cases e), b1.alloc hz1 _⟩
    · rw [e1, e2, e3, e4]; exact BoAt.new w1 _ _ _ _
    · rw [e2]; exact .inl rfl
  have HP0 := Lib.hid hp0; clear hp0
  have HG := Lib.hid hg; clear hg b1
  go_wp2_with fail
  generalize w1.alloc (.cells #[.int .i64 0, .slice none 0 0, .int .i64 10, .bool false] 56) = X at *
  generalize hg6 : w1.heap.size = g6 at *
  clear hg6
  have HG6 := Lib.hid hz1; clear hz1
  go_loopw [5, 12] (fun q i wr => ∃ k : Nat, i = .int .i64 k ∧ k ≤ rolls.length ∧ Hid (TxA F rolls sf w g6 k q wr)) (fun _ i _ => rolls.length - (intOf i).toNat)
  case atStart => exact ⟨0, rfl, Nat.zero_le _, HP0⟩
  case round =>
    clear HP0 HG
    obtain ⟨k, rfl, hk, hA⟩ := hrel
    obtain ⟨s, a2, c2, hi, hgm, rfl, hat, hrd, hne, hbel⟩ := hA.out
    clear hA
    by_cases hlt : k < rolls.length
    · have hkl : (k : Int) < (rolls.length : Int) := by omega
      obtain ⟨b, off, ha, hcell⟩ := ints_cell (HR.out.old hbel) hlt
      subst ha
      have hdr : rolls.drop k = rolls.getD k 0 :: rolls.drop (k + 1) := by rw [List.drop_eq_getElem_cons hlt]; simp [hlt]
      rw [hdr, gameG] at hgm
      clear hdr
      generalize hp : rolls.getD k 0 = p at *
      clear hp
      cases hf : fitsG F s p
      · rw [hf] at hgm
        simp at hgm
      · rw [hf] at hgm
        simp only [if_true] at hgm
        obtain ⟨ho, hp0, hp1⟩ := fits_parts hf
        have e1 : frA F s = s.1.length := by simp [frA, ho]
        have e2 : bsA F s = s.2 := by simp [bsA, ho]
        have e3 : stA F s = leftP s.2 := by simp [stA, e2]
        rw [e1, e2, e3, ho] at hat
        rw [e2] at hrd
        clear e1 e2 e3
        have hop := inv_open hi ho
        have hl2 : s.2.length ≤ 2 := open_len hop
        have hbd := leftP_bd s.2
        have htx := text_step hi hf
        have hfl := flat_len hi
        have htl := text_len s
        have hl30 : (textG s).length ≤ 40 := by
          rw [htl]; omega
        have hroll := fun w' (hr : Reads w' a2 (ints s.2)) => roll_any F h1 h2 s p hi hf a2 c2 w' hr
        have hfr := fun w' (hr : Reads w' a2 (ints s.2)) => boFresh_any (s.1.length : Int) (leftP s.2) false s.2 hl2 a2 c2 w' hr
        have HI2 := Lib.hid (And.intro (inv_step hi hf) hgm); clear hgm
        have HRO := Lib.hid hroll; clear hroll
        have HFRE := Lib.hid hfr; clear hfr
        have HAT := Lib.hid (And.intro hat (And.intro hrd hbel))
        have HNUM := Lib.hid (fun (n : Nat) (w : World) (hn : n < 100) => l1Num_any 1 n w (by simpa using hn) (by omega))
        obtain ⟨g0, g1, g2, g3⟩ := hat.cells
        clear hat hrd hbel hi hop hf ho hl2 hfl htl hne
        generalize hT : textG s = T at *
        clear hT
        generalize hst : leftP s.2 = st at *
        generalize hfv : freshS st s.2 = fv at *
        generalize (s.1.length : Int) = d at *
        generalize stepG F s p = t at *
        by_cases e0 : p = 0
        · have hs : signM s.2 p = [45] := by
            unfold signM; rw [← fresh_is, hst, hfv]; simp [e0]
          rw [hs] at htx
          have HTX := Lib.hid htx; clear htx hs
          have e0b : (p == 0) = true := by simpa using e0
          clear e0
          have hadd : ∀ W : World, (Op.stringOp .add ⟨T.toArray⟩ ⟨#[45]⟩).run Tryd.prog W = .ok (.string ⟨(T ++ [45]).toArray⟩) W := fun W => run_string_add_lists W T ([45]) (by omega) (by first | (simp; done) | (simp [digP]; done))
          go_wp2_with fail
          refine (HRO.out _ HAT.out.2.1).mono ?_; rintro e w4 ⟨a3, c3, rfl, hr3, hf3, b4⟩
          have hat4 := HAT.out.1.keep b4
          have hbel4 := HAT.out.2.2.trans (b4.mono HAT.out.2.2.size)
          have hlt6 := HAT.out.1.lt
          have hst4 := hat4.stored (frA F t : Int) (.slice a3 (bsA F t).length c3) (stA F t) (overG F t)
          have hrst := reads_other hr3 (fun b off e => (by have := hf3 b off e; omega : b ≠ g6)) (heap_four w4 g6 (.int .i64 (frA F t : Int)) (.slice a3 (bsA F t).length c3) (.int .i64 (stA F t)) (.bool (overG F t))) (by simp)
          have hbst := below_four hbel4 HG6.out (.int .i64 (frA F t : Int)) (.slice a3 (bsA F t).length c3) (.int .i64 (stA F t)) (.bool (overG F t))
          have HEND := Lib.hid (And.intro hst4 (And.intro hrst (And.intro (fun b off e => (by have := hf3 b off e; omega : b ≠ g6)) hbst)))
          clear g0 g1 g2 g3
          obtain ⟨g0, g1, g2, g3⟩ := hat4.cells
          have q0 := hat4.free 0
          have q1 := hat4.free 1
          have q2 := hat4.free 2
          have q3 := hat4.free 3
          clear hst4 hrst hbst hat4 hbel4 hr3 hf3 b4
          generalize hfr : (frA F t : Int) = fr at *
          generalize hst' : stA F t = st' at *
          have HFR := Lib.hid (And.intro hfr hst'); clear hfr hst'
          go_wp2_with fail
          go_roundw
          case rel =>
            obtain ⟨e1, e2⟩ := HFR.out
            subst e1 e2
            exact ⟨k + 1, by go_num, by omega, Lib.hid ⟨t, a3, c3, HI2.out.1, HI2.out.2, by rw [HTX.out], HEND.out.1, HEND.out.2.1, HEND.out.2.2.1, HEND.out.2.2.2⟩⟩
          case measure => simp [intOf]; omega
        · have e0b : (p == 0) = false := by simpa using e0
          by_cases e10 : p = 10
          · have e10b : (p == 10) = true := by simpa using e10
            cases fv
            · have hs : signM s.2 p = [47] := by
                unfold signM; rw [← fresh_is, hst, hfv]; have : p = st := by omega
                simp [this]; omega
              rw [hs] at htx
              have HTX := Lib.hid htx; clear htx hs
              have est : (p == st) = true := by simp; omega
              clear e0 e10
              have hadd : ∀ W : World, (Op.stringOp .add ⟨T.toArray⟩ ⟨#[47]⟩).run Tryd.prog W = .ok (.string ⟨(T ++ [47]).toArray⟩) W := fun W => run_string_add_lists W T ([47]) (by omega) (by first | (simp; done) | (simp [digP]; done))
              go_wp2_with fail
              refine (HFRE.out _ HAT.out.2.1).mono ?_; rintro e w5 ⟨rfl, b5⟩
              have HA5 := Lib.hid (And.intro (HAT.out.1.keep b5) (And.intro (HAT.out.2.1.old b5) (HAT.out.2.2.trans (b5.mono HAT.out.2.2.size)))); clear b5 g0 g1 g2 g3
              obtain ⟨g0, g1, g2, g3⟩ := HA5.out.1.cells
              go_wp2_with fail
              refine (HRO.out _ HA5.out.2.1).mono ?_; rintro e w4 ⟨a3, c3, rfl, hr3, hf3, b4⟩
              have hat4 := HA5.out.1.keep b4
              have hbel4 := HA5.out.2.2.trans (b4.mono HA5.out.2.2.size)
              have hlt6 := HA5.out.1.lt
              have hst4 := hat4.stored (frA F t : Int) (.slice a3 (bsA F t).length c3) (stA F t) (overG F t)
              have hrst := reads_other hr3 (fun b off e => (by have := hf3 b off e; omega : b ≠ g6)) (heap_four w4 g6 (.int .i64 (frA F t : Int)) (.slice a3 (bsA F t).length c3) (.int .i64 (stA F t)) (.bool (overG F t))) (by simp)
              have hbst := below_four hbel4 HG6.out (.int .i64 (frA F t : Int)) (.slice a3 (bsA F t).length c3) (.int .i64 (stA F t)) (.bool (overG F t))
              have HEND := Lib.hid (And.intro hst4 (And.intro hrst (And.intro (fun b off e => (by have := hf3 b off e; omega : b ≠ g6)) hbst)))
              clear g0 g1 g2 g3
              obtain ⟨g0, g1, g2, g3⟩ := hat4.cells
              have q0 := hat4.free 0
              have q1 := hat4.free 1
              have q2 := hat4.free 2
              have q3 := hat4.free 3
              clear hst4 hrst hbst hat4 hbel4 hr3 hf3 b4
              generalize hfr : (frA F t : Int) = fr at *
              generalize hst' : stA F t = st' at *
              have HFR := Lib.hid (And.intro hfr hst'); clear hfr hst'
              go_wp2_with fail
              go_roundw
              case rel =>
                obtain ⟨e1, e2⟩ := HFR.out
                subst e1 e2
                exact ⟨k + 1, by go_num, by omega, Lib.hid ⟨t, a3, c3, HI2.out.1, HI2.out.2, by rw [HTX.out], HEND.out.1, HEND.out.2.1, HEND.out.2.2.1, HEND.out.2.2.2⟩⟩
              case measure => simp [intOf]; omega
            · have hs : signM s.2 p = [88] := by
                unfold signM; rw [← fresh_is, hst, hfv]; simp [e10]
              rw [hs] at htx
              have HTX := Lib.hid htx; clear htx hs
              clear e0 e10
              have hadd : ∀ W : World, (Op.stringOp .add ⟨T.toArray⟩ ⟨#[88]⟩).run Tryd.prog W = .ok (.string ⟨(T ++ [88]).toArray⟩) W := fun W => run_string_add_lists W T ([88]) (by omega) (by first | (simp; done) | (simp [digP]; done))
              go_wp2_with fail
              refine (HFRE.out _ HAT.out.2.1).mono ?_; rintro e w5 ⟨rfl, b5⟩
              have HA5 := Lib.hid (And.intro (HAT.out.1.keep b5) (And.intro (HAT.out.2.1.old b5) (HAT.out.2.2.trans (b5.mono HAT.out.2.2.size)))); clear b5 g0 g1 g2 g3
              obtain ⟨g0, g1, g2, g3⟩ := HA5.out.1.cells
              go_wp2_with fail
              refine (HRO.out _ HA5.out.2.1).mono ?_; rintro e w4 ⟨a3, c3, rfl, hr3, hf3, b4⟩
              have hat4 := HA5.out.1.keep b4
              have hbel4 := HA5.out.2.2.trans (b4.mono HA5.out.2.2.size)
              have hlt6 := HA5.out.1.lt
              have hst4 := hat4.stored (frA F t : Int) (.slice a3 (bsA F t).length c3) (stA F t) (overG F t)
              have hrst := reads_other hr3 (fun b off e => (by have := hf3 b off e; omega : b ≠ g6)) (heap_four w4 g6 (.int .i64 (frA F t : Int)) (.slice a3 (bsA F t).length c3) (.int .i64 (stA F t)) (.bool (overG F t))) (by simp)
              have hbst := below_four hbel4 HG6.out (.int .i64 (frA F t : Int)) (.slice a3 (bsA F t).length c3) (.int .i64 (stA F t)) (.bool (overG F t))
              have HEND := Lib.hid (And.intro hst4 (And.intro hrst (And.intro (fun b off e => (by have := hf3 b off e; omega : b ≠ g6)) hbst)))
              clear g0 g1 g2 g3
              obtain ⟨g0, g1, g2, g3⟩ := hat4.cells
              have q0 := hat4.free 0
              have q1 := hat4.free 1
              have q2 := hat4.free 2
              have q3 := hat4.free 3
              clear hst4 hrst hbst hat4 hbel4 hr3 hf3 b4
              generalize hfr : (frA F t : Int) = fr at *
              generalize hst' : stA F t = st' at *
              have HFR := Lib.hid (And.intro hfr hst'); clear hfr hst'
              go_wp2_with fail
              go_roundw
              case rel =>
                obtain ⟨e1, e2⟩ := HFR.out
                subst e1 e2
                exact ⟨k + 1, by go_num, by omega, Lib.hid ⟨t, a3, c3, HI2.out.1, HI2.out.2, by rw [HTX.out], HEND.out.1, HEND.out.2.1, HEND.out.2.2.1, HEND.out.2.2.2⟩⟩
              case measure => simp [intOf]; omega
          · have e10b : (p == 10) = false := by simpa using e10
            by_cases es : p = st
            · have hs : signM s.2 p = [47] := by
                unfold signM; rw [← fresh_is, hst, hfv]; rw [if_neg e0, if_neg (fun h => e10 h.1), if_pos es]
              rw [hs] at htx
              have HTX := Lib.hid htx; clear htx hs
              have est : (p == st) = true := by simpa using es
              clear e0 e10 es
              have hadd : ∀ W : World, (Op.stringOp .add ⟨T.toArray⟩ ⟨#[47]⟩).run Tryd.prog W = .ok (.string ⟨(T ++ [47]).toArray⟩) W := fun W => run_string_add_lists W T ([47]) (by omega) (by first | (simp; done) | (simp [digP]; done))
              go_wp2_with fail
              refine (HRO.out _ HAT.out.2.1).mono ?_; rintro e w4 ⟨a3, c3, rfl, hr3, hf3, b4⟩
              have hat4 := HAT.out.1.keep b4
              have hbel4 := HAT.out.2.2.trans (b4.mono HAT.out.2.2.size)
              have hlt6 := HAT.out.1.lt
              have hst4 := hat4.stored (frA F t : Int) (.slice a3 (bsA F t).length c3) (stA F t) (overG F t)
              have hrst := reads_other hr3 (fun b off e => (by have := hf3 b off e; omega : b ≠ g6)) (heap_four w4 g6 (.int .i64 (frA F t : Int)) (.slice a3 (bsA F t).length c3) (.int .i64 (stA F t)) (.bool (overG F t))) (by simp)
              have hbst := below_four hbel4 HG6.out (.int .i64 (frA F t : Int)) (.slice a3 (bsA F t).length c3) (.int .i64 (stA F t)) (.bool (overG F t))
              have HEND := Lib.hid (And.intro hst4 (And.intro hrst (And.intro (fun b off e => (by have := hf3 b off e; omega : b ≠ g6)) hbst)))
              clear g0 g1 g2 g3
              obtain ⟨g0, g1, g2, g3⟩ := hat4.cells
              have q0 := hat4.free 0
              have q1 := hat4.free 1
              have q2 := hat4.free 2
              have q3 := hat4.free 3
              clear hst4 hrst hbst hat4 hbel4 hr3 hf3 b4
              generalize hfr : (frA F t : Int) = fr at *
              generalize hst' : stA F t = st' at *
              have HFR := Lib.hid (And.intro hfr hst'); clear hfr hst'
              go_wp2_with fail
              go_roundw
              case rel =>
                obtain ⟨e1, e2⟩ := HFR.out
                subst e1 e2
                exact ⟨k + 1, by go_num, by omega, Lib.hid ⟨t, a3, c3, HI2.out.1, HI2.out.2, by rw [HTX.out], HEND.out.1, HEND.out.2.1, HEND.out.2.2.1, HEND.out.2.2.2⟩⟩
              case measure => simp [intOf]; omega
            · have hs : signM s.2 p = digP p := by
                unfold signM; rw [← fresh_is, hst, hfv]; rw [if_neg e0, if_neg (fun h => e10 h.1), if_neg es]
              rw [hs] at htx
              have HTX := Lib.hid htx; clear htx hs
              obtain ⟨n, rfl⟩ := Int.eq_ofNat_of_zero_le (a := p) (by omega)
              have hdn := dig_num (n : Int) (by omega) (by omega)
              rw [Int.toNat_natCast] at hdn
              have hnm := fun w => HNUM.out n w (by omega)
              simp only [numV] at hnm
              rw [hdn] at hnm
              have HNM := Lib.hid hnm; clear hnm hdn
              have est : ((n : Int) == st) = false := by simpa using es
              clear e0 e10 es
              have hadd : ∀ W : World, (Op.stringOp .add ⟨T.toArray⟩ ⟨(digP (n : Int)).toArray⟩).run Tryd.prog W = .ok (.string ⟨(T ++ digP (n : Int)).toArray⟩) W := fun W => run_string_add_lists W T (digP (n : Int)) (by omega) (by first | (simp; done) | (simp [digP]; done))
              generalize digP (n : Int) = DG at *
              go_wp2_with fail
              refine (HNM.out _).mono ?_; rintro e w5 ⟨rfl, b5⟩
              have HA5 := Lib.hid (And.intro (HAT.out.1.keep b5) (And.intro (HAT.out.2.1.old b5) (HAT.out.2.2.trans (b5.mono HAT.out.2.2.size)))); clear b5 g0 g1 g2 g3
              obtain ⟨g0, g1, g2, g3⟩ := HA5.out.1.cells
              go_wp2_with fail
              refine (HRO.out _ HA5.out.2.1).mono ?_; rintro e w4 ⟨a3, c3, rfl, hr3, hf3, b4⟩
              have hat4 := HA5.out.1.keep b4
              have hbel4 := HA5.out.2.2.trans (b4.mono HA5.out.2.2.size)
              have hlt6 := HA5.out.1.lt
              have hst4 := hat4.stored (frA F t : Int) (.slice a3 (bsA F t).length c3) (stA F t) (overG F t)
              have hrst := reads_other hr3 (fun b off e => (by have := hf3 b off e; omega : b ≠ g6)) (heap_four w4 g6 (.int .i64 (frA F t : Int)) (.slice a3 (bsA F t).length c3) (.int .i64 (stA F t)) (.bool (overG F t))) (by simp)
              have hbst := below_four hbel4 HG6.out (.int .i64 (frA F t : Int)) (.slice a3 (bsA F t).length c3) (.int .i64 (stA F t)) (.bool (overG F t))
              have HEND := Lib.hid (And.intro hst4 (And.intro hrst (And.intro (fun b off e => (by have := hf3 b off e; omega : b ≠ g6)) hbst)))
              clear g0 g1 g2 g3
              obtain ⟨g0, g1, g2, g3⟩ := hat4.cells
              have q0 := hat4.free 0
              have q1 := hat4.free 1
              have q2 := hat4.free 2
              have q3 := hat4.free 3
              clear hst4 hrst hbst hat4 hbel4 hr3 hf3 b4
              generalize hfr : (frA F t : Int) = fr at *
              generalize hst' : stA F t = st' at *
              have HFR := Lib.hid (And.intro hfr hst'); clear hfr hst'
              go_wp2_with fail
              go_roundw
              case rel =>
                obtain ⟨e1, e2⟩ := HFR.out
                subst e1 e2
                exact ⟨k + 1, by go_num, by omega, Lib.hid ⟨t, a3, c3, HI2.out.1, HI2.out.2, by rw [HTX.out], HEND.out.1, HEND.out.2.1, HEND.out.2.2.1, HEND.out.2.2.2⟩⟩
              case measure => simp [intOf]; omega
    · obtain rfl : k = rolls.length := by omega
      have he : s = sf := by simpa [gameG] using hgm
      subst he
      go_wp2_with fail
      go_ret
      exact ⟨rfl, hbel⟩
end Go.Proofs.YtgkkjlpfkoplhaaDoor
