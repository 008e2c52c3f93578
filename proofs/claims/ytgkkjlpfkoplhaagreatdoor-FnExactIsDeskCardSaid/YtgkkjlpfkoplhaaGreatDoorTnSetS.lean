/-
  Tennis: the model plays the points of a set.
-/
import Derived.Test.YtgkkjlpfkoplhaaGreatDoorWkIsTennisGame
import Derived.Test.YtgkkjlpfkoplhaaGreatDoorTnSetMath
import Derived.Test.YtgkkjlpfkoplhaaGreatDoorTnStand
import Derived.Test.YtgkkjlpfkoplhaaGreatDoorTnTie
namespace Go.Proofs.YtgkkjlpfkoplhaaGreatDoor
open Go.RowKit
set_option linter.unusedVariables false
set_option linter.unusedSimpArgs false

/-- How the next game stands, as the model tells. -/
def standsS (x : List UInt8 × List UInt8 × Option (Int × Int)) : List UInt8 :=
  match x.2.2 with
  | none => []
  | some (a, b) => if cntA x.1 = 6 ∧ cntB x.1 = 6 then tieL a.toNat b.toNat false else standL a b
/-- The model's answer: games, the place behind them, how the next one stands, whether nothing is behind the end. -/
def setSV (s : ByteArray) (x : List UInt8 × List UInt8 × Option (Int × Int)) : Value :=
  .tuple #[.string ⟨x.1.toArray⟩, .int .i64 ((s.size : Int) - x.2.1.length), .string ⟨(standsS x).toArray⟩, .bool (okS x)]

set_option maxHeartbeats 400000 in
theorem tnTie_any (w : World) : Calls Tryz.prog 55 #[] w fun e w' => e = .returned (.agg #[.int .i64 7, .int .i64 2]) ∧ Below w.heap.size w w' := by
  go_enter Tryz.func55, Tryz.ntmps55
  go_wp2
  refine bodyPost_ret (v := .agg #[.int .i64 7, .int .i64 2]) (by simp [results, Tryz.results55, go_sem]) rfl ⟨rfl, ?_⟩
  (repeat (first | exact Below.refl _ _ | exact ‹Below _ _ _› | refine Below.drew ?_ | refine Below.alloc ?_ (by first | omega | (simp; done) | (simp; omega)) _ | refine Below.setCell ?_ (by first | omega | (simp; done) | (simp; omega)) _ | refine Below.trans ?_ (Below.mono ‹Below _ _ _› (by first | omega | (simp; done) | (simp; omega)))))

theorem play_bd : ∀ (l : List UInt8) (to a b : Int), 0 ≤ a → 0 ≤ b →
    0 ≤ (playS to a b l).1 ∧ (playS to a b l).1 ≤ a + l.length ∧ 0 ≤ (playS to a b l).2.1 ∧ (playS to a b l).2.1 ≤ b + l.length ∧ (playS to a b l).2.2.1 ≤ l.length
  | [], _, a, b, ha, hb => by simp [playS]; omega
  | c :: r, to, a, b, ha, hb => by
    have hu : 0 ≤ upA c ∧ upA c ≤ 1 ∧ 0 ≤ upB c ∧ upB c ≤ 1 := by unfold upA upB; split <;> omega
    have ih := play_bd r to (a + upA c) (b + upB c) (by omega) (by omega)
    unfold playS
    split
    · simp; omega
    · simp; omega
theorem race4_eq' (a b : Int) : raceTo a b = if a = 6 ∧ b = 6 then 7 else 4 := rfl
theorem setS_over {f : Nat} {G rest : List UInt8} (h : overB (cntA G) (cntB G) = true) : setS (f + 1) G rest = (G, rest, none) := by rw [setS, if_pos h]
theorem setS_open {f : Nat} {G rest : List UInt8} (h : overB (cntA G) (cntB G) = false) (e : (playS (raceTo (cntA G) (cntB G)) 0 0 rest).2.2.2 = false) :
    setS (f + 1) G rest = (G, rest, some ((playS (raceTo (cntA G) (cntB G)) 0 0 rest).1, (playS (raceTo (cntA G) (cntB G)) 0 0 rest).2.1)) := by rw [setS, if_neg (by simp [h]), if_pos e]
theorem setS_next {f : Nat} {G rest : List UInt8} (h : overB (cntA G) (cntB G) = false) (e : (playS (raceTo (cntA G) (cntB G)) 0 0 rest).2.2.2 = true) :
    setS (f + 1) G rest = setS f (G ++ [if (playS (raceTo (cntA G) (cntB G)) 0 0 rest).2.1 < (playS (raceTo (cntA G) (cntB G)) 0 0 rest).1 then 97 else 98]) (rest.drop (playS (raceTo (cntA G) (cntB G)) 0 0 rest).2.2.1) := by
  rw [setS, if_neg (by simp [h]), if_neg (by simp [e])]

/-- One round: the games, their numbers, what is known of the set. -/
def RdS (s : ByteArray) (R : List UInt8 × List UInt8 × Option (Int × Int)) (f k : Nat) (G : List UInt8) (A B : Int) : Prop :=
  A = cntA G ∧ B = cntB G ∧ nearB A B = true ∧ 14 ≤ (f : Int) + A + B ∧ (G.length : Int) = A + B ∧ setS f G (s.data.toList.drop k) = R
theorem RdS.bd {s : ByteArray} {R : List UInt8 × List UInt8 × Option (Int × Int)} {f k : Nat} {G : List UInt8} {A B : Int} (h : RdS s R f k G A B) : 0 ≤ A ∧ A ≤ 7 ∧ 0 ≤ B ∧ B ≤ 7 ∧ A + B ≤ 13 ∧ 1 ≤ f ∧ (G.length : Int) ≤ 13 := by
  obtain ⟨-, -, h3, h4, h5, -⟩ := h
  have := near_bd h3; omega
theorem RdS.over {s : ByteArray} {R : List UInt8 × List UInt8 × Option (Int × Int)} {f k : Nat} {G : List UInt8} {A B : Int} (h : RdS s R (f + 1) k G A B) (ho : overB A B = true) : R = (G, s.data.toList.drop k, none) := by
  obtain ⟨rfl, rfl, -, -, -, h⟩ := h
  rw [← h, setS_over ho]
theorem RdS.opn {s : ByteArray} {R : List UInt8 × List UInt8 × Option (Int × Int)} {f k : Nat} {G : List UInt8} {A B : Int} {x y : Int} {n : Nat} (h : RdS s R (f + 1) k G A B) (ho : overB A B = false) (hp : playS (raceTo A B) 0 0 (s.data.toList.drop k) = (x, y, n, false)) : R = (G, s.data.toList.drop k, some (x, y)) := by
  obtain ⟨rfl, rfl, -, -, -, h⟩ := h
  rw [← h, setS_open ho (by rw [hp]), hp]
theorem RdS.nxA {s : ByteArray} {R : List UInt8 × List UInt8 × Option (Int × Int)} {f k : Nat} {G : List UInt8} {A B : Int} {x y : Int} {n : Nat} (h : RdS s R (f + 1) k G A B) (ho : overB A B = false) (hp : playS (raceTo A B) 0 0 (s.data.toList.drop k) = (x, y, n, true)) (hxy : y < x) : RdS s R f (k + n) (G ++ [97]) (A + 1) B := by
  obtain ⟨rfl, rfl, h3, h4, h5, h⟩ := h
  obtain ⟨n1, n2⟩ := near_step h3 ho
  refine ⟨by rw [cntA_app]; rfl, by rw [cntB_app]; show _ = cntB G + 0; omega, n1, by omega, by simp; omega, ?_⟩
  rw [← h, setS_next ho (by rw [hp]), hp]
  simp only
  rw [if_pos hxy, List.drop_drop]
theorem RdS.nxB {s : ByteArray} {R : List UInt8 × List UInt8 × Option (Int × Int)} {f k : Nat} {G : List UInt8} {A B : Int} {x y : Int} {n : Nat} (h : RdS s R (f + 1) k G A B) (ho : overB A B = false) (hp : playS (raceTo A B) 0 0 (s.data.toList.drop k) = (x, y, n, true)) (hxy : ¬ y < x) : RdS s R f (k + n) (G ++ [98]) A (B + 1) := by
  obtain ⟨rfl, rfl, h3, h4, h5, h⟩ := h
  obtain ⟨n1, n2⟩ := near_step h3 ho
  refine ⟨by rw [cntA_app]; show _ = cntA G + 0; omega, by rw [cntB_app]; rfl, n2, by omega, by simp; omega, ?_⟩
  rw [← h, setS_next ho (by rw [hp]), hp]
  simp only
  rw [if_neg hxy, List.drop_drop]

set_option maxHeartbeats 800000 in
set_option maxRecDepth 100000 in
theorem tnSet_any (s : ByteArray) (w : World) (hs : (s.size : Int) ≤ 100000) :
    Calls Tryz.prog 33 #[.string s] w fun e w' => e = .returned (setSV s (setS 14 [] s.data.toList)) ∧ Below w.heap.size w w' := by
  have R0 : Hid (RdS s (setS 14 [] s.data.toList) 14 0 [] 0 0) := ⟨rfl, rfl, near_00, by decide, rfl, by rw [List.drop_zero]⟩
  generalize setS 14 [] s.data.toList = R at *
  go_enter Tryz.func33, Tryz.ntmps33
  go_wp2_with fail
  go_loopw [6, 7, 8, 9] (fun q i p r wr => ∃ (f k : Nat) (G : List UInt8) (A B : Int), q = .string ⟨G.toArray⟩ ∧ i = .int .i64 k ∧ p = .int .i64 A ∧ r = .int .i64 B ∧ k ≤ s.size ∧ Hid (RdS s R f k G A B) ∧ Hid (Below w.heap.size w wr)) (fun _ _ p r _ => 14 - (intOf p + intOf r).toNat)
  case atStart => exact ⟨14, 0, [], 0, 0, rfl, rfl, rfl, rfl, Nat.zero_le _, R0, Below.refl _ _⟩
  case round =>
    clear R0
    obtain ⟨f, k, G, A, B, rfl, rfl, rfl, rfl, hk, HR, HB⟩ := hrel
    obtain ⟨a0, a7, b0, b7, ab, f1, g13⟩ := HR.out.bd
    obtain ⟨f, rfl⟩ : ∃ f', f = f' + 1 := ⟨f - 1, by omega⟩
    have HO := Lib.hid (fun w => tnOver_any A B w a0 (by omega) b0 (by omega))
    cases ho : overB A B
    · have hsl : (s.data.toList.drop k).length = s.size - k := by simp
      have hpl := play_bd (s.data.toList.drop k) (raceTo A B) 0 0 (by omega) (by omega)
      rw [hsl] at hpl; clear hsl
      have HPL0 := Lib.hid (fun w => tnPlay_any (raceTo A B) s k w (by omega) hk)
      have HX := Lib.hid (fun x y n hp => @RdS.opn s R f k G A B x y n HR.out ho hp)
      have HNA := Lib.hid (fun x y n hp hxy => @RdS.nxA s R f k G A B x y n HR.out ho hp hxy)
      have HNB := Lib.hid (fun x y n hp hxy => @RdS.nxB s R f k G A B x y n HR.out ho hp hxy)
      have HC := Lib.hid (And.intro HR.out.1 HR.out.2.1)
      rw [ho] at HO; clear ho HR
      generalize hp : playS (raceTo A B) 0 0 (s.data.toList.drop k) = p at *
      obtain ⟨x, y, n, e⟩ := p
      simp only at hpl
      obtain ⟨x1, x2, y1, y2, nl⟩ := hpl
      have HP := Lib.hid hp; clear hp
      by_cases h6 : A = 6 ∧ B = 6
      · obtain ⟨rfl, rfl⟩ := h6
        have HPL : Hid (∀ w, Calls Tryz.prog 56 #[.agg #[.int .i64 7, .int .i64 2], .string s, .int .i64 k] w fun e' w' => e' = .returned (.tuple #[.int .i64 x, .int .i64 y, .int .i64 n, .bool e]) ∧ Below w.heap.size w w') := fun w => by
          have := HPL0.out w
          rw [show raceTo 6 6 = 7 from by decide] at this; exact this
        go_wp2_with fail
        refine (HO.out _).mono ?_; rintro e' w1 ⟨rfl, rfl⟩
        go_wp2_with fail
        refine (tnGame_any _).mono ?_; rintro e' w2 ⟨rfl, b2⟩
        have HB2 := Lib.hid (HB.out.trans (b2.mono HB.out.size)); clear b2 HB
        have PR0 := Lib.hid (And.intro (Pair.new w2 4 2 78) (HB2.out.alloc HB2.out.size (.cells #[.int .i64 4, .int .i64 2] 78)))
        have gw2 := HB2.out.size
        go_wp2_with fail
        refine (tnTie_any _).mono ?_; rintro e' w3 ⟨rfl, b3⟩
        have PR := Lib.hid (And.intro (PR0.out.1.keep b3) (PR0.out.2.trans (b3.mono PR0.out.2.size))); clear b3 PR0
        obtain ⟨z0, c0, c1, f0, f1⟩ := PR.out.1
        have PR7 := Lib.hid (And.intro (PR.out.1.put 7 2) ((PR.out.2.setCell (p := ⟨w2.heap.size, 0, none⟩) gw2 (.int .i64 7)).setCell (p := ⟨w2.heap.size, 1, none⟩) gw2 (.int .i64 2)))
        go_wp2_with fail
        clear z0 c0 c1 f0 f1
        refine (HPL.out _).mono ?_; rintro e' w4 ⟨rfl, b4⟩
        obtain ⟨z4, c0, c1, -, -⟩ := PR7.out.1.keep b4
        have HB4 := Lib.hid (PR7.out.2.trans (b4.mono PR7.out.2.size)); clear b4 PR7 PR HPL z4
        cases e
        · have HRR := Lib.hid (HX.out x y n rfl); clear HX HNA HNB HP HPL0
          obtain ⟨X, rfl⟩ : ∃ X : Nat, x = X := ⟨x.toNat, by omega⟩
          obtain ⟨Y, rfl⟩ : ∃ Y : Nat, y = Y := ⟨y.toNat, by omega⟩
          go_wp2_with fail
          refine (tnTieStands_any X Y false _ (by omega) (by omega)).mono ?_; rintro e' w5 ⟨rfl, b5⟩
          have HB5 := Lib.hid (HB4.out.trans (b5.mono HB4.out.size)); clear b5 HB4 c0 c1
          go_wp2_with fail
          refine bodyPost_ret (v := .tuple #[.string ⟨G.toArray⟩, .int .i64 k, .string ⟨(tieL X Y false).toArray⟩, .bool true]) (by simp [results, Tryz.results33, go_sem]) rfl ⟨?_, HB5.out⟩
          rw [HRR.out]
          have hdl : (s.data.toList.drop k).length = s.size - k := by simp
          simp only [setSV, standsS, okS, Option.isSome, Bool.true_or]
          rw [if_pos ⟨HC.out.1.symm, HC.out.2.symm⟩, hdl, show (((X : Nat) : Int)).toNat = X from by omega, show (((Y : Nat) : Int)).toNat = Y from by omega, show (s.size : Int) - ((s.size - k : Nat) : Int) = k from by omega]
        · by_cases hxy : y < x
          · have HN := Lib.hid (HNA.out x y n rfl hxy); clear HNA HNB HX HP HPL0 HC
            have hadd : ∀ W : World, (Op.stringOp .add ⟨G.toArray⟩ ⟨#[97]⟩).run Tryz.prog W = .ok (.string ⟨(G ++ [97]).toArray⟩) W := fun W => run_string_add_lists W G [97] (by omega) (by simp)
            have d1 : y < x := hxy
            go_wp2_with fail
            clear hadd c0 c1
            go_roundw
            case rel => exact ⟨f, k + n, G ++ [97], _, _, rfl, by go_num, rfl, rfl, by omega, HN, HB4⟩
            case measure => simp [intOf] <;> omega
          · have HN := Lib.hid (HNB.out x y n rfl (by omega)); clear HNA HNB HX HP HPL0 HC
            have hadd : ∀ W : World, (Op.stringOp .add ⟨G.toArray⟩ ⟨#[98]⟩).run Tryz.prog W = .ok (.string ⟨(G ++ [98]).toArray⟩) W := fun W => run_string_add_lists W G [98] (by omega) (by simp)
            go_wp2_with fail
            clear hadd c0 c1
            go_roundw
            case rel => exact ⟨f, k + n, G ++ [98], _, _, rfl, by go_num, rfl, rfl, by omega, HN, HB4⟩
            case measure => simp [intOf] <;> omega
      · have hro : raceTo A B = 4 := (race4_eq' _ _).trans (if_neg h6)
        have HPL : Hid (∀ w, Calls Tryz.prog 56 #[.agg #[.int .i64 4, .int .i64 2], .string s, .int .i64 k] w fun e' w' => e' = .returned (.tuple #[.int .i64 x, .int .i64 y, .int .i64 n, .bool e]) ∧ Below w.heap.size w w') := fun w => by
          have := HPL0.out w
          rw [hro] at this; exact this
        clear hro
        have h66 : ((A == 6) = false ∧ ¬ A = 6) ∨ (A = 6 ∧ (B == 6) = false ∧ ¬ B = 6) := by
          by_cases q : A = 6
          · right; exact ⟨q, by simp; intro z; exact h6 ⟨q, z⟩, fun z => h6 ⟨q, z⟩⟩
          · left; simp [q]
        have H6 := Lib.hid h6; clear h6
        rcases h66 with ⟨e6, e6n⟩ | ⟨rfl, e6b, e6n⟩
        all_goals
          go_wp2_with fail
          refine (HO.out _).mono ?_; rintro e' w1 ⟨rfl, rfl⟩
          go_wp2_with fail
          refine (tnGame_any _).mono ?_; rintro e' w2 ⟨rfl, b2⟩
          have HB2 := Lib.hid (HB.out.trans (b2.mono HB.out.size)); clear b2 HB
          have PR0 := Lib.hid (And.intro (Pair.new w2 4 2 78) (HB2.out.alloc HB2.out.size (.cells #[.int .i64 4, .int .i64 2] 78)))
          go_wp2_with fail
          refine (HPL.out _).mono ?_; rintro e' w4 ⟨rfl, b4⟩
          obtain ⟨z4, c0, c1, -, -⟩ := PR0.out.1.keep b4
          have HB4 := Lib.hid (PR0.out.2.trans (b4.mono PR0.out.2.size)); clear b4 PR0 HPL z4
          cases e
          · have HRR := Lib.hid (HX.out x y n rfl); clear HX HNA HNB HP HPL0
            go_wp2_with fail
            refine (tnStands_any x y _ ⟨x1, y1, by omega, by omega⟩).mono ?_; rintro e' w5 ⟨rfl, b5⟩
            have HB5 := Lib.hid (HB4.out.trans (b5.mono HB4.out.size)); clear b5 HB4 c0 c1
            go_wp2_with fail
            refine bodyPost_ret (v := .tuple #[.string ⟨G.toArray⟩, .int .i64 k, .string ⟨(standL x y).toArray⟩, .bool true]) (by simp [results, Tryz.results33, go_sem]) rfl ⟨?_, HB5.out⟩
            rw [HRR.out]
            have hdl : (s.data.toList.drop k).length = s.size - k := by simp
            simp only [setSV, standsS, okS, Option.isSome, Bool.true_or]
            rw [if_neg (by rw [← HC.out.1, ← HC.out.2]; intro hh; exact H6.out ⟨by first | exact hh.1 | trivial, hh.2⟩), hdl, show (s.size : Int) - ((s.size - k : Nat) : Int) = k from by omega]
          · by_cases hxy : y < x
            · have HN := Lib.hid (HNA.out x y n rfl hxy); clear HNA HNB HX HP HPL0 HC
              have hadd : ∀ W : World, (Op.stringOp .add ⟨G.toArray⟩ ⟨#[97]⟩).run Tryz.prog W = .ok (.string ⟨(G ++ [97]).toArray⟩) W := fun W => run_string_add_lists W G [97] (by omega) (by simp)
              have d1 : y < x := hxy
              go_wp2_with fail
              clear hadd c0 c1
              go_roundw
              case rel => exact ⟨f, k + n, G ++ [97], _, _, rfl, by go_num, rfl, rfl, by omega, HN, HB4⟩
              case measure => simp [intOf] <;> omega
            · have HN := Lib.hid (HNB.out x y n rfl (by omega)); clear HNA HNB HX HP HPL0 HC
              have hadd : ∀ W : World, (Op.stringOp .add ⟨G.toArray⟩ ⟨#[98]⟩).run Tryz.prog W = .ok (.string ⟨(G ++ [98]).toArray⟩) W := fun W => run_string_add_lists W G [98] (by omega) (by simp)
              go_wp2_with fail
              clear hadd c0 c1
              go_roundw
              case rel => exact ⟨f, k + n, G ++ [98], _, _, rfl, by go_num, rfl, rfl, by omega, HN, HB4⟩
              case measure => simp [intOf] <;> omega
    · have HI := Lib.hid (HR.out.over ho)
      rw [ho] at HO; clear ho HR
      go_wp2_with fail
      refine (HO.out _).mono ?_; rintro e w1 ⟨rfl, rfl⟩
      go_wp2_with fail
      refine bodyPost_ret (v := .tuple #[.string ⟨G.toArray⟩, .int .i64 k, .string ⟨#[]⟩, .bool ((k : Int) == (s.size : Int))]) (by simp [results, Tryz.results33, go_sem]) rfl ⟨?_, HB.out⟩
      rw [HI.out]
      simp only [setSV, standsS, okS, Option.isSome, Bool.false_or]
      have e1 : ((s.data.toList.drop k).length : Int) = (s.size : Int) - k := by simp; omega
      have e2 : (s.data.toList.drop k).isEmpty = ((k : Int) == (s.size : Int)) := by
        rw [Bool.eq_iff_iff]; simp [List.isEmpty_iff, List.drop_eq_nil_iff]; omega
      rw [e1, e2, show (s.size : Int) - ((s.size : Int) - k) = k from by omega]

end Go.Proofs.YtgkkjlpfkoplhaaGreatDoor
