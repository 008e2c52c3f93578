/-
  Pins: the program's RollsText.
-/
import Derived.Test.YtgkkjlpfkoplhaaDoorPnTx
import Derived.Test.YtgkkjlpfkoplhaaDoorPnSheet
namespace Go.Proofs.YtgkkjlpfkoplhaaDoor
open Go.RowKit
set_option linter.unusedVariables false
set_option linter.unusedSimpArgs false

def txtV : Option St → List UInt8
  | none => []
  | some s => textG s
theorem flat_step (S : List (List Int)) {k : Nat} (h : k < S.length) : (S.take (k + 1)).flatMap sgF = (S.take k).flatMap sgF ++ sgF (S.getD k []) := by
  rw [List.take_succ_eq_append_getElem h, List.flatMap_append]
  have e : S.getD k [] = S[k] := by simp [h]
  rw [e]; simp
theorem flat_sg (S : List (List Int)) (h : ∀ i, smallB (S.getD i [])) : ∀ k, k ≤ S.length → ((S.take k).flatMap sgF).length ≤ 3 * k
  | 0, _ => by simp
  | k + 1, hk => by
    have ih := flat_sg S h k (by omega)
    rw [flat_step S (by omega), List.length_append, sgF_len]
    have := (h k).1
    omega

set_option maxHeartbeats 3200000 in
theorem implRollsText_any (f : Int) (rolls : List Int) (a : Option Addr) (c : Nat) (w : World) (hl : (rolls.length : Int) ≤ 1000000000000) (h : Reads w a (ints rolls)) :
    Calls Tryd.prog 35 #[.int .i64 f, .slice a rolls.length c] w fun e w' => e = .returned (.tuple #[.string ⟨(txtV (goodR f rolls)).toArray⟩, .bool (goodR f rolls).isSome]) ∧ Below w.heap.size w w' := by
  have hs := sheetOf_any f rolls a c w hl h
  cases hg : goodR f rolls with
  | none =>
    rw [hg] at hs
    have HS := Lib.hid hs; clear hs hg h
    go_enter Tryd.func35, Tryd.ntmps35
    go_wp2_with fail
    refine HS.out.mono ?_; rintro e w1 ⟨-, hn, b1⟩
    obtain rfl := hn rfl
    clear hn
    go_wp2_with fail
    refine wp_loop_rounds 1 ?_
    rw [rounds_succ]
    go_wp2_with fail
    refine bodyPost_ret (v := .tuple #[.string ⟨#[]⟩, .bool false]) (by simp [results, Tryd.results35, go_sem]) rfl ⟨rfl, b1⟩
  | some s =>
    rw [hg] at hs
    obtain ⟨F, rfl, h1, h2, -, hi, -⟩ := goodR_some hg
    have hfs := text_sheet hi
    have hsl := sheet_len hi.1
    have hsm := sheet_small hi
    have HS : Hid (Calls Tryd.prog 61 #[.int .i64 (F : Int), .slice a rolls.length c] w fun e w' => (∃ g, e = .returned (.tuple #[.slice (some ⟨g, 0, none⟩) F F, .bool true]) ∧ ShAt w' g (sheetG F s)) ∧ Below w.heap.size w w') := Lib.hid (hs.mono (fun e w' hh => by
      obtain ⟨g, e1, e2, -⟩ := hh.1 s rfl
      rw [show ((F : Nat) : Int).toNat = F from by simp] at e1 e2
      exact ⟨⟨g, e1, e2⟩, hh.2.2⟩))
    show Calls Tryd.prog 35 #[.int .i64 F, .slice a rolls.length c] w fun e w' => e = .returned (.tuple #[.string ⟨(textG s).toArray⟩, .bool true]) ∧ Below w.heap.size w w'
    have HFS := Lib.hid hfs; clear hfs hs hg h hi
    have HSL := Lib.hid hsl; clear hsl
    have HSM := Lib.hid hsm; clear hsm
    generalize sheetG F s = S at *
    generalize textG s = TT at *
    go_enter Tryd.func35, Tryd.ntmps35
    go_wp2_with fail
    refine HS.out.mono ?_; rintro e w1 ⟨⟨g, rfl, hsh⟩, b1⟩
    have H1 := Lib.hid (And.intro hsh b1); clear hsh b1
    go_wp2_with fail
    go_loopw [8, 19] (fun q i wr => ∃ k : Nat, i = .int .i64 k ∧ k ≤ F ∧ q = .string ⟨((S.take k).flatMap sgF).toArray⟩ ∧ Below w1.heap.size w1 wr) (fun _ i _ => F - (intOf i).toNat)
    case atStart => exact ⟨0, rfl, Nat.zero_le _, rfl, Below.refl _ _⟩
    case round =>
      obtain ⟨k, rfl, hk, rfl, hb⟩ := hrel
      have HB := Lib.hid hb; clear hb
      by_cases hlt : k < F
      · have hkF : (k : Int) < (F : Int) := by omega
        obtain ⟨c0, c1, c2⟩ := (H1.out.1.keep HB.out).cells (j := k) (by rw [HSL.out]; exact hlt)
        have hst := fun w => signs_any (S.getD k []) (HSM.out k) w
        rw [show frV (S.getD k []) = .agg #[.int .i64 ((S.getD k []).getD 0 (-1)), .int .i64 ((S.getD k []).getD 1 (-1)), .int .i64 ((S.getD k []).getD 2 (-1))] from rfl] at hst
        have hstep := flat_step S (k := k) (by rw [HSL.out]; exact hlt)
        have hl1 := flat_sg S HSM.out k (by rw [HSL.out]; exact hk)
        have hl2 : (sgF (S.getD k [])).length ≤ 3 := by rw [sgF_len]; exact (HSM.out k).1
        have hadd : ∀ W : World, (Op.stringOp .add ⟨((S.take k).flatMap sgF).toArray⟩ ⟨(sgF (S.getD k [])).toArray⟩).run Tryd.prog W = .ok (.string ⟨((S.take k).flatMap sgF ++ sgF (S.getD k [])).toArray⟩) W := fun W => run_string_add_lists W _ _ (by omega) (by omega)
        have HN := Lib.hid hstep; clear hstep
        clear hl1 hl2
        have hsz := HB.out.size
        generalize (S.take k).flatMap sgF = T at *
        generalize sgF (S.getD k []) = U at *
        generalize (S.getD k []).getD 0 (-1) = x at *
        generalize (S.getD k []).getD 1 (-1) = y at *
        generalize (S.getD k []).getD 2 (-1) = z at *
        have HST := Lib.hid hst; clear hst
        go_wp2_with fail
        refine (HST.out _).mono ?_; rintro e w3 ⟨rfl, b3⟩
        have HB1 := Lib.hid ((HB.out.alloc hsz _).trans (b3.mono (by simp; omega)))
        clear b3 c0 c1 c2
        go_wp2_with fail
        go_roundw
        case rel => exact ⟨k + 1, by go_num, by omega, by rw [HN.out], HB1.out⟩
        case measure => simp [intOf]; omega
      · obtain rfl : k = F := by omega
        have he : S.take k = S := List.take_of_length_le (by rw [HSL.out]; exact Nat.le_refl _)
        rw [he, HFS.out]
        clear he
        go_wp2_with fail
        refine bodyPost_ret (v := .tuple #[.string ⟨TT.toArray⟩, .bool true]) (by simp [results, Tryd.results35, go_sem]) rfl ⟨rfl, H1.out.2.trans (HB.out.mono H1.out.2.size)⟩
end Go.Proofs.YtgkkjlpfkoplhaaDoor
