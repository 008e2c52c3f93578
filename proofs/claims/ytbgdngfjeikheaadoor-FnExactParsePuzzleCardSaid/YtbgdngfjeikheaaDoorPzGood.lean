/-
  Puzzles: IsPuzzle: the model.
-/
import Derived.Test.YtbgdngfjeikheaaDoorPzIs
namespace Go.Proofs.YtbgdngfjeikheaaDoor
open Go.RowKit
set_option linter.unusedVariables false
set_option linter.unusedSimpArgs false

set_option maxHeartbeats 3200000 in
set_option maxRecDepth 100000 in
theorem pzGood_any (p : Int) (l : List Cl) (ad : Option Addr) (c : Nat) (w : World) (hl : (l.length : Int) ≤ 1000000000000) (hr : Reads w ad (clus l)) :
    Calls Tryd.prog 62 #[.agg #[.int .i64 p, .slice ad l.length c]] w fun e w' => e = .returned (.bool (goodP p l)) ∧ Below w.heap.size w w' := by
  have HS0 := Lib.hid (PzB.new w p (.slice ad l.length c))
  obtain ⟨q0, q1, -⟩ := HS0.out.full
  cases h1 : inP p 1 8
  · have HV := Lib.hid (goodP_not1 (l := l) h1)
    have H1 := Lib.hid h1; clear h1 hr
    go_enter Tryd.func62, Tryd.ntmps62
    go_wp2_with fail
    refine (pzPoints_any _ _).mono ?_; rintro e w5 ⟨rfl, rfl⟩
    rw [H1.out]
    go_wp2_with fail
    go_ret
    exact ⟨ret_bool HV.out.symm, HS0.out.2⟩
  · by_cases h2 : l.length ≤ 6
    · have HV := Lib.hid (goodP_is h1 h2)
      have hp := inP_iff.1 h1
      have H1 := Lib.hid h1; clear h1
      have HR := Lib.hid hr; clear hr
      have HP := Lib.hid hp; clear hp
      have h2' : (l.length : Int) ≤ 6 := by omega
      clear h2
      go_enter Tryd.func62, Tryd.ntmps62
      go_wp2_with fail
      refine (pzPoints_any _ _).mono ?_; rintro e w5 ⟨rfl, rfl⟩
      rw [H1.out]
      go_wp2_with fail
      go_loopw [18] (fun i wr => ∃ k : Nat, i = .int .i64 k ∧ k ≤ l.length ∧ Hid (goodCs p (l.take k) = true ∧ PzB w p (.slice ad l.length c) wr)) (fun i _ => l.length - (intOf i).toNat)
      case atStart => exact ⟨0, rfl, Nat.zero_le _, rfl, HS0.out⟩
      case round =>
        clear q0 q1 HS0
        obtain ⟨k, rfl, hk, hH⟩ := hrel
        by_cases hlt : k < l.length
        · have b1 : (k : Int) < (l.length : Int) := by omega
          obtain ⟨b, off, ha, _, hc⟩ := ccells_of_reads (HR.out.old hH.out.2.2) (by omega)
          subst ha
          obtain ⟨c0, c1, c2⟩ := hc k hlt
          clear hc
          have hs := goodCs_snoc p l k hlt
          rw [hH.out.1, Bool.true_and] at hs
          have hno := fun e => goodCs_not (p := p) hlt e
          have HO := Lib.hid (And.intro hs hno); clear hs hno
          generalize l.getD k zC = r at *
          obtain ⟨x, y, z⟩ := r
          simp only at c0 c1 c2
          have HBX := Lib.hid (hH.out.2.keep (Below.ofNew (.cells #[.int .i64 x, .int .i64 y, .int .i64 z] 75)))
          obtain ⟨r0, r1, -⟩ := HBX.out.full
          have HBO := Lib.hid (fun W => pzClue_any p (x, y, z) W HP.out)
          cases hq : goodC p (x, y, z)
          · have HF := Lib.hid (HO.out.2 hq)
            rw [hq] at HBO
            clear hq HO
            go_wp2_with fail
            refine (HBO.out _).mono ?_; rintro e w2 ⟨rfl, b2⟩
            have HB2 := Lib.hid (HBX.out.keep b2); clear b2
            go_wp2_with fail
            go_ret
            exact ⟨ret_bool (by rw [HV.out, HF.out]), HB2.out.2⟩
          · have HS := Lib.hid (HO.out.1.trans hq)
            rw [hq] at HBO
            clear hq HO
            go_wp2_with fail
            refine (HBO.out _).mono ?_; rintro e w2 ⟨rfl, b2⟩
            have HB2 := Lib.hid (HBX.out.keep b2); clear b2
            go_wp2_with fail
            go_roundw
            case rel => exact ⟨k + 1, by go_num, by omega, Lib.hid ⟨HS.out, HB2.out⟩⟩
            case measure => simp [intOf]; omega
        · obtain rfl : k = l.length := by omega
          have hn := hH.out.1
          rw [List.take_length] at hn
          have HN := Lib.hid hn; clear hn
          go_wp2_with fail
          go_ret
          exact ⟨ret_bool (by rw [HV.out, HN.out]), hH.out.2.2⟩
    · have HV := Lib.hid (goodP_not2 (p := p) h2)
      have H1 := Lib.hid h1; clear h1 hr
      have h2' : ¬ (l.length : Int) ≤ 6 := by omega
      clear h2
      go_enter Tryd.func62, Tryd.ntmps62
      go_wp2_with fail
      refine (pzPoints_any _ _).mono ?_; rintro e w5 ⟨rfl, rfl⟩
      rw [H1.out]
      go_wp2_with fail
      go_ret
      exact ⟨ret_bool HV.out.symm, HS0.out.2⟩
end Go.Proofs.YtbgdngfjeikheaaDoor
