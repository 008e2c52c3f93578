/- SetOfGames: the model and the program, and the law over them. -/
import Derived.Test.YtaplkciomagmiabWkIsGameOrder
import Derived.Test.YtaplkciomagmiabTnGames
import Derived.Test.YtaplkciomagmiabTnOrdMath
import Derived.Deep.RegionHeld3
import Derived.IntWalk
namespace Go.Proofs.Ytaplkciomagmiab.ExSetOfGames
open Go.RowKit

theorem cntB_snoc (l : List UInt8) {c : UInt8} (h : c = 97 ∨ c = 98) : cntB (l ++ [c]) = cntB l + upB c := by
  rw [show cntB (l ++ [c]) = cntB l + cntB [c] from by simp [cntB]]
  rcases h with rfl | rfl <;> rfl
theorem repeat_one (c : UInt8) (n : Nat) : Lib.repeatL [c] n = List.replicate n c := by
  have := Lib.repeatL_replicate c 1 n
  simpa using this
theorem ord_len {l : List UInt8} (h : ordI 0 0 l = true) : l.length ≤ 13 := by
  rw [ord_eq _ 0 0 near_00] at h
  simp only [Bool.and_eq_true, decide_eq_true_eq] at h
  omega

theorem one_keep {B : Nat} {w0 w w' : World} {g : Nat} {v : Value} (hb : Below w.heap.size w w') (h0 : w.cell? ⟨g, 0, none⟩ = some v ∧ g < w.heap.size ∧ B ≤ w.heap.size ∧ Below B w0 w) :
    w'.cell? ⟨g, 0, none⟩ = some v ∧ g < w'.heap.size ∧ B ≤ w'.heap.size ∧ Below B w0 w' := by
  have := hb.size
  obtain ⟨c0, hg, hB, hw⟩ := h0
  exact ⟨by rw [hb.cell (p := ⟨g, 0, none⟩) hg]; exact c0, by omega, by omega, hw.trans (hb.mono hB)⟩

def res (l : List UInt8) : Value := if ordI 0 0 l then .tuple #[.string ⟨(ptsS 0 l).toArray⟩, .bool true] else .tuple #[.string ⟨#[]⟩, .bool false]

set_option maxHeartbeats 1600000 in
set_option maxRecDepth 100000 in
theorem impl_any (s : ByteArray) (w : World) (hs : (s.size : Int) ≤ 1000000000000) :
    Calls Try.prog 26 #[.string s] w fun e w' => e = .returned (res s.data.toList) ∧ Below w.heap.size w w' := by
  cases ho : ordI 0 0 s.data.toList
  · rw [show res s.data.toList = .tuple #[.string ⟨#[]⟩, .bool false] from by simp [res, ho]]
    have HO := Lib.hid ho; clear ho
    go_enter Try.func26, Try.ntmps26
    go_wp2_with fail
    refine (ExIsGameOrder.impl_any s _ hs).mono ?_; rintro e w1 ⟨rfl, bd⟩
    rw [HO.out]
    go_wp2_with fail
    go_ret2
    exact ⟨rfl, bd⟩
  · rw [show res s.data.toList = .tuple #[.string ⟨(ptsS 0 s.data.toList).toArray⟩, .bool true] from by simp [res, ho]]
    rw [← pts_eq _ 0 0 0 near_00 ho rfl]
    have hl13 : s.size ≤ 13 := by have := ord_len ho; rwa [len_list] at this
    have HO := Lib.hid ho; clear ho
    go_enter Try.func26, Try.ntmps26
    go_wp2_with fail
    refine (ExIsGameOrder.impl_any s _ hs).mono ?_; rintro e w1 ⟨rfl, bd⟩
    rw [HO.out]
    go_wp2_with fail
    go_loopw [4, 12] (fun q i wr => ∃ (k : Nat) (pre : List UInt8), i = .int .i64 k ∧ q = .string ⟨pre.toArray⟩ ∧ k ≤ s.size ∧ pre.length ≤ 7 * k ∧ pre ++ ptsI (cntA (s.data.toList.take k)) (cntB (s.data.toList.take k)) (s.data.toList.drop k) = ptsI 0 0 s.data.toList ∧ nearB (cntA (s.data.toList.take k)) (cntB (s.data.toList.take k)) = true ∧ ordI (cntA (s.data.toList.take k)) (cntB (s.data.toList.take k)) (s.data.toList.drop k) = true ∧ Below w.heap.size w wr) (fun _ i _ => s.size - (intOf i).toNat)
    case atStart => exact ⟨0, [], rfl, rfl, Nat.zero_le _, by simp, rfl, near_00, HO.out, bd⟩
    case round =>
      obtain ⟨k, pre, rfl, rfl, hk, hpl, ht, hn, hord, hbel⟩ := hrel
      clear bd
      by_cases hlt : k < s.size
      · have hd := drop_cons s k hlt
        rw [hd] at ht hord
        obtain ⟨hc, ho2, hn2, ho3⟩ := ordI_cons hord hn
        have hts := take_snoc s k hlt
        have hA : cntA (s.data.toList.take (k + 1)) = cntA (s.data.toList.take k) + upA s[k] := by rw [hts, cntA_snoc]
        have hB : cntB (s.data.toList.take (k + 1)) = cntB (s.data.toList.take k) + upB s[k] := by rw [hts, cntB_snoc _ hc]
        rw [← hA, ← hB] at hn2 ho3
        have hrd : pre ++ List.replicate (race4 (cntA (s.data.toList.take k)) (cntB (s.data.toList.take k))).toNat s[k] ++ ptsI (cntA (s.data.toList.take (k + 1))) (cntB (s.data.toList.take (k + 1))) (s.data.toList.drop (k + 1)) = ptsI 0 0 s.data.toList := by
          rw [← ht, ptsI, hA, hB, List.append_assoc]
          congr 2
          unfold race4
          by_cases h6 : cntA (s.data.toList.take k) = 6 ∧ cntB (s.data.toList.take k) = 6
          · rw [if_pos h6, if_pos h6]; rfl
          · rw [if_neg h6, if_neg h6]; rfl
        have HR := Lib.hid (And.intro hrd (And.intro hn2 ho3)); clear ht hord hd hts hA hB hc ho2 hn hrd hn2 ho3
        have hsl := slice_upto s k hk
        have hs1 := slice_one s k hlt
        have hcs := fun w => countSides_any (s.extract 0 k) w
        rw [upto_list] at hcs
        have HCS := Lib.hid hcs; clear hcs
        have hrc := fun w => raceBehind_any (cntA (s.data.toList.take k)) (cntB (s.data.toList.take k)) w
        have HRC := Lib.hid hrc; clear hrc
        have hr47 : ∃ n : Nat, race4 (cntA (s.data.toList.take k)) (cntB (s.data.toList.take k)) = n ∧ n ≤ 7 := by
          unfold race4; split
          · exact ⟨7, rfl, by omega⟩
          · exact ⟨4, rfl, by omega⟩
        obtain ⟨n, hrn, hn7⟩ := hr47
        rw [hrn] at HR HRC
        rw [show ((n : Int)).toNat = n from by omega] at HR
        clear hrn
        have hrp := fun w => Try.strings_Repeat ⟨#[s[k]]⟩ n w (by omega) (by rw [show (⟨#[s[k]]⟩ : ByteArray).size = 1 from rfl]; omega)
        rw [show (⟨#[s[k]]⟩ : ByteArray).data.toList = [s[k]] from rfl, repeat_one] at hrp
        have hrl : (List.replicate n s[k]).length ≤ 7 := by simpa using hn7
        have HR' := HR.out; clear HR
        generalize List.replicate n s[k] = rep at *
        have HR := Lib.hid HR'; clear HR'
        have HRP := Lib.hid hrp; clear hrp
        have t1 : IntKind.i64.wrap ((k : Int) + 1) = (k : Int) + 1 := IntWalk.i64_in _ (by omega)
        have hadd : ∀ W : World, (Op.stringOp .add ⟨pre.toArray⟩ ⟨rep.toArray⟩).run Try.prog W = .ok (.string ⟨(pre ++ rep).toArray⟩) W := fun W =>
          run_string_add_lists W pre rep (by omega) (by omega)
        generalize s[k] = c at *
        go_wp2_with fail
        refine (HCS.out _).mono ?_; rintro e w2 ⟨rfl, b2⟩
        have HB2 := Lib.hid (hbel.trans (b2.mono hbel.size)); clear b2 hbel
        go_wp2_with fail
        refine (HRC.out _).mono ?_; rintro e w3 ⟨rfl, b3⟩
        have HB3 := Lib.hid (HB2.out.trans (b3.mono HB2.out.size)); clear b3 HB2
        go_wp2_with fail
        have g0 : (w3.alloc (.cells #[.int .i64 (n : Int), .int .i64 2] 53)).cell? ⟨w3.heap.size, 0, none⟩ = some (.int .i64 n) := cell_of_row _ _ 0 _ _ _ (heap_alloc_last w3 _)
        have g1 : w3.heap.size < (w3.alloc (.cells #[.int .i64 (n : Int), .int .i64 2] 53)).heap.size := by simp
        have g2 : w.heap.size ≤ (w3.alloc (.cells #[.int .i64 (n : Int), .int .i64 2] 53)).heap.size := by have := HB3.out.size; simp; omega
        have g3 : Below w.heap.size w (w3.alloc (.cells #[.int .i64 (n : Int), .int .i64 2] 53)) := HB3.out.alloc HB3.out.size _
        generalize w3.alloc (.cells #[.int .i64 (n : Int), .int .i64 2] 53) = w4 at *
        generalize w3.heap.size = g at *
        go_region_held3 (fun w' => w'.cell? ⟨g, 0, none⟩ = some (.int .i64 n) ∧ g < w'.heap.size ∧ w.heap.size ≤ w'.heap.size ∧ Below w.heap.size w w')
          (first | (go_keep; done) | (exact ⟨by simpa using g0, by simpa using g1, by simpa using g2, Below.drew g3⟩) | (go_split_ands; exact one_keep (by assumption) ⟨by assumption, by assumption, by assumption, by assumption⟩))
          (first | (go_at_call 35; refine (HRP.out _).mono ?_; rintro e w' ⟨rfl, bd⟩))
        go_split_ands
        clear t1 hadd g0 g1 g2 g3
        go_wp2_with fail
        go_roundw
        case rel => exact ⟨k + 1, _, by go_num, rfl, by omega, by simp; omega, HR.out.1, HR.out.2.1, HR.out.2.2, by assumption⟩
        case measure => simp [intOf]; omega
      · obtain rfl : k = s.size := by omega
        have hv : pre = ptsI 0 0 s.data.toList := by rw [← ht, drop_all]; simp [ptsI]
        have HV := Lib.hid hv; clear hv ht hord hn
        go_wp2_with fail
        go_ret2
        exact ⟨by rw [HV.out]; rfl, hbel⟩

theorem rep_succ (pre : List UInt8) (c : UInt8) (m : Nat) : pre ++ List.replicate (m + 1) c = (pre ++ List.replicate m c) ++ [c] := by
  rw [List.replicate_succ', List.append_assoc]

def resS (l : List UInt8) : ByteArray := if ordI 0 0 l then ⟨(ptsS 0 l).toArray⟩ else ⟨#[]⟩
theorem res_eq (l : List UInt8) : res l = .tuple #[.string (resS l), .bool (ordI 0 0 l)] := by
  unfold res resS; cases ordI 0 0 l <;> rfl

end Go.Proofs.Ytaplkciomagmiab.ExSetOfGames
