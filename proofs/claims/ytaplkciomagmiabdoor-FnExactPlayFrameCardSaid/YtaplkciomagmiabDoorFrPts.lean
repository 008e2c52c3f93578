/-
  Frames: points of balls: the model's sum, the program's.
-/
import Derived.Test.YtaplkciomagmiabDoorFrAfter
namespace Go.Proofs.YtaplkciomagmiabDoor
open Go.RowKit
set_option linter.unusedVariables false

theorem pdrop_cons (s : ByteArray) (k : Nat) (h : k < s.size) : s.data.toList.drop k = s[k] :: s.data.toList.drop (k + 1) := by
  rw [List.drop_eq_getElem_cons (by simpa using h)]; rfl
theorem ptake_snoc (s : ByteArray) (k : Nat) (h : k < s.size) : s.data.toList.take (k + 1) = s.data.toList.take k ++ [s[k]] := by
  rw [List.take_succ_eq_append_getElem (by simpa using h)]; rfl
theorem ptake_all (s : ByteArray) : s.data.toList.take s.size = s.data.toList := List.take_of_length_le (by simp)
theorem psplit (s : ByteArray) (pos : Nat) (h : pos < s.size) : s.data.toList = s.data.toList.take pos ++ s[pos] :: s.data.toList.drop (pos + 1) := by
  rw [← pdrop_cons s pos h, List.take_append_drop]
theorem digB_iff (c : UInt8) : digB c = true ↔ 49 ≤ c.toNat ∧ c.toNat ≤ 55 := by simp [digB]
theorem digL_at {s : ByteArray} (hd : digL s.data.toList = true) (k : Nat) (h : k < s.size) : 49 ≤ s[k].toNat ∧ s[k].toNat ≤ 55 := by
  rw [psplit s k h] at hd
  unfold digL at hd
  rw [List.all_append, List.all_cons] at hd
  simp only [Bool.and_eq_true] at hd
  exact (digB_iff _).1 hd.2.1
theorem digL_snoc (l : List UInt8) (c : UInt8) : digL (l ++ [c]) = (digL l && digB c) := by unfold digL; simp
theorem digL_bad {s : ByteArray} (k : Nat) (h : k < s.size) (hb : digB s[k] = false) : digL s.data.toList = false := by
  rw [psplit s k h]
  unfold digL
  rw [List.all_append, List.all_cons, hb]; simp
theorem pts_take_bd (s : ByteArray) (k : Nat) (h : k ≤ s.size) (hz : (s.size : Int) ≤ 1000000) : -100000000 ≤ pts (s.data.toList.take k) ∧ pts (s.data.toList.take k) ≤ 1000000000 := by
  have := pts_bd (s.data.toList.take k)
  have hl : (s.data.toList.take k).length ≤ k := List.length_take_le _ _
  omega

set_option maxHeartbeats 800000 in
theorem frPoints_any (s : ByteArray) (hd : digL s.data.toList = true) (hz : (s.size : Int) ≤ 1000000) (w : World) :
    Calls Tryd.prog 22 #[.string s] w fun e w' => e = .returned (.int .i64 (pts s.data.toList)) ∧ w = w' := by
  have HD := Lib.hid hd; clear hd
  go_enter Tryd.func22, Tryd.ntmps22
  go_wp2
  go_loop [3, 4] (fun a i => ∃ k : Nat, k ≤ s.size ∧ i = .int .i64 k ∧ a = .int .i64 (pts (s.data.toList.take k))) (fun _ i => s.size - (intOf i).toNat)
  case atStart => exact ⟨0, Nat.zero_le _, rfl, rfl⟩
  case round =>
    obtain ⟨k, hk, rfl, rfl⟩ := hrel
    obtain ⟨l1, l2⟩ := pts_take_bd s k hk hz
    by_cases hlt : k < s.size
    · obtain ⟨c1, c2⟩ := digL_at HD.out k hlt
      have hs := pts_snoc (s.data.toList.take k) s[k]
      rw [← ptake_snoc s k hlt] at hs
      have HS := Lib.hid hs; clear hs
      generalize pts (s.data.toList.take k) = q at *
      have d1 : (49 : Int) ≤ (s[k].toNat : Int) := by omega
      have d2 : (s[k].toNat : Int) ≤ 55 := by omega
      clear c1 c2
      go_wp2
      go_round
      case rel => exact ⟨k + 1, by omega, by go_num, by rw [HS.out]⟩
      case measure => simp [intOf]; omega
    · obtain rfl : k = s.size := by omega
      rw [ptake_all] at *
      go_wp2
      go_ret
      exact ⟨rfl, rfl⟩

def ptO (s : ByteArray) : Bool := decide (s.size ≤ 36) && digL s.data.toList
def ptR (s : ByteArray) : Int := if ptO s then pts s.data.toList else 0

set_option maxHeartbeats 400000 in
theorem ballScore_any (r : Int) (h0 : 0 ≤ r) (h1 : r ≤ 2000000000) (w : World) :
    Calls Tryd.prog 35 #[.int .i32 r] w fun e w' => e = .returned (.int .i64 (r - 48)) ∧ w = w' := by
  go_enter Tryd.func35, Tryd.ntmps35
  go_wp2
  go_ret
  exact ⟨rfl, rfl⟩

def digS : ByteArray := ⟨#[49, 50, 51, 52, 53, 54, 55]⟩
theorem digS_ascii : asciiL digS.data.toList := by unfold asciiL; decide
theorem hasR_dig (c : UInt8) (h : c.toNat < 128) : hasR digS.data.toList (c.toNat : Int) = digB c := by
  have key : ∀ n : Nat, n < 128 → hasR digS.data.toList (n : Int) = (decide (49 ≤ n) && decide (n ≤ 55)) := by decide +kernel
  exact key c.toNat h

/-- What holds at the head of each round. -/
def PtsAt (s : ByteArray) (w : World) (p : Value) (wr : World) : Prop :=
  ∃ pos : Nat, pos ≤ s.size ∧ digL (s.data.toList.take pos) = true ∧ p = .int .i64 (pts (s.data.toList.take pos)) ∧ wr.heap[w.heap.size]? = some (.stringIter s pos) ∧ Below w.heap.size w wr

set_option maxHeartbeats 3200000 in
set_option maxRecDepth 100000 in
theorem pointsOf_any (s : ByteArray) (w : World) :
    Calls Tryd.prog 25 #[.string s] w fun e w' => e = .returned (.tuple #[.int .i64 (ptR s), .bool (ptO s)]) ∧ Below w.heap.size w w' := by
  by_cases hs : (36 : Int) < s.size
  · have h1 : ptO s = false := by unfold ptO; simp; omega
    rw [show ptR s = 0 from by simp [ptR, h1], h1]
    clear h1
    go_enter Tryd.func25, Tryd.ntmps25
    go_wp2
    refine bodyPost_ret (v := .tuple #[.int .i64 0, .bool false]) (by simp [results, Tryd.results25, go_sem]) rfl ⟨rfl, Below.refl _ _⟩
  · have h1 : ptO s = digL s.data.toList := by unfold ptO; simp; omega
    have H1 := Lib.hid h1; clear h1
    have h2 : (s.size : Int) ≤ 36 := by omega
    go_enter Tryd.func25, Tryd.ntmps25
    go_wp2_with fail
    go_loopw [4, 6] (fun p _ wr => Hid (PtsAt s w p wr)) (fun _ _ wr => s.size - wr.iterPos w.heap.size)
    case atStart => exact Lib.hid ⟨0, Nat.zero_le _, rfl, rfl, World.iter_heap _ _ _, (Below.refl _ _).alloc (Nat.le_refl _) _⟩
    case round =>
      obtain ⟨pos, hpos, hd, rfl, hit, hbel⟩ := hrel.out
      clear hrel
      have HIP := Lib.hid (iterPos_of hit)
      by_cases hp : pos < s.size
      · have hsn := digL_snoc (s.data.toList.take pos) s[pos]
        rw [← ptake_snoc s pos hp, hd, Bool.true_and] at hsn
        cases hb : digB s[pos]
        · have hbad := digL_bad pos hp hb
          have key : ∃ (rn : Int) (wd : Nat), 0 ≤ rn ∧ rn ≤ 2147483647 ∧ hasR digS.data.toList rn = false ∧
              (∀ ty, (Instr.next (.pointer (some ⟨w.heap.size, 0, none⟩)) true ty).run Tryd.prog wr = .ok (.tuple #[.bool true, .int .i64 pos, .int .i32 rn]) (wr.iterAt w.heap.size s (pos + wd))) := by
            by_cases hasc : s[pos].toNat < 128
            · refine ⟨s[pos].toNat, 1, by omega, by omega, ?_, fun ty => Lib.run_next_ascii_at (P := Tryd.prog) wr _ s pos ty hit hp hasc⟩
              rw [hasR_dig _ hasc, hb]
            · have hdd := decode_high s pos hp (by omega)
              have hd2 := decode_le s pos
              refine ⟨(Utf8.decode s pos).1, (Utf8.decode s pos).2, by omega, by omega, ?_, fun ty => Lib.run_next_any_at (P := Tryd.prog) wr _ s pos ty hit hp⟩
              unfold hasR; simp; omega
          obtain ⟨rn, wd, hr0, hr1, hhas, hnx⟩ := key
          have hB1 := Lib.below_iterAt hbel (Nat.le_refl _) s (pos + wd)
          clear hit hbel
          generalize wr.iterAt w.heap.size s (pos + wd) = wa at *
          generalize pts (s.data.toList.take pos) = q at *
          have HH := Lib.hid (And.intro hB1 (And.intro hbad hhas)); clear hB1 hbad hhas hd hsn hb
          go_wp2_with fail
          refine (containsRune_any digS digS_ascii (by decide) _ hr0 hr1 _).mono ?_; rintro e w3 ⟨rfl, b3⟩
          rw [HH.out.2.2]
          go_wp2
          refine bodyPost_ret (v := .tuple #[.int .i64 0, .bool false]) (by simp [results, Tryd.results25, go_sem]) rfl ⟨?_, ?_⟩
          · rw [show ptO s = false from by rw [H1.out, HH.out.2.1]]
            unfold ptR
            rw [show ptO s = false from by rw [H1.out, HH.out.2.1]]; rfl
          · exact HH.out.1.trans (b3.mono HH.out.1.size)
        · have hcb := (digB_iff _).1 hb
          have hasc : s[pos].toNat < 128 := by omega
          have hnx := fun ty => Lib.run_next_ascii_at (P := Tryd.prog) wr w.heap.size s pos ty hit hp hasc
          have hhas := hasR_dig _ hasc
          rw [hb] at hhas hsn
          have hr0 : (0 : Int) ≤ (s[pos].toNat : Int) := by omega
          have hr1 : (s[pos].toNat : Int) ≤ 2000000000 := by omega
          have hB1 := Lib.below_iterAt hbel (Nat.le_refl _) s (pos + 1)
          have hit1 := Lib.iterAt_heap wr w.heap.size s pos (pos + 1) hit
          clear hit hbel
          generalize wr.iterAt w.heap.size s (pos + 1) = wa at *
          obtain ⟨l1, l2⟩ := pts_take_bd s pos hpos (by omega)
          have hps := pts_snoc (s.data.toList.take pos) s[pos]
          rw [← ptake_snoc s pos hp] at hps
          generalize pts (s.data.toList.take pos) = q at *
          have d1 : (49 : Int) ≤ (s[pos].toNat : Int) := by omega
          have d2 : (s[pos].toNat : Int) ≤ 55 := by omega
          have HH := Lib.hid (And.intro hB1 (And.intro hit1 (And.intro hsn (And.intro hhas hps)))); clear hB1 hit1 hhas hd hsn hb hps hcb hasc
          go_wp2_with fail
          refine (containsRune_any digS digS_ascii (by decide) _ hr0 (by omega) _).mono ?_; rintro e w3 ⟨rfl, b3⟩
          rw [HH.out.2.2.2.1]
          have hlt := (Array.getElem?_eq_some_iff.1 HH.out.2.1).1
          have B3 := HH.out.1.trans (b3.mono HH.out.1.size)
          have hit3 : w3.heap[w.heap.size]? = some (.stringIter s (pos + 1)) := by rw [b3.block _ hlt]; exact HH.out.2.1
          have H3 := Lib.hid (And.intro B3 hit3); clear B3 hit3 b3 hlt
          go_wp2_with fail
          refine (ballScore_any _ hr0 hr1 _).mono ?_; rintro e w4 ⟨rfl, rfl⟩
          go_wp2
          go_roundw
          case rel => exact Lib.hid ⟨pos + 1, by omega, HH.out.2.2.1, by rw [HH.out.2.2.2.2], H3.out.2, H3.out.1⟩
          case measure => rw [iterPos_of H3.out.2, HIP.out]; omega
      · obtain rfl : pos = s.size := by omega
        have hnx := fun ty => Lib.run_next_end_at (P := Tryd.prog) wr w.heap.size s s.size ty hit hp
        rw [ptake_all] at hd
        rw [ptake_all]
        have hv : ptO s = true := by rw [H1.out, hd]
        have hr : ptR s = pts s.data.toList := by unfold ptR; rw [hv]; rfl
        have HH := Lib.hid (And.intro hbel (And.intro hv hr)); clear hbel hit hd hv hr
        generalize pts s.data.toList = q at *
        go_wp2
        refine bodyPost_ret (v := .tuple #[.int .i64 q, .bool true]) (by simp [results, Tryd.results25, go_sem]) rfl ⟨by rw [HH.out.2.1, HH.out.2.2], HH.out.1⟩

end Go.Proofs.YtaplkciomagmiabDoor
