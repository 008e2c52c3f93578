/-
  Runes in a text of ASCII bytes: strings.ContainsRune at every rune.
-/
import Derived.Test.YtaplkciomagmiabDoorFrPot
import Derived.Laws.Runes
import Derived.Laws.RangeString
import Derived.Laws.RangeAny
import Derived.Lib.OthersKept
import Derived.Lib.IndexBytes
import Derived.LoopTactic
import Derived.Deep.RegionWith
import Derived.WalkSmall
import Derived.IntWalk
namespace Go.Proofs.YtaplkciomagmiabDoor
open Go.RowKit
set_option linter.unusedVariables false

theorem calmCall {P : Program} {f : FuncId} {args : Array Value} {w : World} {n : Nat} {v : Value} (c : ∀ W : World, Calls P f args W fun e w' => e = .returned v ∧ W = w') :
    Calls P f args (w.drewN n) fun e w' => e = .returned v ∧ ∃ m, w' = w.drewN m := (c _).mono fun _ _ h => ⟨h.1, n, h.2.symm⟩

theorem indexByte_not (l : List UInt8) (c : UInt8) (h : c ∉ l) : Lib.indexByte l c = -1 := by
  induction l with
  | nil => rfl
  | cons b l ih =>
    have hb : (b == c) = false := by simpa using fun e => h (by rw [e]; exact List.mem_cons_self ..)
    unfold Lib.indexByte
    rw [hb, ih (fun hm => h (List.mem_cons_of_mem _ hm))]
    rfl

def asciiL (l : List UInt8) : Prop := ∀ b ∈ l, b.toNat < 128

set_option maxHeartbeats 1600000 in
set_option maxRecDepth 100000 in
theorem indexRune_err (s : ByteArray) (hs : asciiL s.data.toList) (hz : (s.size : Int) ≤ 1000) (w : World) :
    Calls Tryd.prog 42 #[.string s, .int .i32 65533] w fun e w' => e = .returned (.int .i64 (-1)) ∧ Below w.heap.size w w' := by
  have HS := Lib.hid hs; clear hs
  go_enter Tryd.func42, Tryd.ntmps42
  go_wp2_with fail
  go_loopw [5] (fun _ w' => ∃ pos : Nat, pos ≤ s.size ∧ w' = w.iter s pos) (fun _ w' => s.size - w'.iterPos w.heap.size)
  case atStart => exact ⟨0, Nat.zero_le _, rfl⟩
  case round =>
    obtain ⟨pos, hk, rfl⟩ := hrel
    by_cases hp : pos < s.size
    · have ha : (s[pos]'hp).toNat < 128 := HS.out _ (Array.getElem_mem_toList (xs := s.data) hp)
      have hnx := fun ty => run_next_ascii (P := Tryd.prog) w s pos ty hp ha
      have hne : (((s[pos]'hp).toNat : Int) == 65533) = false := by simp; omega
      go_wp2
      go_roundw
      case rel => exact ⟨pos + 1, by omega, rfl⟩
      case measure => simp; omega
    · have hnx := fun ty => run_next_end (P := Tryd.prog) w s pos ty hp
      go_wp2
      go_ret
      exact ⟨rfl, (Below.refl _ _).alloc (Nat.le_refl _) _⟩

theorem valid_lib (r : Int) : Utf8.valid r = Lib.validRune r := by
  unfold Utf8.valid Lib.validRune
  rw [Bool.eq_iff_iff]; simp; omega

set_option maxHeartbeats 1600000 in
set_option maxRecDepth 100000 in
theorem indexRune_high (s : ByteArray) (hs : asciiL s.data.toList) (hz : (s.size : Int) ≤ 1000) (r : Int) (h0 : 128 ≤ r) (h1 : r ≤ 2147483647) (hr : r ≠ 65533) (w : World) :
    Calls Tryd.prog 42 #[.string s, .int .i32 r] w fun e w' => e = .returned (.int .i64 (-1)) ∧ Below w.heap.size w w' := by
  have q1 : ¬ (r < 128) := by omega
  have q2 : ((r : Int) == 65533) = false := by simpa using hr
  have q3 : (0 : Int) ≤ r := by omega
  cases hv : Lib.validRune r
  · have HV := Lib.hid hv; clear hv
    clear hs h0 h1 hr
    go_enter Tryd.func42, Tryd.ntmps42
    go_wp2_with fail
    refine (Tryd.utf8_ValidRune r _).mono ?_; rintro e w1 ⟨rfl, hw⟩; subst hw
    rw [HV.out]
    go_wp2_with fail
    go_ret
    exact ⟨rfl, Below.refl _ _⟩
  · obtain ⟨e1, e2, e3⟩ := encode_facts r (by rw [valid_lib, hv]) h0
    obtain ⟨n, hn⟩ : ∃ n : Nat, (Utf8.encode r).size = n + 1 := ⟨(Utf8.encode r).size - 1, by omega⟩
    have hlt : n < (Utf8.encode r).size := by omega
    have hb : 128 ≤ ((Utf8.encode r)[n]'hlt).toNat := by
      have := e3 (by omega)
      simpa only [hn, Nat.add_sub_cancel] using this
    have hcv : ∀ W : World, (convert 21 9 (.int .i32 r)).run Tryd.prog W = .ok (.string (Utf8.encode r)) W := fun W => run_convert_int_string W _ _ _ _ (by kernel_rfl) Tryd.underlying9
    generalize Utf8.encode r = R at *
    have hn3 : (n : Int) ≤ 3 := by omega
    have hn0 : (1 : Int) ≤ n := by omega
    have HV := Lib.hid hv; clear hv
    have hzz : ((R.size : Int) - 1) = n := by omega
    have hR : (R.size : Int) = n + 1 := by omega
    clear e1 e2 e3 h0 h1 hr hzz
    have hlast : R[n]? = some (R[n]'hlt) := by simp [hlt]
    by_cases hns : n < s.size
    · have ha : (s[n]'hns).toNat < 128 := hs _ (Array.getElem_mem_toList (xs := s.data) hns)
      have hne : (((s[n]'hns).toNat : Int) != ((R[n]'hlt).toNat : Int)) = true := by simp; omega
      have hz1 : (n : Int) + 1 ≤ s.size := by omega
      have hsl : ∀ W : World, (Instr.slice 9 (.string s) (some (.int .i64 ((n : Int) + 1))) none none).run Tryd.prog W = .ok (.string (s.extract (n + 1) s.size)) W := fun W => by
        rw [run_slice_string_from_if W _ _ _ _ Tryd.underlying9, if_pos (by omega), show ((n : Int) + 1).toNat = n + 1 from by omega]
      have hix : Lib.indexByte (s.extract (n + 1) s.size).data.toList (R[n]'hlt) = -1 := indexByte_not _ _ (fun hm => by
        have := hs _ (mem_extract hm); omega)
      have hcall : ∀ W : World, Calls Tryd.prog 45 #[.string (s.extract (n + 1) s.size), .int .u8 ((R[n]'hlt).toNat : Int)] W fun e w' => e = .returned (.int .i64 (-1)) ∧ W = w' := fun W =>
        (Tryd.strings_IndexByte _ _ W).mono (by rintro e w' ⟨rfl, hw⟩; refine ⟨?_, hw.symm⟩; rw [show (((R[n]'hlt).toNat : Int)).toNat.toUInt8 = (R[n]'hlt) from by simp, hix])
      have HC := Lib.hid hcall; clear hcall hix
      have hri : ∀ W : World, (Instr.index 9 (.string R) (.int .i64 (n : Int))).run Tryd.prog W = .ok (.int .u8 ((R[n]'hlt).toNat : Int)) W := fun W => by
        rw [run_index_string W _ _ _ _ Tryd.underlying9]
        simp [hlt]
      clear hs ha hb
      generalize s.extract (n + 1) s.size = S2 at *
      have hwr : IntKind.i64.wrap ((n : Int) + 1) = (n : Int) + 1 := IntWalk.i64_in _ (by omega)
      go_enter Tryd.func42, Tryd.ntmps42
      go_wp2_with fail
      refine (Tryd.utf8_ValidRune r _).mono ?_; rintro e w1 ⟨rfl, hw⟩; subst hw
      rw [HV.out]
      go_wp2_with fail
      go_step3
      go_wp2_with fail
      go_loop [9, 10] (fun i f => i = .int .i64 n ∧ f = .int .i64 0) (fun _ _ => 0)
      case atStart => exact ⟨rfl, rfl⟩
      case round =>
        obtain ⟨rfl, rfl⟩ := hrel
        go_wp2_with fail
        go_step3
        go_wp2_with fail
        go_quiet (fail)
        go_wp2_with fail
        go_quiet ((go_at_call 45; exact (HC.out _).mono (fun _ _ h => ⟨h.1, _, h.2.symm⟩)))
        go_wp2_with fail
        show bodyPost Tryd.prog Tryd.f42 (fun e w' => e = Ending.returned (.int .i64 (-1)) ∧ Below w1.heap.size w1 w') Exit.ret _ _
        go_ret
        exact ⟨rfl, below_drewN (Below.refl _ _) _⟩
    · have hns' : ¬ ((n : Int) < s.size) := by omega
      clear hs hb hlast hns
      go_enter Tryd.func42, Tryd.ntmps42
      go_wp2_with fail
      refine (Tryd.utf8_ValidRune r _).mono ?_; rintro e w1 ⟨rfl, hw⟩; subst hw
      rw [HV.out]
      go_wp2_with fail
      go_step3
      go_wp2_with fail
      go_loop [9, 10] (fun i f => i = .int .i64 n ∧ f = .int .i64 0) (fun _ _ => 0)
      case atStart => exact ⟨rfl, rfl⟩
      case round =>
        obtain ⟨rfl, rfl⟩ := hrel
        go_wp2_with fail
        go_ret
        exact ⟨rfl, Below.refl _ _⟩

theorem indexByte_mem (l : List UInt8) (c : UInt8) : decide (0 ≤ Lib.indexByte l c) = l.contains c := by
  induction l with
  | nil => rfl
  | cons b l ih =>
    have hge := Lib.indexByte_ge l c
    rw [List.contains_cons, ← ih, Bool.eq_iff_iff]
    have hu : Lib.indexByte (b :: l) c = if b == c then 0 else if Lib.indexByte l c == -1 then -1 else Lib.indexByte l c + 1 := rfl
    rw [hu]
    by_cases hb : b = c
    · simp [hb]
    · have hb' : (b == c) = false := by simpa using hb
      have hc' : (c == b) = false := by simpa using fun h => hb h.symm
      rw [hb', hc']
      simp only [Bool.false_eq_true, if_false, Bool.false_or, decide_eq_true_eq]
      split
      · rename_i h; have := beq_iff_eq.1 h; omega
      · rename_i h; have : Lib.indexByte l c ≠ -1 := by simpa using h
        omega

/-- What strings.ContainsRune answers over a text of ASCII bytes. -/
def hasR (l : List UInt8) (r : Int) : Bool := decide (r < 128) && l.contains (UInt8.ofNat r.toNat)

set_option maxHeartbeats 800000 in
theorem containsRune_any (s : ByteArray) (hs : asciiL s.data.toList) (hz : (s.size : Int) ≤ 1000) (r : Int) (h0 : 0 ≤ r) (h1 : r ≤ 2147483647) (w : World) :
    Calls Tryd.prog 37 #[.string s, .int .i32 r] w fun e w' => e = .returned (.bool (hasR s.data.toList r)) ∧ Below w.heap.size w w' := by
  by_cases h : r < 128
  · refine (Tryd.strings_ContainsRune_ascii s r w h0 h).mono ?_
    rintro e w' ⟨rfl, hw⟩
    subst hw
    refine ⟨ret_bool ?_, Below.refl _ _⟩
    rw [indexByte_mem]; unfold hasR; simp [h]
  · have hh : hasR s.data.toList r = false := by simp [hasR, h]
    have hc : ∀ W : World, Calls Tryd.prog 42 #[.string s, .int .i32 r] W fun e w' => e = .returned (.int .i64 (-1)) ∧ Below W.heap.size W w' := by
      intro W
      by_cases he : r = 65533
      · subst he; exact indexRune_err s hs hz W
      · exact indexRune_high s hs hz r (by omega) h1 he W
    rw [hh]
    have HC := Lib.hid hc; clear hc hh hs
    go_enter Tryd.func37, Tryd.ntmps37
    go_wp2_with fail
    refine (HC.out _).mono ?_; rintro e w1 ⟨rfl, b1⟩
    go_wp2_with fail
    go_ret
    exact ⟨rfl, b1⟩

end Go.Proofs.YtaplkciomagmiabDoor
