/-
  Puzzles: what points tell for a clue: the model, all kinds.
-/
import Derived.Test.YtbgdngfjeikheaaDoorPzVal
namespace Go.Proofs.YtbgdngfjeikheaaDoor
open Go.RowKit
set_option linter.unusedVariables false
set_option linter.unusedSimpArgs false

/-- A kind of clue with its number A, of so many points. -/
def kindOk (p k a : Int) : Prop := (k = 0 ∨ k = 3 ∨ k = 5) ∨ (k = 1 ∧ 0 ≤ a ∧ a < p) ∨ (k = 2 ∧ 1 ≤ a ∧ a ≤ 8) ∨ (k = 4 ∧ 1 ≤ a ∧ a ≤ 8)
theorem kindOk_of {p : Int} {c : Cl} (h : goodC p c = true) : kindOk p c.1 c.2.1 := by
  rw [goodC_model] at h
  simp only [Bool.and_eq_true] at h
  obtain ⟨-, h⟩ := h
  unfold kindOk
  by_cases h0 : c.1 = 0 ∨ c.1 = 3 ∨ c.1 = 5
  · exact Or.inl h0
  · rw [if_neg h0] at h
    by_cases h1 : c.1 = 1
    · rw [if_pos h1] at h; simp [inP_iff] at h; omega
    · rw [if_neg h1] at h
      by_cases h2 : c.1 = 2
      · rw [if_pos h2] at h; simp [inP_iff] at h; omega
      · rw [if_neg h2] at h
        by_cases h4 : c.1 = 4
        · rw [if_pos h4, inP_iff] at h; omega
        · rw [if_neg h4] at h; cases h
theorem chg_step (s : ByteArray) (i : Nat) (h : i + 1 < s.size) : chgK s.data.toList (i + 1 + 1) = chgK s.data.toList (i + 1) + (if s[i]'(by omega) = s[i + 1] then 0 else 1) := by
  have g : ∀ j (hj : j < s.size), s.data.toList.getD j 0 = s[j] := fun j hj => by
    have hj' : j < s.data.toList.length := by rw [len_list]; exact hj
    rw [List.getD_eq_getElem?_getD, List.getElem?_eq_getElem hj']; rfl
  rw [chgK, if_neg (by omega), show i + 1 - 1 = i from by omega, g i (by omega), g (i + 1) h]
theorem chg_one (l : List UInt8) : chgK l 1 = 0 := by simp [chgK]

set_option maxHeartbeats 6400000 in
theorem pzValue_any (k a : Int) (s : ByteArray) (w : World) (hk : kindOk s.size k a) (h : hidB s = true) :
    Calls Tryd.prog 105 #[.int .i64 k, .int .i64 a, .string s] w fun e w' => e = .returned (.int .i64 (tellK k a s)) ∧ Below w.heap.size w w' := by
  have hsz := (hidB_iff.1 h).1
  have hlen := len_list s
  rcases hk with (hk | hk | hk) | ⟨hk, a0, a1⟩ | ⟨hk, a0, a1⟩ | ⟨hk, a0, a1⟩
  · subst hk
    have hv : tellK 0 a s = cntA s.data.toList := by unfold tellK; rw [if_pos rfl]
    rw [hv]
    have HV := Lib.hid hsz; clear hv hlen h
    have hs8 : s.size ≤ 8 := by omega
    clear hsz
    go_enter Tryd.func105, Tryd.ntmps105
    go_wp2_with fail
    go_loopw [7, 8] (fun n i wr => ∃ j : Nat, i = .int .i64 j ∧ j ≤ s.size ∧ Hid (n = .int .i64 (cntA (s.data.toList.take j)) ∧ Below w.heap.size w wr)) (fun _ i _ => s.size - (intOf i).toNat)
    case atStart => exact ⟨0, rfl, Nat.zero_le _, rfl, Below.refl _ _⟩
    case round =>
      obtain ⟨j, rfl, hj, hH⟩ := hrel
      obtain ⟨hn, hb⟩ := hH.out
      subst hn
      have HB := Lib.hid hb; clear hb hH
      by_cases hlt : j < s.size
      · have hix := rindex s j hlt
        have hq := b97 (s[j])
        have hst := cntA_snoc (s.data.toList.take j) (s[j])
        rw [← take_snoc s j hlt] at hst
        have hbd := cntA_bd (s.data.toList.take j)
        rw [List.length_take] at hbd
        have HST := Lib.hid hst; clear hst
        generalize s[j] = c at *
        generalize hA : cntA (s.data.toList.take j) = A at *
        have hA2 : 0 ≤ A ∧ A ≤ 8 := by omega
        clear hbd hA
        have b1 : (j : Int) < (s.size : Int) := by omega
        by_cases hc : c = 97
        · have hu : Hid (cntA (s.data.toList.take (j + 1)) = A + 1) := by have := HST.out; unfold upA at this; rw [if_pos hc] at this; exact this
          rw [decide_eq_true hc] at hq
          clear hc HST
          go_wp2_with fail
          go_roundw
          case rel => exact ⟨j + 1, by go_num, by omega, Lib.hid ⟨by (rw [hu.out]) <;> go_num, HB.out⟩⟩
          case measure => simp [intOf]; omega
        · have hu : Hid (cntA (s.data.toList.take (j + 1)) = A) := by have := HST.out; unfold upA at this; rw [if_neg hc, Int.add_zero] at this; exact this
          rw [decide_eq_false hc] at hq
          clear hc HST
          go_wp2_with fail
          go_roundw
          case rel => exact ⟨j + 1, by go_num, by omega, Lib.hid ⟨by rw [hu.out], HB.out⟩⟩
          case measure => simp [intOf]; omega
      · obtain rfl : j = s.size := by omega
        have ht := Lib.hid (congrArg cntA (take_all s))
        generalize cntA (s.data.toList.take s.size) = A at *
        go_wp2_with fail
        go_ret
        exact ⟨ret_int ht.out, HB.out⟩
  · subst hk
    have hv : tellK 3 a s = runV s := by unfold tellK; rfl
    rw [hv]
    have HL := Lib.hid (fun W => specLongestRun_any s W (by omega)); clear hv hlen h
    generalize runV s = A at *
    generalize runT s = T at *
    generalize runOk s = O at *
    go_enter Tryd.func105, Tryd.ntmps105
    go_wp2_with fail
    refine (HL.out _).mono ?_; rintro e w1 ⟨rfl, b1⟩
    have HB := Lib.hid b1; clear b1
    go_wp2_with fail
    go_ret
    exact ⟨rfl, HB.out⟩
  · subst hk
    have hv : tellK 5 a s = (chgs s.data.toList : Nat) := by unfold tellK; rfl
    have hc : chgs s.data.toList = chgK s.data.toList s.size := by unfold chgs; rw [hlen]
    rw [hv, hc]
    clear hv hlen h hc
    have hs8 : s.size ≤ 8 ∧ 1 ≤ s.size := by omega
    clear hsz
    have HCH := Lib.hid (fun i (hi : i + 1 < s.size) => chg_step s i hi)
    have HLE := Lib.hid (fun k => chgK_le s.data.toList k)
    have H1 := Lib.hid (chg_one s.data.toList)
    generalize chgK s.data.toList = C at *
    go_enter Tryd.func105, Tryd.ntmps105
    go_wp2_with fail
    go_loopw [7, 9] (fun n i wr => ∃ j : Nat, i = .int .i64 ((j : Int) + 1) ∧ j + 1 ≤ s.size ∧ Hid (n = .int .i64 (C (j + 1) : Nat) ∧ Below w.heap.size w wr)) (fun _ i _ => s.size - (intOf i).toNat)
    case atStart => exact ⟨0, rfl, by omega, by rw [H1.out]; rfl, Below.refl _ _⟩
    case round =>
      obtain ⟨j, rfl, hj, hH⟩ := hrel
      obtain ⟨hn, hb⟩ := hH.out
      subst hn
      have HB := Lib.hid hb; clear hb hH
      by_cases hlt : j + 1 < s.size
      · have hix1 := rindex s j (by omega)
        have hix2 := rindex s (j + 1) hlt
        rw [show ((j + 1 : Nat) : Int) = (j : Int) + 1 from by omega] at hix2
        have hcs := HCH.out j hlt
        have hq := beq_u8 (s[j]'(by omega)) (s[j + 1]'hlt)
        have hle := HLE.out (j + 1)
        have hw1 : IntKind.i64.wrap ((j : Int) + 1 - 1) = (j : Int) := by rw [IntKind.wrap_i64]; omega
        have HCS := Lib.hid hcs; clear hcs
        generalize s[j]'(by omega) = c at *
        generalize s[j + 1]'hlt = d at *
        generalize hA : C (j + 1) = A at *
        have hA8 : A ≤ 8 := by omega
        clear hA hle
        have b1 : (j : Int) + 1 < (s.size : Int) := by omega
        by_cases hcd : c = d
        · have hu : Hid (C (j + 1 + 1) = A) := by have := HCS.out; rw [if_pos hcd] at this; exact this
          have hn : ((c.toNat : Int) != (d.toNat : Int)) = false := by rw [bne, hq, decide_eq_true hcd]; rfl
          clear hcd HCS hq
          go_wp2_with fail
          go_quiet (fail)
          go_wp2_with fail
          go_roundw
          case rel => exact ⟨j + 1, by go_num, by omega, Lib.hid ⟨by rw [hu.out], below_drewN HB.out _⟩⟩
          case measure => simp [intOf]; omega
        · have hu : Hid (C (j + 1 + 1) = A + 1) := by have := HCS.out; rw [if_neg hcd] at this; exact this
          have hn : ((c.toNat : Int) != (d.toNat : Int)) = true := by rw [bne, hq, decide_eq_false hcd]; rfl
          clear hcd HCS hq
          go_wp2_with fail
          go_quiet (fail)
          go_wp2_with fail
          go_roundw
          case rel => exact ⟨j + 1, by go_num, by omega, Lib.hid ⟨by (rw [hu.out]) <;> go_num, below_drewN HB.out _⟩⟩
          case measure => simp [intOf]; omega
      · have hje : j + 1 = s.size := by omega
        have ht := Lib.hid (congrArg C hje)
        have b1 : ¬ ((j : Int) + 1 < (s.size : Int)) := by omega
        generalize C (j + 1) = A at *
        go_wp2_with fail
        go_ret
        exact ⟨ret_int (by rw [ht.out]), HB.out⟩
  · subst hk
    obtain ⟨an, rfl⟩ : ∃ n : Nat, a = n := ⟨a.toNat, by omega⟩
    have hlt : an < s.size := by omega
    have hv : tellK 1 an s = upA (s[an]'hlt) := by
      unfold tellK
      rw [if_neg (by decide), if_pos rfl]
      have hj' : an < s.data.toList.length := by rw [len_list]; exact hlt
      rw [Int.toNat_natCast, List.getD_eq_getElem?_getD, List.getElem?_eq_getElem hj']; rfl
    rw [hv]
    have hix := rindex s an hlt
    have hq := b97 (s[an]'hlt)
    clear hv hlen h
    generalize s[an]'hlt = c at *
    by_cases hc : c = 97
    · have hu : upA c = 1 := by unfold upA; rw [if_pos hc]
      rw [hu]
      rw [decide_eq_true hc] at hq
      clear hc hu
      go_enter Tryd.func105, Tryd.ntmps105
      go_wp2_with fail
      go_ret
      exact ⟨rfl, Below.refl _ _⟩
    · have hu : upA c = 0 := by unfold upA; rw [if_neg hc]
      rw [hu]
      rw [decide_eq_false hc] at hq
      clear hc hu
      go_enter Tryd.func105, Tryd.ntmps105
      go_wp2_with fail
      go_ret
      exact ⟨rfl, Below.refl _ _⟩
  · subst hk
    have hv : tellK 2 a s = raceC a s := by unfold tellK; rfl
    rw [hv]
    have HL := Lib.hid (fun W => pzRace_any a s W ⟨a0, a1⟩ h); clear hv hlen h
    generalize raceC a s = A at *
    go_enter Tryd.func105, Tryd.ntmps105
    go_wp2_with fail
    refine (HL.out _).mono ?_; rintro e w1 ⟨rfl, b1⟩
    have HB := Lib.hid b1; clear b1
    go_wp2_with fail
    go_ret
    exact ⟨rfl, HB.out⟩
  · subst hk
    have hv : tellK 4 a s = (posP s a).1 := by unfold tellK; rfl
    rw [hv]
    have HL := Lib.hid (fun W => specPointsOnServe_any s a W (by omega)); clear hv hlen h
    generalize (posP s a).1 = A at *
    generalize (posP s a).2 = T at *
    generalize srvOk s a = O at *
    go_enter Tryd.func105, Tryd.ntmps105
    go_wp2_with fail
    refine (HL.out _).mono ?_; rintro e w1 ⟨rfl, b1⟩
    have HB := Lib.hid b1; clear b1
    go_wp2_with fail
    go_ret
    exact ⟨rfl, HB.out⟩
end Go.Proofs.YtbgdngfjeikheaaDoor
