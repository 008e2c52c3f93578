/-
  Goals: IsGame: the model's and the program's.
-/
import Derived.Test.YtgkkjlpfkoplhaaDoorGoSend
namespace Go.Proofs.YtgkkjlpfkoplhaaDoor
open Go.RowKit
set_option linter.unusedVariables false
set_option linter.unusedSimpArgs false

theorem letters_in (ks : List Int) (c : UInt8) (n : Nat) (hn : ks.length = n + 1) : (goalG ks c).isSome = (inR ((c.toNat : Int) - 97) 0 (n : Int) || inR ((c.toNat : Int) - 65) 0 (n : Int)) := by
  unfold goalG inR
  by_cases h1 : 97 ≤ c.toNat ∧ c.toNat < 97 + ks.length
  · rw [if_pos h1, decide_eq_true (by omega : (0 : Int) ≤ (c.toNat : Int) - 97), decide_eq_true (by omega : (c.toNat : Int) - 97 ≤ (n : Int))]; rfl
  · rw [if_neg h1]
    have e1 : (decide ((0 : Int) ≤ (c.toNat : Int) - 97) && decide ((c.toNat : Int) - 97 ≤ (n : Int))) = false := by
      by_cases h2 : (0 : Int) ≤ (c.toNat : Int) - 97
      · rw [decide_eq_false (by omega : ¬ (c.toNat : Int) - 97 ≤ (n : Int)), Bool.and_false]
      · rw [decide_eq_false h2, Bool.false_and]
    rw [e1, Bool.false_or]
    by_cases h2 : 65 ≤ c.toNat ∧ c.toNat < 65 + ks.length
    · rw [if_pos h2, decide_eq_true (by omega : (0 : Int) ≤ (c.toNat : Int) - 65), decide_eq_true (by omega : (c.toNat : Int) - 65 ≤ (n : Int))]; rfl
    · rw [if_neg h2]
      by_cases h3 : (0 : Int) ≤ (c.toNat : Int) - 65
      · rw [decide_eq_false (by omega : ¬ (c.toNat : Int) - 65 ≤ (n : Int)), Bool.and_false]; rfl
      · rw [decide_eq_false h3, Bool.false_and]; rfl

set_option maxHeartbeats 3200000 in
theorem goGame_any (ks : List Int) (hg : goodK ks = true) (game : ByteArray) (a : Option Addr) (c : Nat) (w : World) (hs : (game.size : Int) ≤ 1048576) :
    Calls Tryd.prog 37 #[.slice a ks.length c, .string game] w fun e w' => e = .returned (.bool (gameG ks game.data.toList).isSome) ∧ w = w' := by
  obtain ⟨l1, l2⟩ := good_len hg
  obtain ⟨n, hn⟩ : ∃ n, ks.length = n + 1 := ⟨ks.length - 1, by omega⟩
  have hn4 : n ≤ 4 := by omega
  have hlen : game.data.toList.length = game.size := by rw [Array.length_toList]; rfl
  have hlet := fun ch => letters_in ks ch n hn
  have HL := Lib.hid hlet; clear hlet
  rw [hn]
  by_cases h60 : (60 : Int) < (game.size : Int)
  · have hbad : gameG ks game.data.toList = none := by unfold gameG; rw [if_neg]; rw [hlen]; omega
    have HB := Lib.hid hbad; clear hbad
    go_enter Tryd.func37, Tryd.ntmps37
    go_wp2_with fail
    go_ret
    exact ⟨ret_bool (by rw [HB.out]; rfl), rfl⟩
  · have h60' : ¬ (60 : Int) < (game.size : Int) := h60
    clear h60
    have hnn : ((n + 1 : Nat) : Int) - 1 = (n : Int) := by omega
    have hnn2 : (n : Int) + 1 - 1 = (n : Int) := by omega
    go_enter Tryd.func37, Tryd.ntmps37
    go_wp2_with fail
    go_loop [5] (fun i => ∃ (k : Nat) (L : List (Int × Int)), i = .int .i64 k ∧ k ≤ game.size ∧ Hid (goalsG ks (game.data.toList.take k) = some L)) (fun i => game.size - (intOf i).toNat)
    case atStart => exact ⟨0, [], rfl, Nat.zero_le _, Lib.hid rfl⟩
    case round =>
      obtain ⟨k, L, rfl, hk, hL⟩ := hrel
      by_cases hlt : k < game.size
      · have b1 : (k : Int) < (game.size : Int) := by omega
        have hidx : ∀ W : World, (Instr.index 9 (.string game) (.int .i64 (k : Int))).run Tryd.prog W = .ok (.int .u8 ((game.data[k]'hlt).toNat : Int)) W := fun W => by
          rw [run_index_string W _ _ _ _ Tryd.underlying9]
          simp [hlt]; rfl
        have htk : game.data.toList.take (k + 1) = game.data.toList.take k ++ [game.data[k]'hlt] := by
          rw [List.take_succ_eq_append_getElem (by simpa using hlt)]; simp
        have hdr : game.data.toList = game.data.toList.take k ++ (game.data[k]'hlt) :: game.data.toList.drop (k + 1) := by
          refine (List.take_append_drop k game.data.toList).symm.trans ?_
          rw [List.drop_eq_getElem_cons (by simpa using hlt)]; simp
        have hsn := goalsG_snoc ks (game.data[k]'hlt) (game.data.toList.take k)
        rw [← htk, hL.out] at hsn
        have hlt256 := UInt8.toNat_lt (game.data[k]'hlt)
        generalize (game.data[k]'hlt) = ch at *
        have hch := HL.out ch
        have HSN := Lib.hid hsn; clear hsn htk
        have hbadG : goalG ks ch = none → gameG ks game.data.toList = none := fun hgc => by
          unfold gameG; split
          · rw [hdr]; exact goalsG_bad hgc _ _
          · rfl
        have HBG := Lib.hid hbadG; clear hbadG hdr
        cases q1 : inR ((ch.toNat : Int) - 97) 0 (n : Int)
        · cases q2 : inR ((ch.toNat : Int) - 65) 0 (n : Int)
          · rw [q1, q2] at hch
            have hno : goalG ks ch = none := by cases h : goalG ks ch with
              | none => rfl
              | some x => rw [h] at hch; cases hch
            have HBAD := Lib.hid (HBG.out hno)
            have Q1 := Lib.hid q1
            have Q2 := Lib.hid q2; clear q1 q2 hch hno
            generalize ch.toNat = m at *
            go_wp2_with fail
            refine (l1In_any _ _ _ _).mono ?_; rintro e w1 ⟨rfl, rfl⟩
            rw [Q1.out]
            go_wp2_with fail
            refine (l1In_any _ _ _ _).mono ?_; rintro e w1 ⟨rfl, rfl⟩
            rw [Q2.out]
            go_wp2_with fail
            go_ret
            exact ⟨ret_bool (by rw [HBAD.out]; rfl), rfl⟩
          · rw [q1, q2] at hch
            obtain ⟨x, hx⟩ := Option.isSome_iff_exists.1 hch
            have hs2 := HSN.out
            rw [hx] at hs2
            have HS2 : Hid (goalsG ks (game.data.toList.take (k + 1)) = some (L ++ [x])) := hs2
            have Q1 := Lib.hid q1
            have Q2 := Lib.hid q2; clear q1 q2 hch hx hs2
            generalize ch.toNat = m at *
            go_wp2_with fail
            refine (l1In_any _ _ _ _).mono ?_; rintro e w1 ⟨rfl, rfl⟩
            rw [Q1.out]
            go_wp2_with fail
            refine (l1In_any _ _ _ _).mono ?_; rintro e w1 ⟨rfl, rfl⟩
            rw [Q2.out]
            go_wp2_with fail
            go_round
            case rel => exact ⟨k + 1, L ++ [x], by go_num, by omega, HS2⟩
            case measure => simp [intOf]; omega
        · rw [q1, Bool.true_or] at hch
          obtain ⟨x, hx⟩ := Option.isSome_iff_exists.1 hch
          have hs2 := HSN.out
          rw [hx] at hs2
          have HS2 : Hid (goalsG ks (game.data.toList.take (k + 1)) = some (L ++ [x])) := hs2
          have Q1 := Lib.hid q1; clear q1 hch hx hs2
          generalize ch.toNat = m at *
          go_wp2_with fail
          refine (l1In_any _ _ _ _).mono ?_; rintro e w1 ⟨rfl, rfl⟩
          rw [Q1.out]
          go_wp2_with fail
          go_round
          case rel => exact ⟨k + 1, L ++ [x], by go_num, by omega, HS2⟩
          case measure => simp [intOf]; omega
      · obtain rfl : k = game.size := by omega
        have hall : gameG ks game.data.toList = some L := by
          have := hL.out
          rw [List.take_of_length_le (by rw [hlen]; omega)] at this
          unfold gameG; rw [if_pos (by rw [hlen]; omega)]; exact this
        have HALL := Lib.hid hall; clear hall hL
        go_wp2_with fail
        go_ret
        exact ⟨ret_bool (by rw [HALL.out]; rfl), rfl⟩

set_option maxHeartbeats 800000 in
theorem implIsGame_any (ks : List Int) (game : ByteArray) (a : Option Addr) (c : Nat) (w : World) (hl : (ks.length : Int) ≤ 1000000000000) (hs : (game.size : Int) ≤ 1048576) (h : Reads w a (ints ks)) :
    Calls Tryd.prog 24 #[.slice a ks.length c, .string game] w fun e w' => e = .returned (.tuple #[.bool (playG ks game.data.toList).isSome, .bool (goodK ks)]) ∧ Below w.heap.size w w' := by
  have HGO := Lib.hid (goalsOf_any ks game a c w hl hs h)
  have HK := Lib.hid (fun w' (hr : Reads w' a (ints ks)) => implAreKinds_any ks a c w' hl hr)
  have HR := Lib.hid h; clear h
  cases hp : playG ks game.data.toList with
  | none =>
    have HP := Lib.hid hp; clear hp
    go_enter Tryd.func24, Tryd.ntmps24
    go_wp2_with fail
    refine HGO.out.mono ?_; rintro e w1 ⟨-, hn, b1⟩
    obtain rfl := hn HP.out
    have B1 := Lib.hid b1; clear b1 hn
    go_wp2_with fail
    refine (HK.out _ (HR.out.old B1.out)).mono ?_; rintro e w2 ⟨rfl, b2⟩
    have B2 := Lib.hid (B1.out.trans (b2.mono B1.out.size)); clear b2
    go_wp2_with fail
    go_ret2
    exact ⟨rfl, B2.out⟩
  | some L =>
    have HP := Lib.hid hp; clear hp
    go_enter Tryd.func24, Tryd.ntmps24
    go_wp2_with fail
    refine HGO.out.mono ?_; rintro e w1 ⟨hn, -, b1⟩
    obtain ⟨g, rfl, -, -⟩ := hn L HP.out
    have B1 := Lib.hid b1; clear b1 hn
    go_wp2_with fail
    refine (HK.out _ (HR.out.old B1.out)).mono ?_; rintro e w2 ⟨rfl, b2⟩
    have B2 := Lib.hid (B1.out.trans (b2.mono B1.out.size)); clear b2
    go_wp2_with fail
    go_ret2
    exact ⟨rfl, B2.out⟩
end Go.Proofs.YtgkkjlpfkoplhaaDoor
