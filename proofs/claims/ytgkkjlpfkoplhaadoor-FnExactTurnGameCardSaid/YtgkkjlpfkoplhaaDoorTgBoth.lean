/-
  Goals: a game with both sides exchanged: the model and the program.
-/
import Derived.Test.YtgkkjlpfkoplhaaDoorTgMap
import Derived.Laws.Runes
namespace Go.Proofs.YtgkkjlpfkoplhaaDoor
open Go.RowKit
set_option linter.unusedVariables false
set_option linter.unusedSimpArgs false

theorem goalG_ok {ks : List Int} (hk : ks.length ≤ 5) {c : UInt8} {x : Int × Int} (h : goalG ks c = some x) : okC c = true := by
  unfold goalG at h
  unfold okC
  split at h
  · rename_i hc
    simp; omega
  · split at h
    · rename_i hc
      simp; omega
    · cases h
theorem goalsG_ok {ks : List Int} (hk : ks.length ≤ 5) : ∀ {l : List UInt8} {L : List (Int × Int)}, goalsG ks l = some L → ∀ c ∈ l, okC c = true
  | [], _, _, c, hc => by cases hc
  | d :: r, L, h, c, hc => by
    rw [goalsG] at h
    cases hd : goalG ks d with
    | none => rw [hd] at h; cases h
    | some x =>
      rw [hd] at h
      cases hr : goalsG ks r with
      | none => rw [hr] at h; cases h
      | some M =>
        rcases List.mem_cons.1 hc with rfl | hc
        · exact goalG_ok hk hd
        · exact goalsG_ok hk hr c hc
/-- A game is short, and has letters alone. -/
theorem play_ok {ks : List Int} {s : ByteArray} {L : List (Int × Int)} (h : playG ks s.data.toList = some L) : s.size ≤ 60 ∧ ∀ k (hk : k < s.size), okC s[k] = true := by
  unfold playG at h
  split at h
  · rename_i hg
    obtain ⟨l1, l2⟩ := good_len hg
    unfold gameG at h
    split at h
    · rename_i h60
      refine ⟨by rw [Lib.size_eq]; exact h60, fun k hk => goalsG_ok l2 h _ ?_⟩
      have hk2 : k < s.data.toList.length := by simpa using hk
      exact List.getElem_mem hk2
    · cases h
  · cases h
/-- What the two tables of the library hold. -/
def TurnDoor (w : World) : Prop := Lib.Utf8Tabs 0 1 w
def tgV (o : Option (List (Int × Int))) (s : ByteArray) : ByteArray := if o.isSome then ⟨(swL s.data.toList).toArray⟩ else ⟨#[]⟩

theorem enc_1 (n : Nat) (h : n < 128) : Utf8.encode (n : Int) = ⟨#[UInt8.ofNat n]⟩ := by
  have : ∀ n : Fin 128, Utf8.encode ((n.val : Nat) : Int) = ⟨#[UInt8.ofNat n.val]⟩ := by decide +kernel
  exact this ⟨n, h⟩
theorem conv_1 (n : Nat) (h : n < 128) (w : World) : (convert 21 9 (.int .i32 (n : Int))).run Tryd.prog w = .ok (.string ⟨#[UInt8.ofNat n]⟩) w := by
  rw [run_convert_int_string (P := Tryd.prog) w 21 9 .i32 (n : Int) (by kernel_rfl) Tryd.underlying9, enc_1 n h]
theorem sw_low (c : UInt8) (h : okC c = true) (h2 : 97 ≤ c.toNat) : IntKind.u8.wrap ((c.toNat : Int) - 97) = (c.toNat : Int) - 97 ∧ IntKind.u8.wrap ((c.toNat : Int) - 97 + 65) = ((swC c).toNat : Int) := by
  have := all_bytes (p := fun c => !okC c || !decide (97 ≤ c.toNat) || (decide (IntKind.u8.wrap ((c.toNat : Int) - 97) = (c.toNat : Int) - 97) && decide (IntKind.u8.wrap ((c.toNat : Int) - 97 + 65) = ((swC c).toNat : Int)))) (by decide +kernel) c
  rw [h, decide_eq_true h2] at this
  simpa using this
theorem sw_up (c : UInt8) (h : okC c = true) (h2 : ¬ 97 ≤ c.toNat) : IntKind.u8.wrap ((c.toNat : Int) - 65) = (c.toNat : Int) - 65 ∧ IntKind.u8.wrap ((c.toNat : Int) - 65 + 97) = ((swC c).toNat : Int) := by
  have := all_bytes (p := fun c => !okC c || decide (97 ≤ c.toNat) || (decide (IntKind.u8.wrap ((c.toNat : Int) - 65) = (c.toNat : Int) - 65) && decide (IntKind.u8.wrap ((c.toNat : Int) - 65 + 97) = ((swC c).toNat : Int)))) (by decide +kernel) c
  rw [h, decide_eq_false h2] at this
  simpa using this

set_option maxHeartbeats 800000 in
theorem goBoth_any (ks : List Int) (game : ByteArray) (a : Option Addr) (c : Nat) (w : World) (hl : (ks.length : Int) ≤ 1000000000000) (hs : (game.size : Int) ≤ 1048576) (h : Reads w a (ints ks)) :
    Calls Tryd.prog 23 #[.slice a ks.length c, .string game] w fun e w' => e = .returned (.bool (playG ks game.data.toList).isSome) ∧ Below w.heap.size w w' := by
  have HK := Lib.hid (goKinds_any ks a c w hl h); clear h
  cases hg : goodK ks
  · have e1 : playG ks game.data.toList = none := by simp [playG, hg]
    have HE := Lib.hid e1
    have HG := Lib.hid hg; clear hg e1
    go_enter Tryd.func23, Tryd.ntmps23
    go_wp2_with fail
    refine HK.out.mono ?_; rintro e w1 ⟨rfl, b1⟩
    rw [HG.out]
    go_wp2_with fail
    go_ret
    exact ⟨ret_bool (by rw [HE.out]; rfl), b1⟩
  · have e1 : playG ks game.data.toList = gameG ks game.data.toList := by simp [playG, hg]
    have HE := Lib.hid e1
    have HGA := Lib.hid (fun w' => goGame_any ks hg game a c w' hs)
    have HG := Lib.hid hg; clear hg e1
    go_enter Tryd.func23, Tryd.ntmps23
    go_wp2_with fail
    refine HK.out.mono ?_; rintro e w1 ⟨rfl, b1⟩
    rw [HG.out]
    go_wp2_with fail
    refine (HGA.out _).mono ?_; rintro e w2 ⟨rfl, rfl⟩
    go_wp2_with fail
    go_ret
    exact ⟨ret_bool (by rw [HE.out]), b1⟩

set_option maxHeartbeats 3200000 in
theorem implTurnGame_any (ks : List Int) (s : ByteArray) (a : Option Addr) (c : Nat) (w : World) (hl : (ks.length : Int) ≤ 1000000000000) (hs : (s.size : Int) ≤ 1048576) (h : Reads w a (ints ks)) :
    Calls Tryd.prog 13 #[.slice a ks.length c, .string s] w fun e w' => e = .returned (.tuple #[.string (tgV (playG ks s.data.toList) s), .bool (playG ks s.data.toList).isSome]) ∧ Below w.heap.size w w' := by
  have hgm := implIsGame_any ks s a c w hl hs h; clear h
  cases hp : playG ks s.data.toList with
  | none =>
    rw [hp] at hgm
    have HG := Lib.hid hgm; clear hgm hp
    show Calls Tryd.prog 13 #[.slice a ks.length c, .string s] w fun e w' => e = .returned (.tuple #[.string ⟨#[]⟩, .bool false]) ∧ Below w.heap.size w w'
    simp only [Option.isSome_none] at HG
    generalize goodK ks = gk at *
    go_enter Tryd.func13, Tryd.ntmps13
    go_wp2_with fail
    refine HG.out.mono ?_; rintro e w2 ⟨rfl, b2⟩
    go_wp2_with fail
    refine bodyPost_ret (v := .tuple #[.string ⟨#[]⟩, .bool false]) (by simp [results, Tryd.results13, go_sem]) rfl ⟨rfl, b2⟩
  | some L =>
    obtain ⟨h60, hok⟩ := play_ok hp
    rw [hp] at hgm
    have HG := Lib.hid hgm; clear hgm hp
    have HM := Lib.hid (fun W => map_letters s h60 hok W); clear hok
    show Calls Tryd.prog 13 #[.slice a ks.length c, .string s] w fun e w' => e = .returned (.tuple #[.string ⟨(swL s.data.toList).toArray⟩, .bool true]) ∧ Below w.heap.size w w'
    simp only [Option.isSome_some] at HG
    generalize goodK ks = gk at *
    generalize swL s.data.toList = T at *
    go_enter Tryd.func13, Tryd.ntmps13
    go_wp2_with fail
    refine HG.out.mono ?_; rintro e w2 ⟨rfl, b2⟩
    have H2 := Lib.hid b2; clear b2
    go_wp2_with fail
    refine (HM.out _).mono ?_; rintro e w3 ⟨rfl, b3⟩
    have H3 := Lib.hid (H2.out.trans (b3.mono H2.out.size)); clear b3
    go_wp2_with fail
    refine bodyPost_ret (v := .tuple #[.string ⟨T.toArray⟩, .bool true]) (by simp [results, Tryd.results13, go_sem]) rfl ⟨rfl, H3.out⟩

set_option maxHeartbeats 3200000 in
theorem specTurnGame_any (ks : List Int) (s : ByteArray) (a : Option Addr) (c : Nat) (w : World) (hl : (ks.length : Int) ≤ 1000000000000) (hs : (s.size : Int) ≤ 1048576) (h : Reads w a (ints ks)) :
    Calls Tryd.prog 11 #[.slice a ks.length c, .string s] w fun e w' => e = .returned (.tuple #[.string (tgV (playG ks s.data.toList) s), .bool (playG ks s.data.toList).isSome]) ∧ Below w.heap.size w w' := by
  have hgm := goBoth_any ks s a c w hl hs h; clear h
  cases hp : playG ks s.data.toList with
  | none =>
    rw [hp] at hgm
    have HG := Lib.hid hgm; clear hgm hp
    show Calls Tryd.prog 11 #[.slice a ks.length c, .string s] w fun e w' => e = .returned (.tuple #[.string ⟨#[]⟩, .bool false]) ∧ Below w.heap.size w w'
    simp only [Option.isSome_none] at HG
    go_enter Tryd.func11, Tryd.ntmps11
    go_wp2_with fail
    refine HG.out.mono ?_; rintro e w2 ⟨rfl, b2⟩
    go_wp2_with fail
    refine bodyPost_ret (v := .tuple #[.string ⟨#[]⟩, .bool false]) (by simp [results, Tryd.results11, go_sem]) rfl ⟨rfl, b2⟩
  | some L =>
    obtain ⟨h60, hok⟩ := play_ok hp
    rw [hp] at hgm
    have HG := Lib.hid hgm; clear hgm hp
    have HOK := Lib.hid hok; clear hok
    show Calls Tryd.prog 11 #[.slice a ks.length c, .string s] w fun e w' => e = .returned (.tuple #[.string ⟨(swL s.data.toList).toArray⟩, .bool true]) ∧ Below w.heap.size w w'
    simp only [Option.isSome_some] at HG
    go_enter Tryd.func11, Tryd.ntmps11
    go_wp2_with fail
    refine HG.out.mono ?_; rintro e w2 ⟨rfl, b2⟩
    have H2 := Lib.hid b2; clear b2
    go_wp2_with fail
    go_loopw [6, 7] (fun q i wr => ∃ k : Nat, i = .int .i64 k ∧ k ≤ s.size ∧ q = .string ⟨(swL (s.data.toList.take k)).toArray⟩ ∧ wr = w2) (fun _ i _ => s.size - (intOf i).toNat)
    case atStart => exact ⟨0, rfl, Nat.zero_le _, rfl, rfl⟩
    case round =>
      obtain ⟨k, rfl, hk, rfl, rfl⟩ := hrel
      by_cases hlt : k < s.size
      · have hlti : (k : Int) < (s.size : Int) := by omega
        have hok := HOK.out k hlt
        have hsn : swL (s.data.toList.take (k + 1)) = swL (s.data.toList.take k) ++ [swC s[k]] := by rw [take_nx s k hlt]; simp [swL]
        have hl6 : (swL (s.data.toList.take k)).length ≤ 60 := by simp [swL]; omega
        have hof : UInt8.ofNat (swC s[k]).toNat = swC s[k] := by simp
        have hadd : ∀ W : World, (Op.stringOp .add ⟨(swL (s.data.toList.take k)).toArray⟩ ⟨#[swC s[k]]⟩).run Tryd.prog W = .ok (.string ⟨(swL (s.data.toList.take k) ++ [swC s[k]]).toArray⟩) W := fun W => run_string_add_lists W _ [swC s[k]] (by omega) (by simp)
        obtain ⟨q1, q2, q3⟩ := sw_bd _ hok
        have hcv := conv_1 _ q1
        rw [hof] at hcv
        have HS := Lib.hid hsn; clear hsn hl6 hof
        by_cases h97 : 97 ≤ s[k].toNat
        · obtain ⟨e1, e2⟩ := sw_low _ hok h97
          have e3 : (97 : Int) ≤ (s[k].toNat : Int) := by omega
          have e4 : IntKind.i32.wrap ((swC s[k]).toNat : Int) = ((swC s[k]).toNat : Int) := by
            have : ∀ r : Fin 128, IntKind.i32.wrap ((r.val : Nat) : Int) = ((r.val : Nat) : Int) := by decide +kernel
            exact this ⟨_, q1⟩
          clear hok q3
          generalize swL (s.data.toList.take k) = T at *
          generalize swC s[k] = d at *
          go_wp2_with fail
          go_roundw
          case rel => exact ⟨k + 1, by go_num, by omega, by rw [HS.out], by first | rfl | trivial⟩
          case measure => simp [intOf]; omega
        · obtain ⟨e1, e2⟩ := sw_up _ hok h97
          have e3 : ¬ (97 : Int) ≤ (s[k].toNat : Int) := by omega
          have e4 : IntKind.i32.wrap ((swC s[k]).toNat : Int) = ((swC s[k]).toNat : Int) := by
            have : ∀ r : Fin 128, IntKind.i32.wrap ((r.val : Nat) : Int) = ((r.val : Nat) : Int) := by decide +kernel
            exact this ⟨_, q1⟩
          clear hok q3
          generalize swL (s.data.toList.take k) = T at *
          generalize swC s[k] = d at *
          go_wp2_with fail
          go_roundw
          case rel => exact ⟨k + 1, by go_num, by omega, by rw [HS.out], by first | rfl | trivial⟩
          case measure => simp [intOf]; omega
      · obtain rfl : k = s.size := by omega
        have hv : s.data.toList.take s.size = s.data.toList := List.take_of_length_le (by simp)
        rw [hv]; clear hv
        obtain ⟨T, hT⟩ : ∃ T, T = swL s.data.toList := ⟨_, rfl⟩
        rw [← hT]
        have HT := Lib.hid hT; clear hT
        go_wp2_with fail
        refine bodyPost_ret (v := .tuple #[.string ⟨T.toArray⟩, .bool true]) (by simp [results, Tryd.results11, go_sem]) rfl ⟨by rw [HT.out], H2.out⟩
end Go.Proofs.YtgkkjlpfkoplhaaDoor
