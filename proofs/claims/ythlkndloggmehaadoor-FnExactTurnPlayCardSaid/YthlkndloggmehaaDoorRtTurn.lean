/-
  Races: a play with both sides exchanged: the model and the program.
-/
import Derived.Test.YthlkndloggmehaaDoorRaCnt2
import Derived.Lib.MapLaws
import Derived.Lib.TrimAscii
import Derived.Shelf.Strings.MapAny
namespace Go.Proofs.YthlkndloggmehaaDoor
open Go.RowKit
set_option linter.unusedVariables false
set_option linter.unusedSimpArgs false

def flipC (c : UInt8) : UInt8 := if c = 97 then 98 else 97
def flipL (l : List UInt8) : List UInt8 := l.map flipC
def flipR (x : Int) : Int := if x = 97 then 98 else 97
theorem flip_len (l : List UInt8) : (flipL l).length = l.length := by simp [flipL]
theorem flip_take (s : ByteArray) (k : Nat) (h : k < s.size) : flipL (s.data.toList.take (k + 1)) = flipL (s.data.toList.take k) ++ [flipC s[k]] := by
  have hk : k < s.data.toList.length := by simpa using h
  rw [List.take_succ_eq_append_getElem hk]; simp [flipL]; rfl

theorem map_ab : ∀ (l : List UInt8), abL l = true → Lib.mapD flipR l = flipL l
  | [], _ => rfl
  | c :: r, h => by
    have hc := abL_cons.1 h
    rw [Lib.mapD_step _ _ (by simp), Lib.decodeL_ascii c r (by rcases hc.1 with rfl | rfl <;> decide)]
    simp only [List.drop_succ_cons, List.drop_zero]
    rw [map_ab r hc.2]
    rcases hc.1 with rfl | rfl
    · rfl
    · rfl

set_option maxHeartbeats 1600000 in
theorem raTurn_any (s : ByteArray) (hs : s.size ≤ 100) (w : World) :
    Calls Tryd.prog 55 #[.string s] w fun e w' => e = .returned (.string ⟨(flipL s.data.toList).toArray⟩) ∧ Below w.heap.size w w' := by
  have hsz : (s.size : Int) ≤ 100 := by omega
  go_enter Tryd.func55, Tryd.ntmps55
  go_wp2_with fail
  go_loopw [3, 4] (fun q i wr => ∃ k : Nat, i = .int .i64 k ∧ k ≤ s.size ∧ q = .string ⟨(flipL (s.data.toList.take k)).toArray⟩ ∧ Below w.heap.size w wr) (fun _ i _ => s.size - (intOf i).toNat)
  case atStart => exact ⟨0, rfl, Nat.zero_le _, rfl, Below.refl _ _⟩
  case round =>
    obtain ⟨k, rfl, hk, rfl, hb⟩ := hrel
    have HB := Lib.hid hb; clear hb
    by_cases hlt : k < s.size
    · have hlti : (k : Int) < (s.size : Int) := by omega
      have hstep := flip_take s k hlt
      have hl : (flipL (s.data.toList.take k)).length ≤ 100 := by rw [flip_len]; simp; omega
      have hadd : ∀ (c : UInt8) (W : World), (Op.stringOp .add ⟨(flipL (s.data.toList.take k)).toArray⟩ ⟨#[c]⟩).run Tryd.prog W = .ok (.string ⟨(flipL (s.data.toList.take k) ++ [c]).toArray⟩) W := fun c W => run_string_add_lists W _ [c] (by omega) (by simp)
      have hc : ((s[k].toNat : Int) == 97) = decide (s[k] = 97) := by
        rw [Bool.eq_iff_iff]; simp only [beq_iff_eq, decide_eq_true_eq]
        constructor
        · intro h; exact UInt8.toNat_inj.1 (by simp; omega)
        · intro h; rw [h]; rfl
      have HS := Lib.hid hstep; clear hstep hl
      generalize flipL (s.data.toList.take k) = T at *
      by_cases hd : s[k] = 97
      · have ha := hadd 98
        have hv : T ++ [98] = flipL (s.data.toList.take (k + 1)) := by rw [HS.out, hd]; rfl
        rw [decide_eq_true hd] at hc
        have HV := Lib.hid hv; clear hv hadd hd HS
        go_wp2_with fail
        go_roundw
        case rel => exact ⟨k + 1, by go_num, by omega, by rw [← HV.out], HB.out⟩
        case measure => simp [intOf]; omega
      · have ha := hadd 97
        have hv : T ++ [97] = flipL (s.data.toList.take (k + 1)) := by rw [HS.out]; unfold flipC; rw [if_neg hd]
        rw [decide_eq_false hd] at hc
        have HV := Lib.hid hv; clear hv hadd hd HS
        go_wp2_with fail
        go_roundw
        case rel => exact ⟨k + 1, by go_num, by omega, by rw [← HV.out], HB.out⟩
        case measure => simp [intOf]; omega
    · obtain rfl : k = s.size := by omega
      have hv : s.data.toList.take s.size = s.data.toList := List.take_of_length_le (by simp)
      rw [hv]; clear hv
      generalize hT : flipL s.data.toList = T at *
      have HT := Lib.hid hT; clear hT
      go_wp2
      go_ret
      exact ⟨by rw [HT.out]; rfl, HB.out⟩

theorem otherSide_gives (x : Nat) (hx : x ≤ 1114111) (W : World) : FnGives Tryd.prog 58 #[] #[.int .i32 (x : Int)] (.int .i32 (flipR x)) W := by
  change Calls Tryd.prog 58 #[.int .i32 (x : Int)] W fun e w' => e = .returned (.int .i32 (flipR x)) ∧ ∃ q, w' = W.drewN q
  by_cases h : (x : Int) = 97
  · have e : flipR x = 98 := by unfold flipR; rw [if_pos h]
    have q1 : ((x : Int) == 97) = true := by simp [h]
    rw [e]; clear e
    go_enter Tryd.func58, Tryd.ntmps58
    go_wp2
    go_ret
    exact ⟨rfl, 0, rfl⟩
  · have e : flipR x = 97 := by unfold flipR; rw [if_neg h]
    have q1 : ((x : Int) == 97) = false := by simp; omega
    rw [e]; clear e
    go_enter Tryd.func58, Tryd.ntmps58
    go_wp2
    go_ret
    exact ⟨rfl, 0, rfl⟩

/-- What the two tables of the library hold. -/
def TurnDoor (w : World) : Prop := Lib.Utf8Tabs 0 1 w
theorem TurnDoor.keep {w w' : World} (h : TurnDoor w) (hb : Below w.heap.size w w') : TurnDoor w' := Utf8Tabs_below h hb
def turnV (s : ByteArray) : ByteArray := if ptsB s then ⟨(flipL s.data.toList).toArray⟩ else ⟨#[]⟩

set_option maxHeartbeats 1600000 in
theorem specTurnPlay_any (s : ByteArray) (hs : (s.size : Int) ≤ 1048576) (w : World) :
    Calls Tryd.prog 29 #[.string s] w fun e w' => e = .returned (.tuple #[.string (turnV s), .bool (ptsB s)]) ∧ Below w.heap.size w w' := by
  have hv : turnV s = if ptsB s then ⟨(flipL s.data.toList).toArray⟩ else ⟨#[]⟩ := rfl
  rw [hv]; clear hv
  cases h1 : ptsB s
  · have H1 := Lib.hid h1; clear h1
    go_enter Tryd.func29, Tryd.ntmps29
    go_wp2_with fail
    refine (raPoints_any s _ (by omega)).mono ?_; rintro e w2 ⟨rfl, rfl⟩
    rw [H1.out]
    go_wp2_with fail
    refine bodyPost_ret (v := .tuple #[.string ⟨#[]⟩, .bool false]) (by simp [results, Tryd.results29, go_sem]) rfl ⟨rfl, Below.refl _ _⟩
  · have hl : s.size ≤ 100 := by
      unfold ptsB at h1
      rw [len_list] at h1
      simp at h1; omega
    have HT := Lib.hid (fun w => raTurn_any s hl w)
    have H1 := Lib.hid h1; clear h1 hl
    generalize flipL s.data.toList = T at *
    go_enter Tryd.func29, Tryd.ntmps29
    go_wp2_with fail
    refine (raPoints_any s _ (by omega)).mono ?_; rintro e w2 ⟨rfl, rfl⟩
    rw [H1.out]
    go_wp2_with fail
    refine (HT.out _).mono ?_; rintro e w3 ⟨rfl, b3⟩
    go_wp2_with fail
    refine bodyPost_ret (v := .tuple #[.string ⟨T.toArray⟩, .bool true]) (by simp [results, Tryd.results29, go_sem]) rfl ⟨rfl, b3⟩

set_option maxHeartbeats 1600000 in
theorem implTurnPlay_any (s : ByteArray) (hs : (s.size : Int) ≤ 1048576) (w : World) (hd : TurnDoor w) :
    Calls Tryd.prog 30 #[.string s] w fun e w' => e = .returned (.tuple #[.string (turnV s), .bool (ptsB s)]) ∧ Below w.heap.size w w' := by
  have hv : turnV s = if ptsB s then ⟨(flipL s.data.toList).toArray⟩ else ⟨#[]⟩ := rfl
  rw [hv]; clear hv
  cases h1 : ptsB s
  · have H1 := Lib.hid h1; clear h1 hd
    go_enter Tryd.func30, Tryd.ntmps30
    go_wp2_with fail
    refine (arePoints_any s _ (by omega)).mono ?_; rintro e w2 ⟨rfl, b2⟩
    rw [H1.out]
    go_wp2_with fail
    refine bodyPost_ret (v := .tuple #[.string ⟨#[]⟩, .bool false]) (by simp [results, Tryd.results30, go_sem]) rfl ⟨rfl, b2⟩
  · have hab : abL s.data.toList = true := by
      unfold ptsB at h1; simp at h1; exact h1.2
    have hm := fun w hT => Tryd.strings_Map_runes 58 #[] (enters_of Tryd.func58 (by kernel_rfl) rfl) flipR s w (by omega) (fun W x hx _ => otherSide_gives x hx W) (fun x _ => by unfold flipR; split <;> omega) hT
    rw [map_ab _ hab] at hm
    have HM := Lib.hid hm; clear hm hab
    have H1 := Lib.hid h1; clear h1
    have HD := Lib.hid hd; clear hd
    generalize flipL s.data.toList = T at *
    go_enter Tryd.func30, Tryd.ntmps30
    go_wp2_with fail
    refine (arePoints_any s _ (by omega)).mono ?_; rintro e w2 ⟨rfl, b2⟩
    rw [H1.out]
    have HD2 := Lib.hid (Utf8Tabs_below HD.out b2)
    have HB2 := Lib.hid b2; clear b2
    go_wp2_with fail
    refine (HM.out _ HD2.out).mono ?_; rintro e w3 ⟨rfl, b3⟩
    have HB3 := Lib.hid (HB2.out.trans (b3.mono HB2.out.size)); clear b3
    go_wp2_with fail
    refine bodyPost_ret (v := .tuple #[.string ⟨T.toArray⟩, .bool true]) (by simp [results, Tryd.results30, go_sem]) rfl ⟨rfl, HB3.out⟩
end Go.Proofs.YthlkndloggmehaaDoor
