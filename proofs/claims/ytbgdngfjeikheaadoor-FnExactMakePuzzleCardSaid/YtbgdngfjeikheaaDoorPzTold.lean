/-
  Puzzles: what points tell for a clue: the program.
-/
import Derived.Test.YtbgdngfjeikheaaDoorPzFit
namespace Go.Proofs.YtbgdngfjeikheaaDoor
open Go.RowKit
set_option linter.unusedVariables false
set_option linter.unusedSimpArgs false

/-- What the program's side leans on: the two errors, and the library's own number. -/
def PzDoor (w : World) (pe0 pe1 : Addr) : Prop := Errs w pe0 pe1 ∧ ∃ m : Int, w.cell? ⟨0, 0, none⟩ = some (.int .i64 m)
theorem PzDoor.keep {w w' : World} {pe0 pe1 : Addr} (h : PzDoor w pe0 pe1) (hb : Below w.heap.size w w') : PzDoor w' pe0 pe1 := by
  obtain ⟨h1, m, hm⟩ := h
  exact ⟨h1.keep hb, m, by rw [hb.cell (p := ⟨0, 0, none⟩) (World.block_lt_of_cell? w _ hm)]; exact hm⟩
theorem countS_any (s sub : ByteArray) (w : World) {pe0 pe1 : Addr} (hd : PzDoor w pe0 pe1) (hs : s.size ≤ 1000000) (h2 : 2 ≤ sub.size) :
    Calls Tryd.prog 151 #[.string s, .string sub] w fun e w' => e = .returned (.int .i64 (Lib.countB s sub)) ∧ w' = w := by
  obtain ⟨-, m, hm⟩ := hd
  exact Tryd.strings_Count s sub m w (by omega) hm h2

set_option maxHeartbeats 1600000 in
theorem raceToldBy_any (a : Int) (s : ByteArray) (pe0 pe1 : Addr) (w : World) (ha : 1 ≤ a ∧ a ≤ 8) (h : hidB s = true) (he : Errs w pe0 pe1) :
    Calls Tryd.prog 148 #[.int .i64 a, .string s] w fun e w' => e = .returned (.int .i64 (raceC a s)) ∧ Below w.heap.size w w' := by
  have hsz := (hidB_iff.1 h).1
  have HW := implWinnerOf_any a 1 s pe0 pe1 w (by omega) he
  cases hq : isP a 1 s
  · have hr : raceC a s = 3 := by unfold raceC; rw [hq]; rfl
    rw [winT_bad hq, hq] at HW
    rw [hr]
    have HW := Lib.hid HW
    clear hq hr he h hsz
    go_enter Tryd.func148, Tryd.ntmps148
    go_wp2_with fail
    refine HW.out.mono ?_; rintro e w1 ⟨rfl, b1⟩
    have HB := Lib.hid b1; clear b1
    go_wp2_with fail
    go_ret
    exact ⟨rfl, HB.out⟩
  · have hr : raceC a s = (wonN a 1 (cntA s.data.toList) (cntB s.data.toList) : Nat) := by unfold raceC; rw [hq]; rfl
    rw [winT_ok hq, hq] at HW
    rw [hr]
    clear hq hr he h hsz
    generalize cntA s.data.toList = x at *
    generalize cntB s.data.toList = y at *
    rcases wonI_eq a 1 x y with ⟨h, g⟩ | ⟨h, g⟩ | ⟨h, g⟩
    all_goals
      rw [h] at HW
      rw [h]
      first
        | rw [show sideT 0 = ⟨#[45]⟩ from rfl] at HW
        | rw [show sideT 1 = ⟨#[97]⟩ from rfl] at HW
        | rw [show sideT 2 = ⟨#[98]⟩ from rfl] at HW
      have HW := Lib.hid HW
      clear h g
      go_enter Tryd.func148, Tryd.ntmps148
      go_wp2_with fail
      refine HW.out.mono ?_; rintro e w1 ⟨rfl, b1⟩
      have HB := Lib.hid b1; clear b1
      go_wp2_with fail
      go_ret
      exact ⟨rfl, HB.out⟩

set_option maxHeartbeats 3200000 in
theorem toldBy_any (x y z : Int) (s : ByteArray) (pe0 pe1 : Addr) (w : World) (hk : kindOk s.size x y) (h : hidB s = true) (hd : PzDoor w pe0 pe1) :
    Calls Tryd.prog 110 #[.agg #[.int .i64 x, .int .i64 y, .int .i64 z], .string s] w fun e w' => e = .returned (.int .i64 (tellK x y s)) ∧ Below w.heap.size w w' := by
  have hsz := (hidB_iff.1 h).1
  have hlen := len_list s
  have HC := Lib.hid (ClB.new w x y z)
  obtain ⟨c0, c1, c2⟩ := HC.out.cells
  have HD := Lib.hid hd; clear hd
  rcases hk with (hk | hk | hk) | ⟨hk, a0, a1⟩ | ⟨hk, a0, a1⟩ | ⟨hk, a0, a1⟩
  · subst hk
    have hv : tellK 0 y s = cntA s.data.toList := by unfold tellK; rw [if_pos rfl]
    rw [hv]
    have HL := Lib.hid (fun W => countSides_any s W); clear hv hlen h
    generalize cntA s.data.toList = A at *
    generalize cntB s.data.toList = B at *
    have hf : ∀ W, (Instr.field 172 (.agg #[.int .i64 A, .int .i64 B]) 0).run Tryd.prog W = .ok (.int .i64 A) W := fun W => by kernel_rfl
    go_enter Tryd.func110, Tryd.ntmps110
    go_wp2_with fail
    refine (HL.out _).mono ?_; rintro e w1 ⟨rfl, b1⟩
    have HB := Lib.hid (HC.out.keep b1); clear b1
    go_wp2_with fail
    go_ret
    exact ⟨rfl, HB.out.2⟩
  · subst hk
    have hv : tellK 3 y s = runV s := by unfold tellK; rfl
    rw [hv]
    have HL := Lib.hid (fun W => implLongestRun_any s W (by omega)); clear hv hlen h
    generalize runV s = A at *
    generalize runT s = T at *
    generalize runOk s = O at *
    go_enter Tryd.func110, Tryd.ntmps110
    go_wp2_with fail
    refine (HL.out _).mono ?_; rintro e w1 ⟨rfl, b1⟩
    have HB := Lib.hid (HC.out.keep b1); clear b1
    go_wp2_with fail
    go_ret
    exact ⟨rfl, HB.out.2⟩
  · subst hk
    have hv : tellK 5 y s = (chgs s.data.toList : Nat) := by unfold tellK; rfl
    have hcn := counts_any (hidB_iff.1 h).2 (by omega)
    have hcb := chg_bd s
    rw [hv]
    have H1 := Lib.hid (countS_any s ⟨#[97, 98]⟩ _ (HD.out.keep HC.out.2) (by omega) (by decide))
    have H2 := Lib.hid (countS_any s ⟨#[98, 97]⟩ _ (HD.out.keep HC.out.2) (by omega) (by decide))
    clear hv hlen h
    generalize Lib.countB s ⟨#[97, 98]⟩ = A at *
    generalize Lib.countB s ⟨#[98, 97]⟩ = B at *
    generalize chgs s.data.toList = C at *
    have hA : A ≤ 8 ∧ B ≤ 8 := by omega
    have HN := Lib.hid (show (A : Int) + (B : Int) = (C : Int) by omega)
    clear hcn hcb
    go_enter Tryd.func110, Tryd.ntmps110
    go_wp2_with fail
    refine H1.out.mono ?_; rintro e w1 ⟨rfl, rfl⟩
    go_wp2_with fail
    refine H2.out.mono ?_; rintro e w1 ⟨rfl, rfl⟩
    go_wp2_with fail
    go_ret
    exact ⟨ret_int HN.out, HC.out.2⟩
  · subst hk
    obtain ⟨an, rfl⟩ : ∃ n : Nat, y = n := ⟨y.toNat, by omega⟩
    have hlt : an < s.size := by omega
    have hv : tellK 1 an s = upA (s[an]'hlt) := by
      unfold tellK
      rw [if_neg (by decide), if_pos rfl]
      have hj' : an < s.data.toList.length := by rw [len_list]; exact hlt
      rw [Int.toNat_natCast, List.getD_eq_getElem?_getD, List.getElem?_eq_getElem hj']; rfl
    rw [hv]
    have hso := slice_one s an hlt
    have HL := Lib.hid (fun W => countSides_any ⟨#[s[an]'hlt]⟩ W)
    have hu : cntA (⟨#[s[an]'hlt]⟩ : ByteArray).data.toList = upA (s[an]'hlt) := by
      show cntA [s[an]'hlt] = _
      rw [cntA_cons, cntA_nil, Int.add_zero]
    rw [hu] at HL
    clear hv hlen h hu
    generalize cntB (⟨#[s[an]'hlt]⟩ : ByteArray).data.toList = B at *
    generalize s[an]'hlt = c at *
    generalize upA c = A at *
    have hf : ∀ W, (Instr.field 172 (.agg #[.int .i64 A, .int .i64 B]) 0).run Tryd.prog W = .ok (.int .i64 A) W := fun W => by kernel_rfl
    go_enter Tryd.func110, Tryd.ntmps110
    go_wp2_with fail
    refine (HL.out _).mono ?_; rintro e w1 ⟨rfl, b1⟩
    have HB := Lib.hid (HC.out.keep b1); clear b1
    go_wp2_with fail
    go_ret
    exact ⟨rfl, HB.out.2⟩
  · subst hk
    have hv : tellK 2 y s = raceC y s := by unfold tellK; rfl
    rw [hv]
    have HL := Lib.hid (raceToldBy_any y s pe0 pe1 _ ⟨a0, a1⟩ h (HD.out.keep HC.out.2).1); clear hv hlen h
    generalize raceC y s = A at *
    go_enter Tryd.func110, Tryd.ntmps110
    go_wp2_with fail
    refine HL.out.mono ?_; rintro e w1 ⟨rfl, b1⟩
    have HB := Lib.hid (HC.out.keep b1); clear b1
    go_wp2_with fail
    go_ret
    exact ⟨rfl, HB.out.2⟩
  · subst hk
    have hv : tellK 4 y s = (posP s y).1 := by unfold tellK; rfl
    rw [hv]
    have HL := Lib.hid (fun W => implPointsOnServe_any s y W (by omega)); clear hv hlen h
    generalize (posP s y).1 = A at *
    generalize (posP s y).2 = T at *
    generalize srvOk s y = O at *
    go_enter Tryd.func110, Tryd.ntmps110
    go_wp2_with fail
    refine (HL.out _).mono ?_; rintro e w1 ⟨rfl, b1⟩
    have HB := Lib.hid (HC.out.keep b1); clear b1
    go_wp2_with fail
    go_ret
    exact ⟨rfl, HB.out.2⟩

set_option maxHeartbeats 800000 in
theorem areHidden_any (s : ByteArray) (w : World) (hs : (s.size : Int) ≤ 1000000000000) :
    Calls Tryd.prog 54 #[.string s] w fun e w' => e = .returned (.bool (hidB s)) ∧ Below w.heap.size w w' := by
  have HP := Lib.hid (fun W => arePoints_any s W hs)
  have hv : inP s.size 1 8 = true → hidB s = ptsB s := fun h1 => by
    have hb : decide (s.data.toList.length ≤ 100) = true := by
      have := inP_iff.1 h1; rw [len_list]; simp; omega
    unfold hidB ptsB
    rw [h1, hb]
  cases h1 : inP s.size 1 8
  · have h0 : hidB s = false := by unfold hidB; rw [h1]; rfl
    rw [h0]
    have H1 := Lib.hid h1; clear h1 h0 hv
    go_enter Tryd.func54, Tryd.ntmps54
    go_wp2_with fail
    refine (isHiddenCount_any _ _).mono ?_; rintro e w1 ⟨rfl, rfl⟩
    rw [H1.out]
    go_wp2_with fail
    go_ret
    exact ⟨rfl, Below.refl _ _⟩
  · rw [hv h1]
    have H1 := Lib.hid h1; clear h1 hv
    go_enter Tryd.func54, Tryd.ntmps54
    go_wp2_with fail
    refine (isHiddenCount_any _ _).mono ?_; rintro e w1 ⟨rfl, rfl⟩
    rw [H1.out]
    go_wp2_with fail
    refine (HP.out _).mono ?_; rintro e w2 ⟨rfl, b2⟩
    have HB := Lib.hid b2; clear b2
    go_wp2_with fail
    go_ret
    exact ⟨ret_bool (by simp), HB.out⟩

end Go.Proofs.YtbgdngfjeikheaaDoor
