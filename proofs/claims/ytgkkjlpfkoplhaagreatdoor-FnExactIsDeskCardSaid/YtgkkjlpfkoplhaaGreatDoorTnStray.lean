/-
  Tennis: the program's look at a play: the first letter that cannot stand at its place is raised.
-/
import Derived.Test.YtgkkjlpfkoplhaaGreatDoorTnRace2
import Derived.Test.YtgkkjlpfkoplhaaGreatDoorTnPlayMath
import Derived.WalkLawsBesides
namespace Go.Proofs.YtgkkjlpfkoplhaaGreatDoor
open Go.RowKit

theorem stray_cons_won {to a b : Int} {c : UInt8} {r : List UInt8} (h : wonN to a b ≠ 0) : stray to a b (c :: r) = some (0, true) := by rw [stray, if_pos h]
theorem stray_cons_bad {to a b : Int} {c : UInt8} {r : List UInt8} (h : wonN to a b = 0) (hc : isAB c = false) : stray to a b (c :: r) = some (0, false) := by
  rw [stray, if_neg (by simp [h]), if_neg (by simpa [isAB] using hc)]
theorem stray_cons_ok {to a b : Int} {c : UInt8} {r : List UInt8} (h : wonN to a b = 0) (hc : isAB c = true) : stray to a b (c :: r) = (stray to (a + upA c) (b + upB c) r).map fun x => (x.1 + 1, x.2) := by
  rw [stray, if_neg (by simp [h]), if_pos (by simpa [isAB] using hc)]

/-- The first letter that cannot stand at its place; points that are too many have one at once. -/
def strayAt (to : Int) (l : List UInt8) : Option (Nat × Bool) := if 300 < l.length then some (300, false) else stray to 0 0 l
def shiftO (k : Nat) (o : Option (Nat × Bool)) : Option (Nat × Bool) := o.map fun x => (x.1 + k, x.2)
theorem shift_shift (k : Nat) (o : Option (Nat × Bool)) : shiftO k (o.map fun x => (x.1 + 1, x.2)) = shiftO (k + 1) o := by
  cases o with
  | none => rfl
  | some x => simp [shiftO]; omega

theorem pair_other {w : World} {g h : Nat} {a b : Int} {u v : Value} (hp : Pair w g a b) (hne : g ≠ h) : Pair ((w.setCell ⟨h, 0, none⟩ u).setCell ⟨h, 1, none⟩ v) g a b := by
  obtain ⟨q1, q2, q3, q4, q5⟩ := hp
  have ne : ∀ (o o' : Nat) (x : Value) (y : World), (y.setCell ⟨h, o', none⟩ x).cell? ⟨g, o, none⟩ = y.cell? ⟨g, o, none⟩ := fun o o' x y => World.cell?_setCell_other _ _ _ _ (by intro e; injection e; omega)
  exact ⟨by simpa using q1, by rw [ne, ne]; exact q2, by rw [ne, ne]; exact q3, by simp only [World.frozen?_setCell]; exact q4, by simp only [World.frozen?_setCell]; exact q5⟩

/-- An error of errors.New, by its address. -/
abbrev errV (p : Addr) : Value := .iface 167 (.pointer (some p))
def strayV (p0 p1 : Addr) (x : Nat × Bool) : Value := .iface 107 (.agg #[.int .i64 x.1, .iface 167 (.pointer (some (if x.2 then p1 else p0)))])
/-- How the look ends. -/
def strayE (p0 p1 : Addr) : Option (Nat × Bool) → Ending
  | none => .returned (.tuple #[])
  | some x => .panicked [{ v := strayV p0 p1 x, recovered := false }]

set_option maxHeartbeats 3200000 in
theorem raiseStray_any (to : Int) (s : ByteArray) (p0 p1 : Addr) (w : World) (hs : (s.size : Int) ≤ 1000000000000)
    (h0 : w.cell? ⟨3, 0, none⟩ = some (errV p0)) (h1 : w.cell? ⟨0, 0, none⟩ = some (errV p1)) :
    Calls Tryz.prog 83 #[.agg #[.int .i64 to, .int .i64 2], .string s] w fun e w' => e = strayE p0 p1 (strayAt to s.data.toList) ∧ Below w.heap.size w w' := by
  have z0 := World.block_lt_of_cell? w _ h0
  have z1 := World.block_lt_of_cell? w _ h1
  unfold errV at h0 h1
  by_cases hm : (300 : Int) < (s.size : Int)
  · have hv : strayAt to s.data.toList = some (300, false) := by unfold strayAt; rw [len_list, if_pos (by omega)]
    have HV := Lib.hid hv; clear hv h1 z1
    go_enter Tryz.func83, Tryz.ntmps83
    go_wp2_with fail
    refine ⟨rfl, by rw [HV.out]; rfl, ?_⟩
    (repeat (first | exact Below.refl _ _ | exact ‹Below _ _ _› | refine Below.drew ?_ | refine Below.alloc ?_ (by first | omega | (simp; done) | (simp; omega)) _ | refine Below.setCell ?_ (by first | omega | (simp; done) | (simp; omega)) _ | refine Below.trans ?_ (Below.mono ‹Below _ _ _› (by first | omega | (simp; done) | (simp; omega)))))
  · have hv : strayAt to s.data.toList = stray to 0 0 s.data.toList := by unfold strayAt; rw [len_list, if_neg (by omega)]
    rw [hv]; clear hv
    have hp0 := Pair.new (w.alloc (.cells #[.int .i64 to, .int .i64 2] 78)) 0 0 51
    rw [World.size_alloc] at hp0
    have hr0 := raceS_new w to 2 0 0 78 51
    have HP0 := Lib.hid (And.intro hp0 hr0); clear hp0 hr0
    have hz : stray to 0 0 s.data.toList = shiftO 0 (stray to 0 0 (s.data.toList.drop 0)) := by
      rw [List.drop_zero]; cases stray to 0 0 s.data.toList <;> simp [shiftO]
    have HZ := Lib.hid hz; clear hz
    have H01 := Lib.hid (And.intro h0 h1); clear h0 h1
    generalize hg : w.heap.size = g at *
    have HG := Lib.hid hg; clear hg
    generalize hW1 : (w.alloc (.cells #[.int .i64 to, .int .i64 2] 78)).alloc (.cells #[.int .i64 0, .int .i64 0] 51) = w1 at *
    have HW1 := Lib.hid hW1; clear hW1
    go_enter Tryz.func83, Tryz.ntmps83
    go_wp2_with fail
    rw [HG.out, HW1.out]
    go_loopw [15] (fun i wr => ∃ (k : Nat) (a b : Int), i = .int .i64 k ∧ k ≤ s.size ∧ 0 ≤ a ∧ a ≤ k ∧ 0 ≤ b ∧ b ≤ k ∧ Pair wr g to 2 ∧ Pair wr (g + 1) a b ∧ shiftO k (stray to a b (s.data.toList.drop k)) = stray to 0 0 s.data.toList ∧ Below g w wr) (fun i _ => s.size - (intOf i).toNat)
    case atStart =>
      obtain ⟨hp, c0, c1, c2, c3, c4, c5, c6, c7⟩ := HP0.out
      refine ⟨0, 0, 0, rfl, Nat.zero_le _, by omega, by omega, by omega, by omega, ?_, hp, HZ.out.symm, c7⟩
      exact ⟨c4, c0, c1, by rw [← HW1.out, ← HG.out]; simp, by rw [← HW1.out, ← HG.out]; simp⟩
    case round =>
      obtain ⟨k, a, b, rfl, hk, ka1, ka2, kb1, kb2, hpr, hpc, ht, hbel⟩ := hrel
      have HT := Lib.hid ht; clear ht
      by_cases hlt : k < s.size
      · have hd := drop_cons s k hlt
        have hs1 := slice_one s k hlt
        have HD := Lib.hid hd; clear hd
        have g0 : wr.cell? ⟨3, 0, none⟩ = some (.iface 167 (.pointer (some p0))) := by rw [hbel.cell (p := ⟨3, 0, none⟩) z0]; exact H01.out.1
        have g1 : wr.cell? ⟨0, 0, none⟩ = some (.iface 167 (.pointer (some p1))) := by rw [hbel.cell (p := ⟨0, 0, none⟩) z1]; exact H01.out.2
        have HP := Lib.hid (And.intro (show Pair wr g to 2 from hpr) (show Pair wr (g + 1) a b from hpc))
        obtain ⟨z2, r0, r1, -, -⟩ := hpr
        obtain ⟨z3, c0, c1, f0, f1⟩ := hpc
        have hgw : g ≤ wr.heap.size := Nat.le_of_lt z2
        generalize s[k] = c at *
        by_cases hw : wonN to a b = 0
        · have hsd : sideS (wonN to a b) = ⟨#[]⟩ := by rw [hw]; rfl
          cases hc : isAB c
          · have hv : stray to 0 0 s.data.toList = some (k, false) := by rw [← HT.out, HD.out, stray_cons_bad hw hc]; simp [shiftO]
            have HV := Lib.hid hv; clear hv
            have HSD := Lib.hid hsd; clear hsd hw
            have HC := Lib.hid hc; clear hc
            go_wp2_with fail
            refine (winnerOfRace_any to a b _ ka1 (by omega) kb1 (by omega)).mono ?_; rintro e w2 ⟨rfl, b2⟩
            rw [HSD.out]
            have HB2 := Lib.hid (hbel.trans (b2.mono hgw))
            have g0' : w2.cell? ⟨3, 0, none⟩ = some (.iface 167 (.pointer (some p0))) := by rw [HB2.out.cell (p := ⟨3, 0, none⟩) z0]; exact H01.out.1
            clear g0 g1 r0 r1 c0 c1 f0 f1 b2 hbel
            go_wp2_with fail
            refine (isSide_any c _).mono ?_; rintro e w3 ⟨rfl, rfl⟩
            rw [HC.out]
            go_wp2_with fail
            exact ⟨rfl, by rw [HV.out]; rfl, HB2.out⟩
          · have hv : shiftO (k + 1) (stray to (a + upA c) (b + upB c) (s.data.toList.drop (k + 1))) = stray to 0 0 s.data.toList := by
              rw [← HT.out, HD.out, stray_cons_ok hw hc, shift_shift]
            have hu : 0 ≤ upA c ∧ upA c ≤ 1 ∧ 0 ≤ upB c ∧ upB c ≤ 1 := by unfold upA upB; split <;> omega
            obtain ⟨u1, u2, u3, u4⟩ := hu
            have HV := Lib.hid hv; clear hv
            have HSD := Lib.hid hsd; clear hsd hw
            have HC := Lib.hid hc; clear hc
            go_wp2_with fail
            refine (winnerOfRace_any to a b _ ka1 (by omega) kb1 (by omega)).mono ?_; rintro e w2 ⟨rfl, b2⟩
            rw [HSD.out]
            have HB2 := Lib.hid (hbel.trans (b2.mono hgw))
            have HP2 := Lib.hid (And.intro (HP.out.1.keep b2) (HP.out.2.keep b2))
            obtain ⟨z4, d0, d1, -, -⟩ := HP.out.2.keep b2
            clear g0 g1 r0 r1 c0 c1 f0 f1 b2 hbel
            go_wp2_with fail
            refine (isSide_any c _).mono ?_; rintro e w3 ⟨rfl, rfl⟩
            rw [HC.out]
            go_wp2_with fail
            refine (plus_any a b c _ ka1 (by omega) kb1 (by omega)).mono ?_; rintro e w3 ⟨rfl, b3⟩
            have HB3 := Lib.hid (HB2.out.trans (b3.mono (by omega)))
            have HP3 := Lib.hid (And.intro (HP2.out.1.keep b3) (HP2.out.2.keep b3))
            obtain ⟨z5, e0, e1, f0, f1⟩ := HP2.out.2.keep b3
            clear d0 d1 b3 z4
            go_wp2_with fail
            go_roundw
            case rel =>
              refine ⟨k + 1, _, _, by go_num, by omega, by omega, by omega, by omega, by omega, ?_, HP3.out.2.put _ _, HV.out, (HB3.out.setCell (show g ≤ g + 1 by omega) _).setCell (show g ≤ g + 1 by omega) _⟩
              exact pair_other HP3.out.1 (by omega)
            case measure => simp [intOf]; omega
        · have hv : stray to 0 0 s.data.toList = some (k, true) := by rw [← HT.out, HD.out, stray_cons_won hw]; simp [shiftO]
          have hsd : ∃ x, sideS (wonN to a b) = ⟨#[x]⟩ := by
            unfold wonN at hw ⊢
            split
            · exact ⟨97, rfl⟩
            · rename_i q1; rw [if_neg q1] at hw
              split
              · exact ⟨98, rfl⟩
              · rename_i q2; rw [if_neg q2] at hw; exact absurd rfl hw
          obtain ⟨x, hsd⟩ := hsd
          have HV := Lib.hid hv; clear hv
          have HSD := Lib.hid hsd; clear hsd hw
          go_wp2_with fail
          refine (winnerOfRace_any to a b _ ka1 (by omega) kb1 (by omega)).mono ?_; rintro e w2 ⟨rfl, b2⟩
          rw [HSD.out]
          have HB2 := Lib.hid (hbel.trans (b2.mono hgw))
          have g1' : w2.cell? ⟨0, 0, none⟩ = some (.iface 167 (.pointer (some p1))) := by rw [HB2.out.cell (p := ⟨0, 0, none⟩) z1]; exact H01.out.2
          clear g0 g1 r0 r1 c0 c1 f0 f1 b2 hbel
          go_wp2_with fail
          exact ⟨rfl, by rw [HV.out]; rfl, HB2.out⟩
      · obtain rfl : k = s.size := by omega
        have hv : stray to 0 0 s.data.toList = none := by rw [← HT.out, drop_all]; rfl
        have HV := Lib.hid hv; clear hv hpr hpc
        go_wp2_with fail
        go_end0
        exact ⟨by rw [HV.out]; rfl, hbel⟩

end Go.Proofs.YtgkkjlpfkoplhaaGreatDoor
