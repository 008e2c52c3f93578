/-
  Tennis: GamesOf, PointsOfSet, SetWinner: the model and the program.
-/
import Derived.Test.YtbgdngfjeikheabDoorTnGood
namespace Go.Proofs.YtbgdngfjeikheabDoor
open Go.RowKit
set_option linter.unusedVariables false
set_option linter.unusedSimpArgs false

theorem ab_cnt : ∀ (l : List UInt8), abL l = true → (l.length : Int) = cntA l + cntB l
  | [], _ => rfl
  | c :: r, h => by
    obtain ⟨h1, h2⟩ := abL_cons.1 h
    have := ab_cnt r h2
    rw [cntA_cons, cntB_cons h1, List.length_cons]
    unfold upA upB
    split <;> omega
theorem gm_size (s : ByteArray) : ((⟨(gamesL s).toArray⟩ : ByteArray).size : Int) = (gamesL s).length := by simp [ByteArray.size]

/-- The answers. -/
def gamesR (s : ByteArray) : ByteArray := if goodB s then ⟨(gamesL s).toArray⟩ else ⟨#[]⟩
def ptA (s : ByteArray) : Int := if goodB s then cntA s.data.toList else 0
def ptB (s : ByteArray) : Int := if goodB s then cntB s.data.toList else 0
def winW (a b : Int) : ByteArray := if overB a b then (if b < a then ⟨#[97]⟩ else ⟨#[98]⟩) else ⟨#[45]⟩
def winR (s : ByteArray) : ByteArray := if goodB s then winW (cntA (gamesL s)) (cntB (gamesL s)) else ⟨#[]⟩
theorem near_side_fin : ∀ a b : Fin 8, nearB (a.val : Int) (b.val : Int) = true → sideS (winN (a.val : Int) (b.val : Int)) = if overB (a.val : Int) (b.val : Int) then (if (b.val : Int) < (a.val : Int) then ⟨#[97]⟩ else ⟨#[98]⟩) else ⟨#[]⟩ := by decide +kernel
theorem near_side {a b : Int} (h : nearB a b = true) : sideS (winN a b) = if overB a b then (if b < a then ⟨#[97]⟩ else ⟨#[98]⟩) else ⟨#[]⟩ := by
  have hb := near_bd h
  obtain ⟨a, rfl⟩ : ∃ x : Nat, a = x := ⟨a.toNat, by omega⟩
  obtain ⟨b, rfl⟩ : ∃ x : Nat, b = x := ⟨b.toNat, by omega⟩
  exact near_side_fin ⟨a, by omega⟩ ⟨b, by omega⟩ h

set_option maxHeartbeats 800000 in
theorem specGamesOf_any (s : ByteArray) (w : World) (hs : (s.size : Int) ≤ 1000000000000) :
    Calls Tryd.prog 19 #[.string s] w fun e w' => e = .returned (.tuple #[.string (gamesR s), .bool (goodB s)]) ∧ Below w.heap.size w w' := by
  cases hg : goodB s
  · have hr : gamesR s = ⟨#[]⟩ := by simp [gamesR, hg]
    rw [hr]; clear hr
    have HG := Lib.hid hg; clear hg
    go_enter Tryd.func19, Tryd.ntmps19
    go_wp2_with fail
    refine (tnGood_any s _ hs).mono ?_; rintro e w1 ⟨rfl, b1⟩
    rw [HG.out]
    go_wp2_with fail
    go_ret2
    exact ⟨rfl, b1⟩
  · have hr : gamesR s = ⟨(gamesL s).toArray⟩ := by simp [gamesR, hg]
    rw [hr]; clear hr
    have HG := Lib.hid hg; clear hg
    go_enter Tryd.func19, Tryd.ntmps19
    go_wp2_with fail
    refine (tnGood_any s _ hs).mono ?_; rintro e w1 ⟨rfl, b1⟩
    rw [HG.out]
    go_wp2_with fail
    refine (tnSet_good s _ HG.out).mono ?_; rintro e w2 ⟨rfl, b2⟩
    go_wp2_with fail
    go_ret2
    exact ⟨rfl, b1.trans (b2.mono b1.size)⟩

set_option maxHeartbeats 800000 in
theorem implGamesOf_any (s : ByteArray) (p0 p1 : Addr) (w : World) (hs : (s.size : Int) ≤ 1000000000000) (L : Laid w p0 p1) :
    Calls Tryd.prog 20 #[.string s] w fun e w' => e = .returned (.tuple #[.string (gamesR s), .bool (goodB s)]) ∧ Below w.heap.size w w' := by
  have HL := Lib.hid L; clear L
  cases hg : goodB s
  · have hr : gamesR s = ⟨#[]⟩ := by simp [gamesR, hg]
    rw [hr]; clear hr
    have HG := Lib.hid hg; clear hg
    go_enter Tryd.func20, Tryd.ntmps20
    go_wp2_with fail
    refine (playSet_bad s p0 p1 _ hs HL.out HG.out).mono ?_; rintro e w1 ⟨rfl, b1⟩
    go_wp2_with fail
    go_ret2
    exact ⟨rfl, b1.alloc b1.size _⟩
  · have hr : gamesR s = ⟨(gamesL s).toArray⟩ := by simp [gamesR, hg]
    rw [hr]; clear hr
    have HG := Lib.hid hg; clear hg
    go_enter Tryd.func20, Tryd.ntmps20
    go_wp2_with fail
    refine (playSet_good s p0 p1 _ HL.out HG.out).mono ?_; rintro e w1 ⟨rfl, b1⟩
    go_wp2_with fail
    go_ret2
    exact ⟨rfl, b1.alloc b1.size _⟩

set_option maxHeartbeats 800000 in
theorem specPointsOfSet_any (s : ByteArray) (w : World) (hs : (s.size : Int) ≤ 1000000000000) :
    Calls Tryd.prog 27 #[.string s] w fun e w' => e = .returned (.tuple #[.int .i64 (ptA s), .int .i64 (ptB s), .bool (goodB s)]) ∧ Below w.heap.size w w' := by
  cases hg : goodB s
  · have hr : ptA s = 0 ∧ ptB s = 0 := by simp [ptA, ptB, hg]
    rw [hr.1, hr.2]; clear hr
    have HG := Lib.hid hg; clear hg
    go_enter Tryd.func27, Tryd.ntmps27
    go_wp2_with fail
    refine (tnGood_any s _ hs).mono ?_; rintro e w1 ⟨rfl, b1⟩
    rw [HG.out]
    go_wp2_with fail
    refine bodyPost_ret (v := .tuple #[.int .i64 (0), .int .i64 (0), .bool false]) (by simp [results, Tryd.results27, go_sem]) rfl ⟨rfl, ?_⟩
    exact (b1)
  · have hr : ptA s = cntA s.data.toList ∧ ptB s = (s.size : Int) - cntA s.data.toList := by
      have := ab_cnt _ (good_ab hg); rw [len_list] at this
      simp only [ptA, ptB, hg, if_true]
      exact ⟨trivial, by omega⟩
    rw [hr.1, hr.2]; clear hr
    have HG := Lib.hid hg; clear hg
    go_enter Tryd.func27, Tryd.ntmps27
    go_wp2_with fail
    refine (tnGood_any s _ hs).mono ?_; rintro e w1 ⟨rfl, b1⟩
    rw [HG.out]
    go_wp2_with fail
    refine (tnWon_any s _ hs).mono ?_; rintro e w2 ⟨rfl, rfl⟩
    go_wp2_with fail
    refine bodyPost_ret (v := .tuple #[.int .i64 (cntA s.data.toList), .int .i64 ((s.size : Int) - cntA s.data.toList), .bool true]) (by simp [results, Tryd.results27, go_sem]) rfl ⟨rfl, ?_⟩
    exact (b1)

set_option maxHeartbeats 800000 in
theorem implPointsOfSet_any (s : ByteArray) (p0 p1 : Addr) (w : World) (hs : (s.size : Int) ≤ 1000000000000) (L : Laid w p0 p1) :
    Calls Tryd.prog 28 #[.string s] w fun e w' => e = .returned (.tuple #[.int .i64 (ptA s), .int .i64 (ptB s), .bool (goodB s)]) ∧ Below w.heap.size w w' := by
  have HL := Lib.hid L; clear L
  cases hg : goodB s
  · have hr : ptA s = 0 ∧ ptB s = 0 := by simp [ptA, ptB, hg]
    rw [hr.1, hr.2]; clear hr
    have HG := Lib.hid hg; clear hg
    go_enter Tryd.func28, Tryd.ntmps28
    go_wp2_with fail
    refine (implIsSet_any s p0 p1 _ hs HL.out).mono ?_; rintro e w1 ⟨rfl, b1⟩
    rw [HG.out]
    go_wp2_with fail
    refine bodyPost_ret (v := .tuple #[.int .i64 (0), .int .i64 (0), .bool false]) (by simp [results, Tryd.results28, go_sem]) rfl ⟨rfl, ?_⟩
    exact (b1)
  · have hr : ptA s = cntA s.data.toList ∧ ptB s = cntB s.data.toList := by simp [ptA, ptB, hg]
    rw [hr.1, hr.2]; clear hr
    have HG := Lib.hid hg; clear hg
    have HC := Lib.hid (fun w => countSides_any s w)
    generalize cntA s.data.toList = x at *
    generalize cntB s.data.toList = y at *
    go_enter Tryd.func28, Tryd.ntmps28
    go_wp2_with fail
    refine (implIsSet_any s p0 p1 _ hs HL.out).mono ?_; rintro e w1 ⟨rfl, b1⟩
    rw [HG.out]
    go_wp2_with fail
    refine (HC.out _).mono ?_; rintro e w2 ⟨rfl, b2⟩
    have pr := Pair.new w2 x y 63
    obtain ⟨s2, s0, s1, -, -⟩ := pr
    have c2 := (b1.trans (b2.mono b1.size)).alloc (b1.trans (b2.mono b1.size)).size (.cells #[.int .i64 x, .int .i64 y] 63)
    have HB := Lib.hid c2; clear c2 b1 b2
    go_wp2_with fail
    go_quiet (fail)
    go_wp2
    refine bodyPost_ret (v := .tuple #[.int .i64 (x), .int .i64 (y), .bool true]) (by simp [results, Tryd.results28, go_sem]) rfl ⟨rfl, ?_⟩
    exact below_drewN HB.out _

set_option maxHeartbeats 800000 in
theorem tnWinner_any (a b : Int) (w : World) (h0 : 0 ≤ a) (h1 : a ≤ 1000) (h2 : 0 ≤ b) (h3 : b ≤ 1000) :
    Calls Tryd.prog 62 #[.int .i64 a, .int .i64 b] w fun e w' => e = .returned (.string (winW a b)) ∧ w = w' := by
  have HO := Lib.hid (fun w => tnOver_any a b w h0 (by omega) h2 (by omega))
  cases ho : overB a b
  · have hr : winW a b = ⟨#[45]⟩ := by simp [winW, ho]
    rw [hr]; clear hr
    rw [ho] at HO; clear ho
    go_enter Tryd.func62, Tryd.ntmps62
    go_wp2_with fail
    refine (HO.out _).mono ?_; rintro e w1 ⟨rfl, rfl⟩
    go_wp2_with fail
    go_ret
    exact ⟨rfl, rfl⟩
  · by_cases hab : b < a
    · have hr : winW a b = ⟨#[97]⟩ := by simp [winW, ho, hab]
      rw [hr]; clear hr
      rw [ho] at HO; clear ho
      go_enter Tryd.func62, Tryd.ntmps62
      go_wp2_with fail
      refine (HO.out _).mono ?_; rintro e w1 ⟨rfl, rfl⟩
      go_wp2_with fail
      go_ret
      exact ⟨rfl, rfl⟩
    · have hr : winW a b = ⟨#[98]⟩ := by simp [winW, ho, hab]
      rw [hr]; clear hr
      rw [ho] at HO; clear ho
      go_enter Tryd.func62, Tryd.ntmps62
      go_wp2_with fail
      refine (HO.out _).mono ?_; rintro e w1 ⟨rfl, rfl⟩
      go_wp2_with fail
      go_ret
      exact ⟨rfl, rfl⟩

/-- The games of each side, as the model reckons them. -/
theorem wonG_any (s : ByteArray) (w : World) :
    Calls Tryd.prog 58 #[.string ⟨(gamesL s).toArray⟩] w fun e w' => e = .returned (.tuple #[.int .i64 (cntA (gamesL s)), .int .i64 (cntB (gamesL s))]) ∧ w = w' := by
  obtain ⟨hn, hl, -, -⟩ := games_inv s
  have hb := near_bd hn
  have := tnWon_any ⟨(gamesL s).toArray⟩ w (by rw [gm_size]; omega)
  rw [gm_size, show (⟨(gamesL s).toArray⟩ : ByteArray).data.toList = gamesL s from by simp, show ((gamesL s).length : Int) - cntA (gamesL s) = cntB (gamesL s) from by omega] at this
  exact this
theorem sidesG_any (s : ByteArray) (w : World) :
    Calls Tryd.prog 54 #[.string ⟨(gamesL s).toArray⟩] w fun e w' => e = .returned (.agg #[.int .i64 (cntA (gamesL s)), .int .i64 (cntB (gamesL s))]) ∧ Below w.heap.size w w' := by
  have := countSides_any ⟨(gamesL s).toArray⟩ w
  rw [show (⟨(gamesL s).toArray⟩ : ByteArray).data.toList = gamesL s from by simp] at this
  exact this

set_option maxHeartbeats 800000 in
theorem specSetWinner_any (s : ByteArray) (w : World) (hs : (s.size : Int) ≤ 1000000000000) :
    Calls Tryd.prog 23 #[.string s] w fun e w' => e = .returned (.tuple #[.string (winR s), .bool (goodB s)]) ∧ Below w.heap.size w w' := by
  cases hg : goodB s
  · have hr : winR s = ⟨#[]⟩ := by simp [winR, hg]
    rw [hr]; clear hr
    have HG := Lib.hid hg; clear hg
    go_enter Tryd.func23, Tryd.ntmps23
    go_wp2_with fail
    refine (tnGood_any s _ hs).mono ?_; rintro e w1 ⟨rfl, b1⟩
    rw [HG.out]
    go_wp2_with fail
    go_ret2
    exact ⟨rfl, b1⟩
  · have hr : winR s = winW (cntA (gamesL s)) (cntB (gamesL s)) := by simp [winR, hg]
    rw [hr]; clear hr
    have HG := Lib.hid hg; clear hg
    have hb := near_bd (games_inv s).1
    have HW := Lib.hid (fun w => wonG_any s w)
    have HT := Lib.hid (fun w => tnWinner_any (cntA (gamesL s)) (cntB (gamesL s)) w (by omega) (by omega) (by omega) (by omega))
    clear hb
    go_enter Tryd.func23, Tryd.ntmps23
    go_wp2_with fail
    refine (tnGood_any s _ hs).mono ?_; rintro e w1 ⟨rfl, b1⟩
    rw [HG.out]
    go_wp2_with fail
    refine (tnSet_good s _ HG.out).mono ?_; rintro e w2 ⟨rfl, b2⟩
    go_wp2_with fail
    refine (HW.out _).mono ?_; rintro e w3 ⟨rfl, rfl⟩
    go_wp2_with fail
    refine (HT.out _).mono ?_; rintro e w4 ⟨rfl, rfl⟩
    go_wp2_with fail
    go_ret2
    exact ⟨rfl, b1.trans (b2.mono b1.size)⟩

set_option maxHeartbeats 800000 in
theorem implSetWinner_any (s : ByteArray) (p0 p1 : Addr) (w : World) (hs : (s.size : Int) ≤ 1000000000000) (L : Laid w p0 p1) :
    Calls Tryd.prog 24 #[.string s] w fun e w' => e = .returned (.tuple #[.string (winR s), .bool (goodB s)]) ∧ Below w.heap.size w w' := by
  have HL := Lib.hid L; clear L
  cases hg : goodB s
  · have hr : winR s = ⟨#[]⟩ := by simp [winR, hg]
    rw [hr]; clear hr
    have HG := Lib.hid hg; clear hg
    go_enter Tryd.func24, Tryd.ntmps24
    go_wp2_with fail
    refine (playSet_bad s p0 p1 _ hs HL.out HG.out).mono ?_; rintro e w1 ⟨rfl, b1⟩
    go_wp2_with fail
    go_ret2
    exact ⟨rfl, b1.alloc b1.size _⟩
  · have hr : winR s = winW (cntA (gamesL s)) (cntB (gamesL s)) := by simp [winR, hg]
    rw [hr]; clear hr
    have HG := Lib.hid hg; clear hg
    have hsd := near_side (games_inv s).1
    have HC := Lib.hid (fun w => sidesG_any s w)
    have HW := Lib.hid (fun w => winnerOfGames_any (cntA (gamesL s)) (cntB (gamesL s)) w)
    have hW : winW (cntA (gamesL s)) (cntB (gamesL s)) = if overB (cntA (gamesL s)) (cntB (gamesL s)) then (if cntB (gamesL s) < cntA (gamesL s) then ⟨#[97]⟩ else ⟨#[98]⟩) else ⟨#[45]⟩ := rfl
    rw [hW]; clear hW
    cases ho : overB (cntA (gamesL s)) (cntB (gamesL s))
    · rw [ho] at hsd
      simp only [Bool.false_eq_true, if_false] at hsd ⊢
      rw [hsd] at HW; clear hsd ho
      go_enter Tryd.func24, Tryd.ntmps24
      go_wp2_with fail
      refine (playSet_good s p0 p1 _ HL.out HG.out).mono ?_; rintro e w1 ⟨rfl, b1⟩
      go_wp2_with fail
      refine (HC.out _).mono ?_; rintro e w2 ⟨rfl, b2⟩
      go_wp2_with fail
      refine (HW.out _).mono ?_; rintro e w3 ⟨rfl, b3⟩
      go_wp2_with fail
      go_ret2
      have c2 := (b1.alloc b1.size _).trans (b2.mono (b1.alloc b1.size _).size)
      exact ⟨rfl, c2.trans (b3.mono c2.size)⟩
    · rw [ho] at hsd
      simp only [if_true] at hsd ⊢
      clear ho
      by_cases hab : cntB (gamesL s) < cntA (gamesL s)
      · rw [if_pos hab] at hsd ⊢
        rw [hsd] at HW; clear hsd hab
        go_enter Tryd.func24, Tryd.ntmps24
        go_wp2_with fail
        refine (playSet_good s p0 p1 _ HL.out HG.out).mono ?_; rintro e w1 ⟨rfl, b1⟩
        go_wp2_with fail
        refine (HC.out _).mono ?_; rintro e w2 ⟨rfl, b2⟩
        go_wp2_with fail
        refine (HW.out _).mono ?_; rintro e w3 ⟨rfl, b3⟩
        go_wp2_with fail
        go_ret2
        have c2 := (b1.alloc b1.size _).trans (b2.mono (b1.alloc b1.size _).size)
        exact ⟨rfl, c2.trans (b3.mono c2.size)⟩
      · rw [if_neg hab] at hsd ⊢
        rw [hsd] at HW; clear hsd hab
        go_enter Tryd.func24, Tryd.ntmps24
        go_wp2_with fail
        refine (playSet_good s p0 p1 _ HL.out HG.out).mono ?_; rintro e w1 ⟨rfl, b1⟩
        go_wp2_with fail
        refine (HC.out _).mono ?_; rintro e w2 ⟨rfl, b2⟩
        go_wp2_with fail
        refine (HW.out _).mono ?_; rintro e w3 ⟨rfl, b3⟩
        go_wp2_with fail
        go_ret2
        have c2 := (b1.alloc b1.size _).trans (b2.mono (b1.alloc b1.size _).size)
        exact ⟨rfl, c2.trans (b3.mono c2.size)⟩

end Go.Proofs.YtbgdngfjeikheabDoor
