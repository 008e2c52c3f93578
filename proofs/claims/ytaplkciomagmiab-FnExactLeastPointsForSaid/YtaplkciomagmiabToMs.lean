/-
  Tennis: game orders: the model's counts and first ones.
-/
import Derived.Test.YtaplkciomagmiabToMo
namespace Go.Proofs.Ytaplkciomagmiab
open Go.RowKit Go.Deep
set_option linter.unusedVariables false
set_option linter.unusedSimpArgs false

set_option maxHeartbeats 800000 in
theorem tnGames_any (a b : Int) (w : World) :
    Calls Try.prog 23 #[.int .i64 a, .int .i64 b] w fun e w' => e = .returned (.bool (inB a b)) ∧ w = w' := by
  cases h1 : inR a 0 7 with
  | false =>
    rw [show inB a b = false from by unfold inB; rw [h1]; rfl]
    have H1 := Lib.hid h1; clear h1
    go_enter Try.func23, Try.ntmps23
    go_wp2_with fail
    refine (l1In_any _ _ _ _).mono ?_; rintro e w1 ⟨rfl, rfl⟩
    rw [H1.out]
    go_wp2_with fail
    go_ret
    exact ⟨rfl, rfl⟩
  | true =>
    rw [show inB a b = inR b 0 7 from by unfold inB; rw [h1]; rfl]
    have H1 := Lib.hid h1; clear h1
    go_enter Try.func23, Try.ntmps23
    go_wp2_with fail
    refine (l1In_any _ _ _ _).mono ?_; rintro e w1 ⟨rfl, rfl⟩
    rw [H1.out]
    go_wp2_with fail
    refine (l1In_any _ _ _ _).mono ?_; rintro e w1 ⟨rfl, rfl⟩
    go_wp2_with fail
    go_ret
    exact ⟨rfl, rfl⟩
theorem tnAll (a b : Nat) (ha : a ≤ 7) (hb : b ≤ 7) (w : World) :
    Calls Try.prog 24 #[.int .i64 a, .int .i64 b, .string ⟨#[]⟩] w fun e w' => StrR (ord a b 15 0 0 []) w e w' :=
  tnOrders_any a b ha hb 15 0 0 [] (by omega) (by omega) (by omega) (by omega) rfl rfl w

set_option maxHeartbeats 800000 in
theorem specCount_any (a b : Int) (w : World) :
    Calls Try.prog 12 #[.int .i64 a, .int .i64 b] w fun e w' => e = .returned (.tuple #[.int .i64 ((ov a b).1 : Int), .bool (inB a b)]) ∧ Below w.heap.size w w' := by
  have HG := Lib.hid (tnGames_any a b)
  cases h : inB a b with
  | false =>
    rw [show ov a b = (0, []) from by unfold ov; rw [h]; rfl]
    rw [h] at HG
    clear h
    go_enter Try.func12, Try.ntmps12
    go_wp2_with fail
    refine (HG.out _).mono ?_; rintro e w1 ⟨rfl, rfl⟩
    go_wp2_with fail
    go_ret2
    exact ⟨rfl, Below.refl _ _⟩
  | true =>
    have hh := (inB_iff a b).1 h
    obtain ⟨x, rfl⟩ : ∃ x : Nat, a = x := ⟨a.toNat, by omega⟩
    obtain ⟨y, rfl⟩ : ∃ y : Nat, b = y := ⟨b.toNat, by omega⟩
    rw [show ov x y = tg (tabN 49) (8 * x + y) from by unfold ov; rw [h]; rfl]
    rw [h] at HG
    have hs := (same_at (a := x) (b := y) (by omega) (by omega)).1
    rw [← hs]
    have HT := Lib.hid (tnAll x y (by omega) (by omega))
    generalize ord x y 15 0 0 [] = L at *
    clear h hs hh
    go_enter Try.func12, Try.ntmps12
    go_wp2_with fail
    refine (HG.out _).mono ?_; rintro e w1 ⟨rfl, rfl⟩
    go_wp2_with fail
    refine (HT.out _).mono ?_; rintro e w2 ⟨v, rfl, o2, b2⟩
    obtain ⟨a2, c2, rfl, -⟩ := Reads.own o2
    clear o2
    go_wp2_with fail
    go_ret2
    exact ⟨rfl, b2⟩

set_option maxHeartbeats 1600000 in
theorem specFirst_any (a b : Int) (w : World) :
    Calls Try.prog 14 #[.int .i64 a, .int .i64 b] w fun e w' => e = .returned (.tuple #[.string ⟨(ov a b).2.toArray⟩, .bool (decide (0 < ((ov a b).1 : Int)))]) ∧ Below w.heap.size w w' := by
  have HG := Lib.hid (tnGames_any a b)
  cases h : inB a b with
  | false =>
    rw [show ov a b = (0, []) from by unfold ov; rw [h]; rfl]
    rw [h] at HG
    clear h
    go_enter Try.func14, Try.ntmps14
    go_wp2_with fail
    refine (HG.out _).mono ?_; rintro e w1 ⟨rfl, rfl⟩
    go_wp2_with fail
    go_ret2
    exact ⟨rfl, Below.refl _ _⟩
  | true =>
    have hh := (inB_iff a b).1 h
    obtain ⟨x, rfl⟩ : ∃ x : Nat, a = x := ⟨a.toNat, by omega⟩
    obtain ⟨y, rfl⟩ : ∃ y : Nat, b = y := ⟨b.toNat, by omega⟩
    rw [show ov x y = tg (tabN 49) (8 * x + y) from by unfold ov; rw [h]; rfl]
    rw [h] at HG
    obtain ⟨hs1, hs2⟩ := same_at (a := x) (b := y) (by omega) (by omega)
    rw [← hs1, ← hs2]
    have HT := Lib.hid (tnAll x y (by omega) (by omega))
    generalize ord x y 15 0 0 [] = L at *
    clear h hs1 hs2 hh
    cases L with
    | nil =>
      go_enter Try.func14, Try.ntmps14
      go_wp2_with fail
      refine (HG.out _).mono ?_; rintro e w1 ⟨rfl, rfl⟩
      go_wp2_with fail
      refine (HT.out _).mono ?_; rintro e w2 ⟨v, rfl, o2, b2⟩
      obtain ⟨a2, c2, rfl, -⟩ := Reads.own o2
      clear o2
      simp only [List.length_nil]
      go_wp2_with fail
      go_ret2
      exact ⟨rfl, b2⟩
    | cons p L =>
      go_enter Try.func14, Try.ntmps14
      go_wp2_with fail
      refine (HG.out _).mono ?_; rintro e w1 ⟨rfl, rfl⟩
      go_wp2_with fail
      refine (HT.out _).mono ?_; rintro e w2 ⟨v, rfl, o2, b2⟩
      obtain ⟨hl, ⟨rfl, hm⟩ | ⟨g, cap, cur, rfl, hg, hh, hn, hcap, hcs, htk⟩⟩ := o2
      · simp at hm
      have c0 : w2.cell? ⟨g, 0, none⟩ = some (.string ⟨p.toArray⟩) := by
        rw [cell_of_row w2 g 0 cur _ _ hh]
        have e : cur[0]? = (cur.toList.take ((p :: L).length * 1))[0]? := by rw [List.getElem?_take_of_lt (by simp)]; simp
        rw [e, htk]; rfl
      have hlp : (0 : Int) < (((p :: L).length : Nat) : Int) := by first | (simp; done) | (simp; omega)
      have hle : ((((p :: L).length : Nat) : Int) == 0) = false := by first | (simp; done) | (simp; omega)
      have B2 := Lib.hid b2
      clear hl hg hh hn hcap hcs htk b2
      generalize (p :: L).length = n at *
      go_wp2_with fail
      go_ret2
      exact ⟨by simp [hlp], B2.out⟩
end Go.Proofs.Ytaplkciomagmiab
