/-
  Legs: PlayLeg, both sides.
-/
import Derived.Test.YtaplkciomagmiaaPlEq
import Derived.Test.YtaplkciomagmiaaPlLeft
import Derived.Maps.AppendAt
import Derived.Laws.OwnMore
namespace Go.Proofs.Ytaplkciomagmiaa
open Go.RowKit Go.Deep
set_option linter.unusedVariables false
set_option linter.unusedSimpArgs false

theorem infoIntL : (Try.prog.info? 3).map (fun i => (i.zero, i.size, i.bytes)) = some (some (.int .i64 0), 1, 8) := by kernel_rfl
theorem below_newL (w : World) (o : Obj) : Below w.heap.size w (w.alloc o) := (Below.refl _ _).alloc (Nat.le_refl _) _
theorem owns_belowL {B : Nat} {e : TypeId} {k : Nat} {v : Value} {n : Nat} {xs : List Value} {w w' : World} (h : w.ownsRow B e k v n xs) (hb : Below w.heap.size w w') : w'.ownsRow B e k v n xs := by
  obtain ⟨h1, h2⟩ := h
  refine ⟨h1, ?_⟩
  rcases h2 with h2 | ⟨g, cap, cur, hv, hg, hh, r⟩
  · exact Or.inl h2
  · exact Or.inr ⟨g, cap, cur, hv, hg, by rw [hb.block g (Array.getElem?_eq_some_iff.1 hh).1]; exact hh, r⟩
theorem owns_blockL {w : World} {B T n size : Nat} {v : Value} {xs : List Value} (h : w.ownsRow B T size v n xs) (g : Nat) (hg : v.ownBlock = some g) : B ≤ g ∧ g < w.heap.size := by
  obtain ⟨hl, ⟨rfl, h2⟩ | ⟨g', cap, cur, rfl, hb, hh, r⟩⟩ := h
  · simp [Value.ownBlock] at hg
  · simp [Value.ownBlock] at hg
    subst hg; exact ⟨hb, (Array.getElem?_eq_some_iff.1 hh).1⟩
theorem owns_nilL (w : World) (B : Nat) (T : TypeId) : w.ownsRow B T 1 (.slice none 0 0) 0 (ints []) := ⟨rfl, .inl ⟨rfl, rfl⟩⟩
def plL : Int → DL → List Int → Option (List Int)
  | _, [], out => some out
  | left, l :: t, out => match visitRes left l with
    | none => none
    | some p => plL p.1 t (out ++ [p.1])
theorem plL_none {left : Int} {l : List (Int × Int)} {t : DL} {out : List Int} (h : visitRes left l = none) : plL left (l :: t) out = none := by rw [plL, h]
theorem plL_some {left : Int} {l : List (Int × Int)} {t : DL} {out : List Int} {n : Int} {b : Bool} (h : visitRes left l = some (n, b)) : plL left (l :: t) out = plL n t (out ++ [n]) := by rw [plL, h]
theorem plL_len : ∀ (DD : DL) (left : Int) (out o : List Int), plL left DD out = some o → o.length = out.length + DD.length
  | [], left, out, o, h => by rw [plL] at h; cases h; rfl
  | l :: t, left, out, o, h => by
    rw [plL] at h
    split at h
    · cases h
    · have := plL_len t _ _ o h; simp at this; rw [List.length_cons]; omega
def plR (left : Int) (DD : DL) : Option (List Int) := if inR left 0 1001 = true ∧ (DD.length : Int) ≤ 100 then plL left DD [left] else none
def rowL (o : Option (List Int)) : List Int := o.getD []
theorem rowL_len (left : Int) (DD : DL) : (rowL (plR left DD)).length ≤ 101 := by
  unfold plR
  split
  · rename_i h
    cases hp : plL left DD [left] with
    | none => simp [rowL]
    | some o => have := plL_len DD _ _ o hp; simp [rowL, this]; omega
  · simp [rowL]
def RowR (L : List Int) (o : Bool) (w : World) (e : Ending) (w' : World) : Prop :=
  ∃ v, e = .returned (.tuple #[v, .bool o]) ∧ w'.ownsRow w.heap.size 3 1 v L.length (ints L) ∧ Below w.heap.size w w'
def PI (w : World) (L : List Int) (v : Value) (wr : World) : Prop := wr.ownsRow w.heap.size 3 1 v L.length (ints L) ∧ Below w.heap.size w wr
theorem PI.keep {w : World} {L : List Int} {v : Value} {wr w' : World} (h : PI w L v wr) (hb : Below wr.heap.size wr w') : PI w L v w' := ⟨owns_belowL h.1 hb, h.2.trans (hb.mono h.2.size)⟩
theorem new_int (wr : World) (n : Int) : ∀ j' u, ([.int .i64 n] : List Value)[j']? = some u → (wr.alloc (.cells #[.int .i64 n] 3)).cell? ((⟨wr.heap.size, 0, none⟩ : Addr).add j') = some u := by
  intro j' u hu
  have e0 : j' = 0 := by have := (List.getElem?_eq_some_iff.1 hu).1; simp at this; omega
  subst e0
  simp at hu; subst hu
  rw [show ((⟨wr.heap.size, 0, none⟩ : Addr).add 0) = ⟨wr.heap.size, 0, none⟩ by simp [Addr.add]]
  exact cell_of_row _ _ 0 _ _ _ (heap_alloc_new wr (.cells #[.int .i64 n] 3))
theorem PI.more {w : World} {L : List Int} {v v' : Value} {wr w7 : World} (h : PI w L v wr) (n : Int) (ho : w7.ownsRow w.heap.size 3 1 v' (L.length + 1) (ints L ++ [.int .i64 n])) (hg : (wr.alloc (.cells #[.int .i64 n] 3)).grownBy w7 v.ownBlock) : PI w (L ++ [n]) v' w7 := by
  refine ⟨?_, (h.2.alloc h.2.size _).grown hg (by have := h.2.size; simp; omega) (fun k e => (owns_blockL h.1 k e).1)⟩
  rw [List.length_append, show ints (L ++ [n]) = ints L ++ [.int .i64 n] from by simp [ints]]
  exact ho
set_option maxHeartbeats 400000 in
theorem isLeftL (n : Int) (w : World) :
    Calls Try.prog 46 #[.int .i64 n] w fun e w' => e = .returned (.bool (inR n 0 1001)) ∧ w = w' := by
  by_cases h1 : 0 ≤ n <;> by_cases h2 : n ≤ 1001
  all_goals
    go_enter Try.func46, Try.ntmps46
    go_wp2
    go_ret
    exact ⟨ret_bool (by simp [inR, *]), rfl⟩
set_option maxHeartbeats 400000 in
theorem daLeftL (n : Int) (w : World) :
    Calls Try.prog 43 #[.int .i64 n] w fun e w' => e = .returned (.bool (inR n 0 1001)) ∧ w = w' := by
  go_enter Try.func43, Try.ntmps43
  go_wp2_with fail
  refine (l1In_any _ _ _ _).mono ?_; rintro e w1 ⟨rfl, rfl⟩
  go_wp2_with fail
  go_ret
  exact ⟨rfl, rfl⟩

set_option maxHeartbeats 6400000 in
set_option maxRecDepth 100000 in
theorem implLeg_good (left : Int) (DD : DL) (hi0 : inR left 0 1001 = true) (hl : DD.length ≤ 100) (hs : ∀ l ∈ DD, (l.length : Int) ≤ 1048576) (a : Option Addr) (c : Nat) (w : World) (h : SSR w a DD) :
    Calls Try.prog 40 #[.int .i64 left, .slice a DD.length c] w fun e w' => RowR (rowL (plL left DD [left])) (plL left DD [left]).isSome w e w' := by
  have HI0 := Lib.hid hi0; clear hi0
  have HRd := Lib.hid (And.intro h hs); clear h hs
  have hlb : ¬ (100 : Int) < (DD.length : Int) := by omega
  obtain ⟨R, hR⟩ : ∃ R, R = plL left DD [left] := ⟨_, rfl⟩
  rw [← hR]
  have HR := Lib.hid hR; clear hR
  have H1 : Hid (PI w [left] (.slice (some ⟨w.heap.size, 0, none⟩) 1 1) (w.alloc (.cells #[.int .i64 left] 3))) := Lib.hid ⟨World.ownsRow_lit (size := 1) w #[.int .i64 left] 1 (Nat.le_refl _) (by unfold maxLen; omega) rfl, below_newL w _⟩
  go_enter Try.func40, Try.ntmps40
  go_wp2_with fail
  refine (isLeftL _ _).mono ?_; rintro e w1 ⟨rfl, rfl⟩
  rw [HI0.out]
  go_wp2_with fail
  go_loopw [0, 6, 23] (fun lf v i wr => ∃ (k : Nat) (lt : Int) (L : List Int), i = .int .i64 k ∧ lf = .int .i64 lt ∧ k ≤ DD.length ∧ L.length = k + 1 ∧ Hid (plL lt (DD.drop k) L = R) ∧ Hid (PI w L v wr)) (fun _ _ i _ => DD.length - (intOf i).toNat)
  case atStart => exact ⟨0, left, [left], rfl, rfl, Nat.zero_le _, rfl, Lib.hid (by rw [List.drop_zero]; exact HR.out.symm), H1⟩
  case round =>
    clear H1 HR
    obtain ⟨k, lt, L, rfl, rfl, hk, hLk, hS, hP⟩ := hrel
    have hLl : L.length ≤ 101 := by omega
    by_cases hlt : k < DD.length
    · obtain ⟨b, off, aj, cj, rfl, hblt, c0, hrj⟩ := (HRd.out.1.old hP.out.2).cell hlt
      have hb : (k : Int) < (DD.length : Int) := by omega
      have hmem : DD.getD k [] ∈ DD := by simp [hlt]
      have hz := HRd.out.2 _ hmem
      have hd := hS.out
      rw [ddrop hlt] at hd
      clear hmem hblt hS
      generalize DD.getD k [] = l at *
      have HC := Lib.hid (fun W (hb : Below wr.heap.size wr W) => ExLeftAfter.impl_any l lt aj cj W (by omega) (hrj.old hb))
      cases hA : visitRes lt l with
      | none =>
        rw [plL_none hA] at hd
        rw [hA, show ExLeftAfter.leftV none = .tuple #[.int .i64 0, .bool false] from rfl] at HC
        subst hd
        clear hrj hA
        generalize l.length = ln at *
        go_wp2_with fail
        refine (HC.out _ (Below.refl _ _)).mono ?_; rintro e w3 ⟨rfl, b3⟩
        have H3 := Lib.hid (hP.out.keep b3); clear b3 hP c0
        go_wp2_with fail
        go_ret2
        exact ⟨.slice none 0 0, rfl, owns_nilL _ _ _, H3.out.2⟩
      | some p =>
        obtain ⟨n, b⟩ := p
        rw [plL_some hA] at hd
        rw [hA, show ExLeftAfter.leftV (some (n, b)) = .tuple #[.int .i64 n, .bool true] from rfl] at HC
        clear hrj hA
        generalize l.length = ln at *
        go_wp2_with fail
        refine (HC.out _ (Below.refl _ _)).mono ?_; rintro e w3 ⟨rfl, b3⟩
        have H3 := Lib.hid (hP.out.keep b3); clear b3 hP c0
        obtain ⟨i0, hi, hz0, hz1, hz2⟩ := info_parts infoIntL
        have hP3 := H3.out
        have HLn : Hid (L.length ≤ 101) := Lib.hid hLl
        have HNi := new_int w3 n
        go_wp2_with (at_builtin; refine wpList_append_own_at _ rfl _ _ 28 rfl w.heap.size 3 i0 (.int .i64 0) 1 8 Try.underlying28 hi hz0 hz1 hz2 rfl (by decide) _ _ _ rfl (hP3.1.alloc _) ⟨w3.heap.size, 0, none⟩ 1 1 [.int .i64 n] rfl rfl HNi ?_ ?_ ?_ ?_ ?_)
        · first | rfl | (intro u hu; simp at hu; subst hu; rfl)
        · have := HLn.out; unfold maxLen; omega
        · have := HLn.out; omega
        · have := hP3.2.size; first | omega | (simp; omega)
        intro v' w7 hown7 hgrow _ _
        have H7 := Lib.hid (hP3.more n (by rw [hLk]; exact hown7) hgrow)
        clear hown7 hgrow hP3 HNi hi hz0 hz1 hz2 H3
        go_wp2_with fail
        go_roundw
        case rel => exact ⟨k + 1, n, L ++ [n], by go_num, rfl, by omega, by simp; omega, Lib.hid hd, H7⟩
        case measure => simp [intOf]; omega
    · obtain rfl : k = DD.length := by omega
      have hd := hS.out
      rw [List.drop_length, plL] at hd
      have HX := Lib.hid hd; clear hd hS
      go_wp2_with fail
      go_ret2
      exact ⟨_, by rw [← HX.out]; rfl, by rw [← HX.out]; exact hP.out.1, hP.out.2⟩

set_option maxHeartbeats 6400000 in
set_option maxRecDepth 100000 in
theorem specLeg_good (left : Int) (DD : DL) (hi0 : inR left 0 1001 = true) (hl : DD.length ≤ 100) (hs : ∀ l ∈ DD, (l.length : Int) ≤ 1048576) (a : Option Addr) (c : Nat) (w : World) (h : SSR w a DD) :
    Calls Try.prog 38 #[.int .i64 left, .slice a DD.length c] w fun e w' => RowR (rowL (plL left DD [left])) (plL left DD [left]).isSome w e w' := by
  have HI0 := Lib.hid hi0; clear hi0
  have HRd := Lib.hid (And.intro h hs); clear h hs
  have hlb : ¬ (100 : Int) < (DD.length : Int) := by omega
  obtain ⟨R, hR⟩ : ∃ R, R = plL left DD [left] := ⟨_, rfl⟩
  rw [← hR]
  have HR := Lib.hid hR; clear hR
  have H1 : Hid (PI w [left] (.slice (some ⟨w.heap.size, 0, none⟩) 1 1) (w.alloc (.cells #[.int .i64 left] 3))) := Lib.hid ⟨World.ownsRow_lit (size := 1) w #[.int .i64 left] 1 (Nat.le_refl _) (by unfold maxLen; omega) rfl, below_newL w _⟩
  go_enter Try.func38, Try.ntmps38
  go_wp2_with fail
  refine (daLeftL _ _).mono ?_; rintro e w1 ⟨rfl, rfl⟩
  rw [HI0.out]
  go_wp2_with fail
  go_loopw [0, 6, 24] (fun lf v i wr => ∃ (k : Nat) (lt : Int) (L : List Int), i = .int .i64 k ∧ lf = .int .i64 lt ∧ k ≤ DD.length ∧ L.length = k + 1 ∧ Hid (plL lt (DD.drop k) L = R) ∧ Hid (PI w L v wr)) (fun _ _ i _ => DD.length - (intOf i).toNat)
  case atStart => exact ⟨0, left, [left], rfl, rfl, Nat.zero_le _, rfl, Lib.hid (by rw [List.drop_zero]; exact HR.out.symm), H1⟩
  case round =>
    clear H1 HR
    obtain ⟨k, lt, L, rfl, rfl, hk, hLk, hS, hP⟩ := hrel
    have hLl : L.length ≤ 101 := by omega
    by_cases hlt : k < DD.length
    · obtain ⟨b, off, aj, cj, rfl, hblt, c0, hrj⟩ := (HRd.out.1.old hP.out.2).cell hlt
      have hb : (k : Int) < (DD.length : Int) := by omega
      have hmem : DD.getD k [] ∈ DD := by simp [hlt]
      have hz := HRd.out.2 _ hmem
      have hd := hS.out
      rw [ddrop hlt] at hd
      clear hmem hblt hS
      generalize DD.getD k [] = l at *
      have HC := Lib.hid (fun W (hb : Below wr.heap.size wr W) => daAsked_any l lt aj cj W (by omega) (hrj.old hb))
      cases hq : askedB lt l with
      | false =>
        have hA : visitRes lt l = none := by simp [visitRes, hq]
        rw [plL_none hA] at hd
        rw [hq] at HC
        subst hd
        clear hrj hA hq
        generalize l.length = ln at *
        go_wp2_with fail
        refine (HC.out _ (Below.refl _ _)).mono ?_; rintro e w3 ⟨rfl, b3⟩
        have H3 := Lib.hid (hP.out.keep b3); clear b3 hP c0
        go_wp2_with fail
        go_ret2
        exact ⟨.slice none 0 0, rfl, owns_nilL _ _ _, H3.out.2⟩
      | true =>
        have hv : visitRes lt l = okT (visitT lt lt l) := by simp [visitRes, hq, visit_throw]
        rw [hq] at HC
        obtain ⟨q1, q2, q3, q4, hg⟩ := asked_parts hq
        have HV := Lib.hid (fun W (hb : Below wr.heap.size wr W) => daVisit_any l lt aj cj W (by omega) (hrj.old hb) hg q1 q2)
        generalize ht : visitT lt lt l = tt at *
        obtain ⟨n, bq, ok⟩ := tt
        unfold tripV at HV
        clear hrj hq hg ht
        generalize hln : l.length = ln at *
        cases ok with
        | false =>
          have hA : visitRes lt l = none := hv
          rw [plL_none hA] at hd
          subst hd
          clear hv hA
          go_wp2_with fail
          refine (HC.out _ (Below.refl _ _)).mono ?_; rintro e w2 ⟨rfl, b2⟩
          have HB2 := Lib.hid b2; clear b2
          go_wp2_with fail
          refine (HV.out _ HB2.out).mono ?_; rintro e w3 ⟨rfl, b3⟩
          have H3 := Lib.hid ((hP.out.keep HB2.out).keep b3); clear b3 hP c0
          go_wp2_with fail
          go_ret2
          exact ⟨.slice none 0 0, rfl, owns_nilL _ _ _, H3.out.2⟩
        | true =>
          have hA : visitRes lt l = some (n, bq) := hv
          rw [plL_some hA] at hd
          clear hv hA hln
          go_wp2_with fail
          refine (HC.out _ (Below.refl _ _)).mono ?_; rintro e w2 ⟨rfl, b2⟩
          have HB2 := Lib.hid b2; clear b2
          go_wp2_with fail
          refine (HV.out _ HB2.out).mono ?_; rintro e w3 ⟨rfl, b3⟩
          have H3 := Lib.hid ((hP.out.keep HB2.out).keep b3); clear b3 hP c0
          obtain ⟨i0, hi, hz0, hz1, hz2⟩ := info_parts infoIntL
          have hP3 := H3.out
          have HLn : Hid (L.length ≤ 101) := Lib.hid hLl
          have HNi := new_int w3 n
          go_wp2_with (at_builtin; refine wpList_append_own_at _ rfl _ _ 28 rfl w.heap.size 3 i0 (.int .i64 0) 1 8 Try.underlying28 hi hz0 hz1 hz2 rfl (by decide) _ _ _ rfl (hP3.1.alloc _) ⟨w3.heap.size, 0, none⟩ 1 1 [.int .i64 n] rfl rfl HNi ?_ ?_ ?_ ?_ ?_)
          · first | rfl | (intro u hu; simp at hu; subst hu; rfl)
          · have := HLn.out; unfold maxLen; omega
          · have := HLn.out; omega
          · have := hP3.2.size; first | omega | (simp; omega)
          intro v' w7 hown7 hgrow _ _
          have H7 := Lib.hid (hP3.more n (by rw [hLk]; exact hown7) hgrow)
          clear hown7 hgrow hP3 HNi hi hz0 hz1 hz2 H3
          go_wp2_with fail
          go_roundw
          case rel => exact ⟨k + 1, n, L ++ [n], by go_num, rfl, by omega, by simp; omega, Lib.hid hd, H7⟩
          case measure => simp [intOf]; omega
    · obtain rfl : k = DD.length := by omega
      have hd := hS.out
      rw [List.drop_length, plL] at hd
      have HX := Lib.hid hd; clear hd hS
      go_wp2_with fail
      go_ret2
      exact ⟨_, by rw [← HX.out]; rfl, by rw [← HX.out]; exact hP.out.1, hP.out.2⟩

set_option maxHeartbeats 800000 in
theorem implLeg_bad (left : Int) (DD : DL) (hl : (DD.length : Int) ≤ 1000000000) (hb : inR left 0 1001 = false ∨ (100 : Int) < (DD.length : Int)) (a : Option Addr) (c : Nat) (w : World) :
    Calls Try.prog 40 #[.int .i64 left, .slice a DD.length c] w fun e w' => RowR [] false w e w' := by
  have HF := Lib.hid (isLeftL left)
  cases hq : inR left 0 1001 with
  | false =>
    rw [hq] at HF
    clear hq hb
    go_enter Try.func40, Try.ntmps40
    go_wp2_with fail
    refine (HF.out _).mono ?_; rintro e w1 ⟨rfl, rfl⟩
    go_wp2_with fail
    go_ret2
    exact ⟨.slice none 0 0, rfl, owns_nilL _ _ _, Below.refl _ _⟩
  | true =>
    have hb2 : (100 : Int) < (DD.length : Int) := by
      rcases hb with h | h
      · rw [hq] at h; cases h
      · exact h
    rw [hq] at HF
    clear hq hb
    go_enter Try.func40, Try.ntmps40
    go_wp2_with fail
    refine (HF.out _).mono ?_; rintro e w1 ⟨rfl, rfl⟩
    go_wp2_with fail
    go_ret2
    exact ⟨.slice none 0 0, rfl, owns_nilL _ _ _, Below.refl _ _⟩
theorem implLeg_any (left : Int) (DD : DL) (hl : (DD.length : Int) ≤ 1000000000) (hs : ∀ l ∈ DD, (l.length : Int) ≤ 1048576) (a : Option Addr) (c : Nat) (w : World) (h : SSR w a DD) :
    Calls Try.prog 40 #[.int .i64 left, .slice a DD.length c] w fun e w' => RowR (rowL (plR left DD)) (plR left DD).isSome w e w' := by
  unfold plR
  split
  · rename_i hc
    exact implLeg_good left DD hc.1 (by omega) hs a c w h
  · rename_i hc
    exact implLeg_bad left DD hl (by
      cases hq : inR left 0 1001 with
      | false => exact .inl rfl
      | true =>
        by_cases q : (DD.length : Int) ≤ 100
        · exact absurd ⟨hq, q⟩ hc
        · exact .inr (by omega)) a c w

set_option maxHeartbeats 800000 in
theorem specLeg_bad (left : Int) (DD : DL) (hl : (DD.length : Int) ≤ 1000000000) (hb : inR left 0 1001 = false ∨ (100 : Int) < (DD.length : Int)) (a : Option Addr) (c : Nat) (w : World) :
    Calls Try.prog 38 #[.int .i64 left, .slice a DD.length c] w fun e w' => RowR [] false w e w' := by
  have HF := Lib.hid (daLeftL left)
  cases hq : inR left 0 1001 with
  | false =>
    rw [hq] at HF
    clear hq hb
    go_enter Try.func38, Try.ntmps38
    go_wp2_with fail
    refine (HF.out _).mono ?_; rintro e w1 ⟨rfl, rfl⟩
    go_wp2_with fail
    go_ret2
    exact ⟨.slice none 0 0, rfl, owns_nilL _ _ _, Below.refl _ _⟩
  | true =>
    have hb2 : (100 : Int) < (DD.length : Int) := by
      rcases hb with h | h
      · rw [hq] at h; cases h
      · exact h
    rw [hq] at HF
    clear hq hb
    go_enter Try.func38, Try.ntmps38
    go_wp2_with fail
    refine (HF.out _).mono ?_; rintro e w1 ⟨rfl, rfl⟩
    go_wp2_with fail
    go_ret2
    exact ⟨.slice none 0 0, rfl, owns_nilL _ _ _, Below.refl _ _⟩
theorem specLeg_any (left : Int) (DD : DL) (hl : (DD.length : Int) ≤ 1000000000) (hs : ∀ l ∈ DD, (l.length : Int) ≤ 1048576) (a : Option Addr) (c : Nat) (w : World) (h : SSR w a DD) :
    Calls Try.prog 38 #[.int .i64 left, .slice a DD.length c] w fun e w' => RowR (rowL (plR left DD)) (plR left DD).isSome w e w' := by
  unfold plR
  split
  · rename_i hc
    exact specLeg_good left DD hc.1 (by omega) hs a c w h
  · rename_i hc
    exact specLeg_bad left DD hl (by
      cases hq : inR left 0 1001 with
      | false => exact .inl rfl
      | true =>
        by_cases q : (DD.length : Int) ≤ 100
        · exact absurd ⟨hq, q⟩ hc
        · exact .inr (by omega)) a c w
end Go.Proofs.Ytaplkciomagmiaa
