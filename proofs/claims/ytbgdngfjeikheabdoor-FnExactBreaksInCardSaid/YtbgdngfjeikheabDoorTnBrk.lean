/-
  Tennis: BreaksIn: the model and the program.
-/
import Derived.Test.YtbgdngfjeikheabDoorTnSetA
namespace Go.Proofs.YtbgdngfjeikheabDoor
open Go.RowKit
set_option linter.unusedVariables false
set_option linter.unusedSimpArgs false

/-- Ahead of each of the games the set is open, and its letter is a side's. -/
def OpenPre (G : List UInt8) : Prop := ∀ k, k < G.length → nearB (cntA (G.take k)) (cntB (G.take k)) = true ∧ overB (cntA (G.take k)) (cntB (G.take k)) = false ∧ cntA (G.take k) + cntB (G.take k) = k ∧ (G[k]? = some 97 ∨ G[k]? = some 98)
theorem pre_snoc {G : List UInt8} (c : UInt8) (hc : c = 97 ∨ c = 98) (h : OpenPre G) (hn : nearB (cntA G) (cntB G) = true) (ho : overB (cntA G) (cntB G) = false) (hl : (G.length : Int) = cntA G + cntB G) : OpenPre (G ++ [c]) := by
  intro k hk
  simp only [List.length_append, List.length_cons, List.length_nil] at hk
  by_cases hlt : k < G.length
  · rw [List.take_append_of_le_length (by omega), List.getElem?_append_left hlt]
    exact h k hlt
  · have : k = G.length := by omega
    subst this
    rw [List.take_append_of_le_length (Nat.le_refl _), List.take_length]
    refine ⟨hn, ho, by omega, ?_⟩
    rcases hc with rfl | rfl <;> simp
theorem pre_inv : ∀ (f : Nat) (G rest : List UInt8), nearB (cntA G) (cntB G) = true → 14 ≤ (f : Int) + cntA G + cntB G → (G.length : Int) = cntA G + cntB G → OpenPre G → OpenPre (setS f G rest).1
  | 0, G, rest, hn, hf, _, _ => by have := near_bd hn; simp at hf; omega
  | f + 1, G, rest, hn, hf, hl, hp => by
    cases ho : overB (cntA G) (cntB G)
    · obtain ⟨n1, n2⟩ := near_step hn ho
      cases he : (playS (raceTo (cntA G) (cntB G)) 0 0 rest).2.2.2
      · rw [setS_open ho he]; exact hp
      · rw [setS_next ho he]
        by_cases hxy : (playS (raceTo (cntA G) (cntB G)) 0 0 rest).2.1 < (playS (raceTo (cntA G) (cntB G)) 0 0 rest).1
        · rw [if_pos hxy]
          have ea : cntA (G ++ [97]) = cntA G + 1 := by rw [cntA_app]; rfl
          have eb : cntB (G ++ [97]) = cntB G := by rw [cntB_app]; show cntB G + 0 = _; omega
          exact pre_inv f (G ++ [97]) _ (by rw [ea, eb]; exact n1) (by rw [ea, eb]; omega) (by rw [ea, eb]; simp; omega) (pre_snoc 97 (Or.inl rfl) hp hn ho hl)
        · rw [if_neg hxy]
          have ea : cntA (G ++ [98]) = cntA G := by rw [cntA_app]; show cntA G + 0 = _; omega
          have eb : cntB (G ++ [98]) = cntB G + 1 := by rw [cntB_app]; rfl
          exact pre_inv f (G ++ [98]) _ (by rw [ea, eb]; exact n2) (by rw [ea, eb]; omega) (by rw [ea, eb]; simp; omega) (pre_snoc 98 (Or.inr rfl) hp hn ho hl)
    · rw [setS_over ho]; exact hp
theorem games_pre (s : ByteArray) : OpenPre (gamesL s) := pre_inv 14 [] s.data.toList near_00 (by decide) (by decide) (fun k hk => by simp at hk)

/-- A break at place k, of each side. -/
def dA (k : Nat) (c : UInt8) : Int := if k % 2 = 1 ∧ c = 97 ∧ k < 12 then 1 else 0
def dB (k : Nat) (c : UInt8) : Int := if k % 2 = 0 ∧ c = 98 ∧ k < 12 then 1 else 0
def brA (t : ByteArray) : Nat → Int
  | 0 => 0
  | k + 1 => brA t k + dA k (t.data.toList[k]?.getD 0)
def brB (t : ByteArray) : Nat → Int
  | 0 => 0
  | k + 1 => brB t k + dB k (t.data.toList[k]?.getD 0)
theorem br_bd (t : ByteArray) : ∀ k : Nat, 0 ≤ brA t k ∧ brA t k ≤ k ∧ 0 ≤ brB t k ∧ brB t k ≤ k
  | 0 => by simp [brA, brB]
  | k + 1 => by
    have := br_bd t k
    have h1 : 0 ≤ dA k (t.data.toList[k]?.getD 0) ∧ dA k (t.data.toList[k]?.getD 0) ≤ 1 := by unfold dA; split <;> omega
    have h2 : 0 ≤ dB k (t.data.toList[k]?.getD 0) ∧ dB k (t.data.toList[k]?.getD 0) ≤ 1 := by unfold dB; split <;> omega
    simp only [brA, brB]
    omega
theorem br_step {t : ByteArray} {k : Nat} (h : k < t.size) : brA t (k + 1) = brA t k + dA k t[k] ∧ brB t (k + 1) = brB t k + dB k t[k] := by
  have e : t.data.toList[k]?.getD 0 = t[k] := by
    rw [List.getElem?_eq_getElem (by simpa using h)]; rfl
  simp only [brA, brB, e]
  exact ⟨trivial, trivial⟩
theorem pre_at {t : ByteArray} (h : OpenPre t.data.toList) {k : Nat} (hk : k < t.size) :
    0 ≤ cntA (t.data.toList.take k) ∧ cntA (t.data.toList.take k) ≤ 13 ∧ 0 ≤ cntB (t.data.toList.take k) ∧ cntB (t.data.toList.take k) ≤ 13 ∧ k ≤ 12 ∧ bothSix (cntA (t.data.toList.take k)) (cntB (t.data.toList.take k)) = decide (k = 12) ∧ (t[k] = 97 ∨ t[k] = 98) ∧
    cntA (t.data.toList.take (k + 1)) = cntA (t.data.toList.take k) + upA t[k] ∧ cntB (t.data.toList.take (k + 1)) = cntB (t.data.toList.take k) + upB t[k] := by
  obtain ⟨h1, h2, h3, h4⟩ := h k (by rw [len_list]; exact hk)
  obtain ⟨a1, a2, a3, a4⟩ := near_open h1 h2
  have e : t.data.toList[k]? = some t[k] := by rw [List.getElem?_eq_getElem (by simpa using hk)]; rfl
  rw [e] at h4
  have h5 : t[k] = 97 ∨ t[k] = 98 := by rcases h4 with q | q <;> simp at q <;> simp [q]
  refine ⟨a1, by omega, a3, by omega, by omega, ?_, h5, ?_, ?_⟩
  · rw [Bool.eq_iff_iff]; simp only [bothSix, Bool.and_eq_true, beq_iff_eq, decide_eq_true_eq]; omega
  · rw [take_snoc t k hk, cntA_snoc]
  · rw [take_snoc t k hk]
    unfold cntB upB
    rw [List.count_append]
    rcases h5 with q | q <;> rw [q] <;> simp

theorem cell_two {w : World} {g h : Nat} {v u x : Value} (hc : w.cell? ⟨g, 0, none⟩ = some v) (hne : g ≠ h) : ((w.setCell ⟨h, 0, none⟩ u).setCell ⟨h, 1, none⟩ x).cell? ⟨g, 0, none⟩ = some v := by
  rw [World.cell?_setCell_other _ _ _ _ (by intro e; injection e; omega), World.cell?_setCell_other _ _ _ _ (by intro e; injection e; omega)]
  exact hc

set_option maxHeartbeats 400000 in
theorem serverInTurn_any (q : Nat) (w : World) :
    Calls Tryd.prog 63 #[.int .i64 q] w fun e w' => e = .returned (.string ⟨#[if q % 2 = 0 then 97 else 98]⟩) ∧ w = w' := by
  by_cases h : q % 2 = 0
  · rw [if_pos h]
    have h1 : (((q : Int) % 2) == 0) = true := by simp; omega
    have h2 : (Int.tmod (q : Int) 2 == 0) = true := by rw [Int.tmod_eq_emod_of_nonneg (by omega)]; exact h1
    go_enter Tryd.func63, Tryd.ntmps63
    go_wp2
    go_ret
    exact ⟨rfl, rfl⟩
  · rw [if_neg h]
    have h1 : (((q : Int) % 2) == 0) = false := by simp; omega
    have h2 : (Int.tmod (q : Int) 2 == 0) = false := by rw [Int.tmod_eq_emod_of_nonneg (by omega)]; exact h1
    go_enter Tryd.func63, Tryd.ntmps63
    go_wp2
    go_ret
    exact ⟨rfl, rfl⟩

/-- At the head of each round. -/
def BrAt (t : ByteArray) (g b : Nat) (w : World) (k : Nat) (wr : World) : Prop :=
  k ≤ t.size ∧ wr.cell? ⟨g, 0, none⟩ = some (.string t) ∧ Pair wr (g + 1) (cntA (t.data.toList.take k)) (cntB (t.data.toList.take k)) ∧ Pair wr (g + 2) (brA t k) (brB t k) ∧ Below b w wr

set_option maxHeartbeats 3200000 in
theorem implBrk_any (s t : ByteArray) (x y : Int) (o : Bool) (p0 p1 : Addr) (w : World) (HPS : Hid (∀ w, Laid w p0 p1 → Calls Tryd.prog 56 #[.string s] w fun e w' => e = .returned (.tuple #[.agg #[.string t, .int .i64 x, .int .i64 y], .bool o]) ∧ Below w.heap.size w w'))
    (hpre : OpenPre t.data.toList) (ht : t.size ≤ 13) (L : Laid w p0 p1) :
    Calls Tryd.prog 26 #[.string s] w fun e w' => e = .returned (.tuple #[.int .i64 (brA t t.size), .int .i64 (brB t t.size), .bool o]) ∧ Below w.heap.size w w' := by
  have HL := Lib.hid L; clear L
  have HPRE := Lib.hid hpre; clear hpre
  go_enter Tryd.func26, Tryd.ntmps26
  go_wp2_with fail
  refine (HPS.out _ HL.out).mono ?_; rintro e w1 ⟨rfl, b1⟩
  have hc0 : (((w1.alloc (.cells #[.string t, .int .i64 x, .int .i64 y] 66)).alloc (.cells #[.int .i64 0, .int .i64 0] 63)).alloc (.cells #[.int .i64 0, .int .i64 0] 63)).cell? ⟨w1.heap.size, 0, none⟩ = some (.string t) := by
    have q0 : ((w1.alloc (.cells #[.string t, .int .i64 x, .int .i64 y] 66)).alloc (.cells #[.int .i64 0, .int .i64 0] 63)).cell? ⟨w1.heap.size, 0, none⟩ = some (.string t) := cell_of_row _ _ 0 _ _ _ (heap_alloc2_old w1 _ _)
    rw [World.cell?_alloc_past _ _ _ (by simp; omega)]; exact q0
  have hp1 : Pair (((w1.alloc (.cells #[.string t, .int .i64 x, .int .i64 y] 66)).alloc (.cells #[.int .i64 0, .int .i64 0] 63)).alloc (.cells #[.int .i64 0, .int .i64 0] 63)) (w1.heap.size + 1) 0 0 := by
    have := (Pair.new (w1.alloc (.cells #[.string t, .int .i64 x, .int .i64 y] 66)) 0 0 63).keep ((Below.refl _ _).alloc (Nat.le_refl _) (.cells #[.int .i64 0, .int .i64 0] 63))
    rw [World.size_alloc] at this; exact this
  have hp2 : Pair (((w1.alloc (.cells #[.string t, .int .i64 x, .int .i64 y] 66)).alloc (.cells #[.int .i64 0, .int .i64 0] 63)).alloc (.cells #[.int .i64 0, .int .i64 0] 63)) (w1.heap.size + 2) 0 0 := by
    have := Pair.new ((w1.alloc (.cells #[.string t, .int .i64 x, .int .i64 y] 66)).alloc (.cells #[.int .i64 0, .int .i64 0] 63)) 0 0 63
    rw [World.size_alloc, World.size_alloc] at this; exact this
  have hb3 : Below w.heap.size w (((w1.alloc (.cells #[.string t, .int .i64 x, .int .i64 y] 66)).alloc (.cells #[.int .i64 0, .int .i64 0] 63)).alloc (.cells #[.int .i64 0, .int .i64 0] 63)) :=
    ((b1.alloc b1.size _).alloc (by have := b1.size; simp; omega) _).alloc (by have := b1.size; simp; omega) _
  have hgw := b1.size
  have HST : Hid (BrAt t w1.heap.size w.heap.size w 0 (((w1.alloc (.cells #[.string t, .int .i64 x, .int .i64 y] 66)).alloc (.cells #[.int .i64 0, .int .i64 0] 63)).alloc (.cells #[.int .i64 0, .int .i64 0] 63))) :=
    ⟨Nat.zero_le _, hc0, hp1, hp2, hb3⟩
  clear hp1 hp2 hb3 b1
  have hsz : (((w1.alloc (.cells #[.string t, .int .i64 x, .int .i64 y] 66)).alloc (.cells #[.int .i64 0, .int .i64 0] 63)).alloc (.cells #[.int .i64 0, .int .i64 0] 63)).heap.size = w1.heap.size + 3 := by simp
  go_wp2_with fail
  generalize hW : (((w1.alloc (.cells #[.string t, .int .i64 x, .int .i64 y] 66)).alloc (.cells #[.int .i64 0, .int .i64 0] 63)).alloc (.cells #[.int .i64 0, .int .i64 0] 63)) = w3 at *
  generalize w1.heap.size = g at *
  clear hW hsz hc0
  go_loopw [19] (fun i wr => ∃ k : Nat, i = .int .i64 k ∧ Hid (BrAt t g w.heap.size w k wr)) (fun i _ => t.size - (intOf i).toNat)
  case atStart => exact ⟨0, rfl, HST⟩
  case round =>
    clear HST
    obtain ⟨k, rfl, HR⟩ := hrel
    have hk := HR.out.1
    have c0 := HR.out.2.1
    by_cases hlt : k < t.size
    · obtain ⟨a1, a2, b1, b2, k12, hsix, hc, ua, ub⟩ := pre_at HPRE.out hlt
      obtain ⟨sa, sb⟩ := br_step hlt
      have bd := br_bd t k
      have hs1 := slice_one t k hlt
      have hpg : Pair wr (g + 1) (cntA (t.data.toList.take k)) (cntB (t.data.toList.take k)) := HR.out.2.2.1
      have hpb : Pair wr (g + 2) (brA t k) (brB t k) := HR.out.2.2.2.1
      have hbel : Below w.heap.size w wr := HR.out.2.2.2.2
      have HU := Lib.hid (And.intro ua (And.intro ub (And.intro sa sb))); clear ua ub sa sb HR
      generalize cntA (t.data.toList.take k) = A at *
      generalize cntB (t.data.toList.take k) = B at *
      generalize brA t k = X at *
      generalize brB t k = Y at *
      generalize t[k] = c at *
      have HP := Lib.hid (And.intro c0 (And.intro hpg (And.intro hpb hbel)))
      have zz := hpb.1
      obtain ⟨z3, g0, g1, -, -⟩ := hpg
      clear hpb hbel
      by_cases h12 : k = 12
      · have hx : bothSix A B = true := by rw [hsix]; simp [h12]
        have HX := Lib.hid hx; clear hx hsix
        have hd : dA k c = 0 ∧ dB k c = 0 := by subst h12; simp [dA, dB]
        have HD := Lib.hid hd; clear hd h12
        go_wp2_with fail
        refine (isTieNext_any A B _).mono ?_; rintro e w4 ⟨rfl, q4⟩
        rw [HX.out]
        have z4 := q4.size
        have HP4 := Lib.hid (And.intro (show w4.cell? ⟨g, 0, none⟩ = some (.string t) from by rw [q4.cell (p := ⟨g, 0, none⟩) (by show g < _; omega)]; exact HP.out.1) (And.intro (HP.out.2.1.keep q4) (And.intro (HP.out.2.2.1.keep q4) (HP.out.2.2.2.trans (q4.mono HP.out.2.2.2.size)))))
        clear c0 g0 g1 q4 HP
        obtain ⟨-, g0, g1, -, -⟩ := HP4.out.2.1
        go_wp2_with fail
        refine (plus_any A B c _ a1 (by omega) b1 (by omega)).mono ?_; rintro e w5 ⟨rfl, q5⟩
        have z5 := q5.size
        have HP5 := Lib.hid (And.intro (show w5.cell? ⟨g, 0, none⟩ = some (.string t) from by rw [q5.cell (p := ⟨g, 0, none⟩) (by show g < _; omega)]; exact HP4.out.1) (And.intro (HP4.out.2.1.keep q5) (And.intro (HP4.out.2.2.1.keep q5) (HP4.out.2.2.2.trans (q5.mono HP4.out.2.2.2.size)))))
        clear g0 g1 q5 HP4
        obtain ⟨-, g0, g1, f0, f1⟩ := HP5.out.2.1
        go_wp2_with fail
        clear g0 g1 f0 f1
        go_roundw
        case rel =>
          refine ⟨k + 1, by go_num, by omega, cell_two HP5.out.1 (by omega), ?_, ?_, (HP5.out.2.2.2.setCell (show w.heap.size ≤ g + 1 by omega) _).setCell (show w.heap.size ≤ g + 1 by omega) _⟩
          · rw [HU.out.1, HU.out.2.1]; exact HP5.out.2.1.put _ _
          · rw [HU.out.2.2.1, HU.out.2.2.2, HD.out.1, HD.out.2, Int.add_zero, Int.add_zero]; exact pair_other HP5.out.2.2.1 (by omega)
        case measure => simp [intOf]; omega
      · have hx : bothSix A B = false := by rw [hsix]; simp [h12]
        have HX := Lib.hid hx; clear hx hsix
        have hlt12 : k < 12 := by omega
        clear h12
        rcases Nat.mod_two_eq_zero_or_one k with hpar | hpar
        · rcases hc with rfl | rfl
          · have hd : dA k 97 = 0 ∧ dB k 97 = 0 := by simp [dA, dB, hpar, hlt12]
            have hu : upA 97 = 1 ∧ upB 97 = 0 := by decide
            have hsv : (if k % 2 = 0 then (97 : UInt8) else 98) = 97 := by rw [hpar]; rfl
            have HD := Lib.hid (And.intro hd (And.intro hu hsv)); clear hd hu hsv
            go_wp2_with fail
            refine (isTieNext_any A B _).mono ?_; rintro e w4 ⟨rfl, q4⟩
            rw [HX.out]
            have z4 := q4.size
            have HP4 := Lib.hid (And.intro (show w4.cell? ⟨g, 0, none⟩ = some (.string t) from by rw [q4.cell (p := ⟨g, 0, none⟩) (by show g < _; omega)]; exact HP.out.1) (And.intro (HP.out.2.1.keep q4) (And.intro (HP.out.2.2.1.keep q4) (HP.out.2.2.2.trans (q4.mono HP.out.2.2.2.size)))))
            clear c0 g0 g1 q4 HP
            go_wp2_with fail
            refine (serverInTurn_any k _).mono ?_; rintro e w4b ⟨rfl, rfl⟩
            rw [HD.out.2.2]
            obtain ⟨-, g0, g1, -, -⟩ := HP4.out.2.1
            go_wp2_with fail
            refine (plus_any A B 97 _ a1 (by omega) b1 (by omega)).mono ?_; rintro e w7 ⟨rfl, q7⟩
            have z7 := q7.size
            have HP7 := Lib.hid (And.intro (show w7.cell? ⟨g, 0, none⟩ = some (.string t) from by rw [q7.cell (p := ⟨g, 0, none⟩) (by show g < _; omega)]; exact HP4.out.1) (And.intro (HP4.out.2.1.keep q7) (And.intro (HP4.out.2.2.1.keep q7) (HP4.out.2.2.2.trans (q7.mono HP4.out.2.2.2.size)))))
            clear g0 g1 q7 HP4
            obtain ⟨-, g0, g1, f0, f1⟩ := HP7.out.2.1
            go_wp2_with fail
            clear g0 g1 f0 f1
            go_roundw
            case rel =>
              refine ⟨k + 1, by go_num, by omega, cell_two HP7.out.1 (by omega), ?_, ?_, (HP7.out.2.2.2.setCell (show w.heap.size ≤ g + 1 by omega) _).setCell (show w.heap.size ≤ g + 1 by omega) _⟩
              · rw [HU.out.1, HU.out.2.1]; exact HP7.out.2.1.put _ _
              · rw [HU.out.2.2.1, HU.out.2.2.2, HD.out.1.1, HD.out.1.2, Int.add_zero, Int.add_zero]; exact pair_other HP7.out.2.2.1 (by omega)
            case measure => simp [intOf]; omega
          · have hd : dA k 98 = 0 ∧ dB k 98 = 1 := by simp [dA, dB, hpar, hlt12]
            have hu : upA 98 = 0 ∧ upB 98 = 1 := by decide
            have hsv : (if k % 2 = 0 then (97 : UInt8) else 98) = 97 := by rw [hpar]; rfl
            have HD := Lib.hid (And.intro hd (And.intro hu hsv)); clear hd hu hsv
            go_wp2_with fail
            refine (isTieNext_any A B _).mono ?_; rintro e w4 ⟨rfl, q4⟩
            rw [HX.out]
            have z4 := q4.size
            have HP4 := Lib.hid (And.intro (show w4.cell? ⟨g, 0, none⟩ = some (.string t) from by rw [q4.cell (p := ⟨g, 0, none⟩) (by show g < _; omega)]; exact HP.out.1) (And.intro (HP.out.2.1.keep q4) (And.intro (HP.out.2.2.1.keep q4) (HP.out.2.2.2.trans (q4.mono HP.out.2.2.2.size)))))
            clear c0 g0 g1 q4 HP
            go_wp2_with fail
            refine (serverInTurn_any k _).mono ?_; rintro e w4b ⟨rfl, rfl⟩
            rw [HD.out.2.2]
            obtain ⟨-, g0, g1, -, -⟩ := HP4.out.2.2.1
            go_wp2_with fail
            refine (plus_any X Y 98 _ bd.1 (by omega) bd.2.2.1 (by omega)).mono ?_; rintro e w5 ⟨rfl, q5⟩
            have z5 := q5.size
            have HP5 := Lib.hid (And.intro (show w5.cell? ⟨g, 0, none⟩ = some (.string t) from by rw [q5.cell (p := ⟨g, 0, none⟩) (by show g < _; omega)]; exact HP4.out.1) (And.intro (HP4.out.2.1.keep q5) (And.intro (HP4.out.2.2.1.keep q5) (HP4.out.2.2.2.trans (q5.mono HP4.out.2.2.2.size)))))
            clear g0 g1 q5 HP4
            obtain ⟨-, g0, g1, f0, f1⟩ := HP5.out.2.2.1
            have HQ := Lib.hid (And.intro (cell_two (h := g + 2) (u := .int .i64 (X + upA 98)) (x := .int .i64 (Y + upB 98)) HP5.out.1 (by omega)) (And.intro (pair_other (h := g + 2) (u := .int .i64 (X + upA 98)) (v := .int .i64 (Y + upB 98)) HP5.out.2.1 (by omega)) (And.intro (HP5.out.2.2.1.put (X + upA 98) (Y + upB 98)) ((HP5.out.2.2.2.setCell (p := ⟨g + 2, 0, none⟩) (show w.heap.size ≤ g + 2 by omega) (.int .i64 (X + upA 98))).setCell (p := ⟨g + 2, 1, none⟩) (show w.heap.size ≤ g + 2 by omega) (.int .i64 (Y + upB 98))))))
            have d0 := HQ.out.2.1.2.1; have d1 := HQ.out.2.1.2.2.1; have zq := HQ.out.2.1.1
            go_wp2_with fail
            clear g0 g1 f0 f1
            generalize ((w5.setCell ⟨g + 2, 0, none⟩ (.int .i64 (X + upA 98))).setCell ⟨g + 2, 1, none⟩ (.int .i64 (Y + upB 98))) = w6 at *
            clear HP5
            refine (plus_any A B 98 _ a1 (by omega) b1 (by omega)).mono ?_; rintro e w7 ⟨rfl, q7⟩
            clear d0 d1
            have z7 := q7.size
            have HP7 := Lib.hid (And.intro (show w7.cell? ⟨g, 0, none⟩ = some (.string t) from by rw [q7.cell (p := ⟨g, 0, none⟩) (by show g < _; omega)]; exact HQ.out.1) (And.intro (HQ.out.2.1.keep q7) (And.intro (HQ.out.2.2.1.keep q7) (HQ.out.2.2.2.trans (q7.mono HQ.out.2.2.2.size)))))
            clear q7 HQ
            obtain ⟨-, g0, g1, f0, f1⟩ := HP7.out.2.1
            go_wp2_with fail
            clear g0 g1 f0 f1
            go_roundw
            case rel =>
              refine ⟨k + 1, by go_num, by omega, cell_two HP7.out.1 (by omega), ?_, ?_, (HP7.out.2.2.2.setCell (show w.heap.size ≤ g + 1 by omega) _).setCell (show w.heap.size ≤ g + 1 by omega) _⟩
              · rw [HU.out.1, HU.out.2.1]; exact HP7.out.2.1.put _ _
              · rw [HU.out.2.2.1, HU.out.2.2.2, HD.out.1.1, HD.out.1.2]
                have hq := HP7.out.2.2.1
                rw [HD.out.2.1.1, HD.out.2.1.2] at hq
                exact pair_other hq (by omega)
            case measure => simp [intOf]; omega
        · rcases hc with rfl | rfl
          · have hd : dA k 97 = 1 ∧ dB k 97 = 0 := by simp [dA, dB, hpar, hlt12]
            have hu : upA 97 = 1 ∧ upB 97 = 0 := by decide
            have hsv : (if k % 2 = 0 then (97 : UInt8) else 98) = 98 := by rw [hpar]; rfl
            have HD := Lib.hid (And.intro hd (And.intro hu hsv)); clear hd hu hsv
            go_wp2_with fail
            refine (isTieNext_any A B _).mono ?_; rintro e w4 ⟨rfl, q4⟩
            rw [HX.out]
            have z4 := q4.size
            have HP4 := Lib.hid (And.intro (show w4.cell? ⟨g, 0, none⟩ = some (.string t) from by rw [q4.cell (p := ⟨g, 0, none⟩) (by show g < _; omega)]; exact HP.out.1) (And.intro (HP.out.2.1.keep q4) (And.intro (HP.out.2.2.1.keep q4) (HP.out.2.2.2.trans (q4.mono HP.out.2.2.2.size)))))
            clear c0 g0 g1 q4 HP
            go_wp2_with fail
            refine (serverInTurn_any k _).mono ?_; rintro e w4b ⟨rfl, rfl⟩
            rw [HD.out.2.2]
            obtain ⟨-, g0, g1, -, -⟩ := HP4.out.2.2.1
            go_wp2_with fail
            refine (plus_any X Y 97 _ bd.1 (by omega) bd.2.2.1 (by omega)).mono ?_; rintro e w5 ⟨rfl, q5⟩
            have z5 := q5.size
            have HP5 := Lib.hid (And.intro (show w5.cell? ⟨g, 0, none⟩ = some (.string t) from by rw [q5.cell (p := ⟨g, 0, none⟩) (by show g < _; omega)]; exact HP4.out.1) (And.intro (HP4.out.2.1.keep q5) (And.intro (HP4.out.2.2.1.keep q5) (HP4.out.2.2.2.trans (q5.mono HP4.out.2.2.2.size)))))
            clear g0 g1 q5 HP4
            obtain ⟨-, g0, g1, f0, f1⟩ := HP5.out.2.2.1
            have HQ := Lib.hid (And.intro (cell_two (h := g + 2) (u := .int .i64 (X + upA 97)) (x := .int .i64 (Y + upB 97)) HP5.out.1 (by omega)) (And.intro (pair_other (h := g + 2) (u := .int .i64 (X + upA 97)) (v := .int .i64 (Y + upB 97)) HP5.out.2.1 (by omega)) (And.intro (HP5.out.2.2.1.put (X + upA 97) (Y + upB 97)) ((HP5.out.2.2.2.setCell (p := ⟨g + 2, 0, none⟩) (show w.heap.size ≤ g + 2 by omega) (.int .i64 (X + upA 97))).setCell (p := ⟨g + 2, 1, none⟩) (show w.heap.size ≤ g + 2 by omega) (.int .i64 (Y + upB 97))))))
            have d0 := HQ.out.2.1.2.1; have d1 := HQ.out.2.1.2.2.1; have zq := HQ.out.2.1.1
            go_wp2_with fail
            clear g0 g1 f0 f1
            generalize ((w5.setCell ⟨g + 2, 0, none⟩ (.int .i64 (X + upA 97))).setCell ⟨g + 2, 1, none⟩ (.int .i64 (Y + upB 97))) = w6 at *
            clear HP5
            refine (plus_any A B 97 _ a1 (by omega) b1 (by omega)).mono ?_; rintro e w7 ⟨rfl, q7⟩
            clear d0 d1
            have z7 := q7.size
            have HP7 := Lib.hid (And.intro (show w7.cell? ⟨g, 0, none⟩ = some (.string t) from by rw [q7.cell (p := ⟨g, 0, none⟩) (by show g < _; omega)]; exact HQ.out.1) (And.intro (HQ.out.2.1.keep q7) (And.intro (HQ.out.2.2.1.keep q7) (HQ.out.2.2.2.trans (q7.mono HQ.out.2.2.2.size)))))
            clear q7 HQ
            obtain ⟨-, g0, g1, f0, f1⟩ := HP7.out.2.1
            go_wp2_with fail
            clear g0 g1 f0 f1
            go_roundw
            case rel =>
              refine ⟨k + 1, by go_num, by omega, cell_two HP7.out.1 (by omega), ?_, ?_, (HP7.out.2.2.2.setCell (show w.heap.size ≤ g + 1 by omega) _).setCell (show w.heap.size ≤ g + 1 by omega) _⟩
              · rw [HU.out.1, HU.out.2.1]; exact HP7.out.2.1.put _ _
              · rw [HU.out.2.2.1, HU.out.2.2.2, HD.out.1.1, HD.out.1.2]
                have hq := HP7.out.2.2.1
                rw [HD.out.2.1.1, HD.out.2.1.2] at hq
                exact pair_other hq (by omega)
            case measure => simp [intOf]; omega
          · have hd : dA k 98 = 0 ∧ dB k 98 = 0 := by simp [dA, dB, hpar, hlt12]
            have hu : upA 98 = 0 ∧ upB 98 = 1 := by decide
            have hsv : (if k % 2 = 0 then (97 : UInt8) else 98) = 98 := by rw [hpar]; rfl
            have HD := Lib.hid (And.intro hd (And.intro hu hsv)); clear hd hu hsv
            go_wp2_with fail
            refine (isTieNext_any A B _).mono ?_; rintro e w4 ⟨rfl, q4⟩
            rw [HX.out]
            have z4 := q4.size
            have HP4 := Lib.hid (And.intro (show w4.cell? ⟨g, 0, none⟩ = some (.string t) from by rw [q4.cell (p := ⟨g, 0, none⟩) (by show g < _; omega)]; exact HP.out.1) (And.intro (HP.out.2.1.keep q4) (And.intro (HP.out.2.2.1.keep q4) (HP.out.2.2.2.trans (q4.mono HP.out.2.2.2.size)))))
            clear c0 g0 g1 q4 HP
            go_wp2_with fail
            refine (serverInTurn_any k _).mono ?_; rintro e w4b ⟨rfl, rfl⟩
            rw [HD.out.2.2]
            obtain ⟨-, g0, g1, -, -⟩ := HP4.out.2.1
            go_wp2_with fail
            refine (plus_any A B 98 _ a1 (by omega) b1 (by omega)).mono ?_; rintro e w7 ⟨rfl, q7⟩
            have z7 := q7.size
            have HP7 := Lib.hid (And.intro (show w7.cell? ⟨g, 0, none⟩ = some (.string t) from by rw [q7.cell (p := ⟨g, 0, none⟩) (by show g < _; omega)]; exact HP4.out.1) (And.intro (HP4.out.2.1.keep q7) (And.intro (HP4.out.2.2.1.keep q7) (HP4.out.2.2.2.trans (q7.mono HP4.out.2.2.2.size)))))
            clear g0 g1 q7 HP4
            obtain ⟨-, g0, g1, f0, f1⟩ := HP7.out.2.1
            go_wp2_with fail
            clear g0 g1 f0 f1
            go_roundw
            case rel =>
              refine ⟨k + 1, by go_num, by omega, cell_two HP7.out.1 (by omega), ?_, ?_, (HP7.out.2.2.2.setCell (show w.heap.size ≤ g + 1 by omega) _).setCell (show w.heap.size ≤ g + 1 by omega) _⟩
              · rw [HU.out.1, HU.out.2.1]; exact HP7.out.2.1.put _ _
              · rw [HU.out.2.2.1, HU.out.2.2.2, HD.out.1.1, HD.out.1.2, Int.add_zero, Int.add_zero]; exact pair_other HP7.out.2.2.1 (by omega)
            case measure => simp [intOf]; omega
    · have hke : k = t.size := by omega
      subst hke
      have hpb : Pair wr (g + 2) (brA t t.size) (brB t t.size) := HR.out.2.2.2.1
      have HB : Hid (Below w.heap.size w wr) := HR.out.2.2.2.2
      obtain ⟨z3, g0, g1, -, -⟩ := hpb
      clear HR
      generalize hX : brA t t.size = X at *
      generalize hY : brB t t.size = Y at *
      have HXY := Lib.hid (And.intro hX hY); clear hX hY
      go_wp2_with fail
      go_quiet (fail)
      go_wp2
      refine bodyPost_ret (v := .tuple #[.int .i64 X, .int .i64 Y, .bool o]) (by simp [results, Tryd.results26, go_sem]) rfl ⟨by rw [HXY.out.1, HXY.out.2], below_drewN HB.out _⟩

theorem br_end {t : ByteArray} (ht : t.size ≤ 13) (h : 12 < t.size) : brA t t.size = brA t 12 ∧ brB t t.size = brB t 12 := by
  have e : t.size = 12 + 1 := by omega
  rw [e]
  simp [brA, brB, dA, dB]

set_option maxHeartbeats 1600000 in
theorem specBrk_any (s t : ByteArray) (m : Int) (u : ByteArray) (w : World) (hs : (s.size : Int) ≤ 1000000000000)
    (HG : Hid (∀ w, Calls Tryd.prog 55 #[.string s] w fun e w' => e = .returned (.bool true) ∧ Below w.heap.size w w'))
    (HS : Hid (∀ w, Calls Tryd.prog 57 #[.string s] w fun e w' => e = .returned (.tuple #[.string t, .int .i64 m, .string u, .bool true]) ∧ Below w.heap.size w w'))
    (hpre : OpenPre t.data.toList) (ht : t.size ≤ 13) :
    Calls Tryd.prog 25 #[.string s] w fun e w' => e = .returned (.tuple #[.int .i64 (brA t t.size), .int .i64 (brB t t.size), .bool true]) ∧ Below w.heap.size w w' := by
  have HPRE := Lib.hid hpre; clear hpre
  have HEND := Lib.hid (fun h => @br_end t ht h)
  go_enter Tryd.func25, Tryd.ntmps25
  go_wp2_with fail
  refine (HG.out _).mono ?_; rintro e w1 ⟨rfl, b1⟩
  go_wp2_with fail
  refine (HS.out _).mono ?_; rintro e w2 ⟨rfl, b2⟩
  have HB2 := Lib.hid (b1.trans (b2.mono b1.size)); clear b1 b2
  go_wp2_with fail
  go_loopw [9, 10, 11] (fun a b i wr => ∃ k : Nat, a = .int .i64 (brA t k) ∧ b = .int .i64 (brB t k) ∧ i = .int .i64 k ∧ k ≤ t.size ∧ k ≤ 12 ∧ Hid (Below w.heap.size w wr)) (fun _ _ i _ => t.size - (intOf i).toNat)
  case atStart => exact ⟨0, rfl, rfl, rfl, Nat.zero_le _, by omega, HB2⟩
  case round =>
    clear HB2
    obtain ⟨k, rfl, rfl, rfl, hk, h12, HB⟩ := hrel
    by_cases hlt : k < t.size
    · by_cases hk12 : k = 12
      · subst hk12
        obtain ⟨q1, q2⟩ := HEND.out hlt
        have HQ := Lib.hid (And.intro q1 q2); clear q1 q2
        have hlt' : (12 : Int) < (t.size : Int) := by omega
        generalize brA t 12 = X at *
        generalize brB t 12 = Y at *
        go_wp2_with fail
        refine bodyPost_ret (v := .tuple #[.int .i64 X, .int .i64 Y, .bool true]) (by simp [results, Tryd.results25, go_sem]) rfl ⟨by rw [HQ.out.1, HQ.out.2], HB.out⟩
      · have hlt12 : k < 12 := by omega
        obtain ⟨-, -, -, -, -, -, hc, -, -⟩ := pre_at HPRE.out hlt
        obtain ⟨sa, sb⟩ := br_step hlt
        have bd := br_bd t k
        have HS2 := Lib.hid (And.intro sa sb); clear sa sb
        generalize brA t k = X at *
        generalize brB t k = Y at *
        clear hk12
        rcases Nat.mod_two_eq_zero_or_one k with hpar | hpar
        · rcases hc with hc | hc
          · have hd : dA k t[k] = 0 ∧ dB k t[k] = 0 := by rw [hc]; simp [dA, dB, hpar, hlt12]
            have e97 : ((t[k].toNat : Int) == 97) = true := by rw [hc]; rfl
            have e98 : ((t[k].toNat : Int) == 98) = false := by rw [hc]; rfl
            have m0 : (((k : Int) % 2) == 0) = true := by simp; omega
            have m1 : (((k : Int) % 2) == 1) = false := by simp; omega
            have n0 : (Int.tmod (k : Int) 2 == 0) = true := by rw [Int.tmod_eq_emod_of_nonneg (by omega)]; exact m0
            have n1 : (Int.tmod (k : Int) 2 == 1) = false := by rw [Int.tmod_eq_emod_of_nonneg (by omega)]; exact m1
            have HD := Lib.hid hd; clear hd hc
            go_wp2_with fail
            go_roundw
            case rel => exact ⟨k + 1, by rw [HS2.out.1, HD.out.1]; rw [Int.add_zero], by rw [HS2.out.2, HD.out.2]; rw [Int.add_zero], by go_num, by omega, by omega, HB⟩
            case measure => simp [intOf]; omega
          · have hd : dA k t[k] = 0 ∧ dB k t[k] = 1 := by rw [hc]; simp [dA, dB, hpar, hlt12]
            have e97 : ((t[k].toNat : Int) == 97) = false := by rw [hc]; rfl
            have e98 : ((t[k].toNat : Int) == 98) = true := by rw [hc]; rfl
            have m0 : (((k : Int) % 2) == 0) = true := by simp; omega
            have m1 : (((k : Int) % 2) == 1) = false := by simp; omega
            have n0 : (Int.tmod (k : Int) 2 == 0) = true := by rw [Int.tmod_eq_emod_of_nonneg (by omega)]; exact m0
            have n1 : (Int.tmod (k : Int) 2 == 1) = false := by rw [Int.tmod_eq_emod_of_nonneg (by omega)]; exact m1
            have HD := Lib.hid hd; clear hd hc
            go_wp2_with fail
            go_roundw
            case rel => exact ⟨k + 1, by rw [HS2.out.1, HD.out.1]; rw [Int.add_zero], by rw [HS2.out.2, HD.out.2], by go_num, by omega, by omega, HB⟩
            case measure => simp [intOf]; omega
        · rcases hc with hc | hc
          · have hd : dA k t[k] = 1 ∧ dB k t[k] = 0 := by rw [hc]; simp [dA, dB, hpar, hlt12]
            have e97 : ((t[k].toNat : Int) == 97) = true := by rw [hc]; rfl
            have e98 : ((t[k].toNat : Int) == 98) = false := by rw [hc]; rfl
            have m0 : (((k : Int) % 2) == 0) = false := by simp; omega
            have m1 : (((k : Int) % 2) == 1) = true := by simp; omega
            have n0 : (Int.tmod (k : Int) 2 == 0) = false := by rw [Int.tmod_eq_emod_of_nonneg (by omega)]; exact m0
            have n1 : (Int.tmod (k : Int) 2 == 1) = true := by rw [Int.tmod_eq_emod_of_nonneg (by omega)]; exact m1
            have HD := Lib.hid hd; clear hd hc
            go_wp2_with fail
            go_roundw
            case rel => exact ⟨k + 1, by rw [HS2.out.1, HD.out.1], by rw [HS2.out.2, HD.out.2]; rw [Int.add_zero], by go_num, by omega, by omega, HB⟩
            case measure => simp [intOf]; omega
          · have hd : dA k t[k] = 0 ∧ dB k t[k] = 0 := by rw [hc]; simp [dA, dB, hpar, hlt12]
            have e97 : ((t[k].toNat : Int) == 97) = false := by rw [hc]; rfl
            have e98 : ((t[k].toNat : Int) == 98) = true := by rw [hc]; rfl
            have m0 : (((k : Int) % 2) == 0) = false := by simp; omega
            have m1 : (((k : Int) % 2) == 1) = true := by simp; omega
            have n0 : (Int.tmod (k : Int) 2 == 0) = false := by rw [Int.tmod_eq_emod_of_nonneg (by omega)]; exact m0
            have n1 : (Int.tmod (k : Int) 2 == 1) = true := by rw [Int.tmod_eq_emod_of_nonneg (by omega)]; exact m1
            have HD := Lib.hid hd; clear hd hc
            go_wp2_with fail
            go_roundw
            case rel => exact ⟨k + 1, by rw [HS2.out.1, HD.out.1]; rw [Int.add_zero], by rw [HS2.out.2, HD.out.2]; rw [Int.add_zero], by go_num, by omega, by omega, HB⟩
            case measure => simp [intOf]; omega
    · have hke : k = t.size := by omega
      have hn : ¬ ((k : Int) < (t.size : Int)) := by omega
      have hx : brA t t.size = brA t k ∧ brB t t.size = brB t k := by rw [hke]; exact ⟨rfl, rfl⟩
      have HX := Lib.hid hx; clear hx
      clear hke
      generalize brA t k = X at *
      generalize brB t k = Y at *
      go_wp2_with fail
      refine bodyPost_ret (v := .tuple #[.int .i64 X, .int .i64 Y, .bool true]) (by simp [results, Tryd.results25, go_sem]) rfl ⟨by rw [HX.out.1, HX.out.2], HB.out⟩

/-- The answers. -/
def bA (s : ByteArray) : Int := if goodB s then brA ⟨(gamesL s).toArray⟩ (gamesL s).length else 0
def bB (s : ByteArray) : Int := if goodB s then brB ⟨(gamesL s).toArray⟩ (gamesL s).length else 0
theorem gm_len (s : ByteArray) : (⟨(gamesL s).toArray⟩ : ByteArray).size = (gamesL s).length ∧ (gamesL s).length ≤ 13 := by
  obtain ⟨h1, h2, -, -⟩ := games_inv s
  have := near_bd h1
  exact ⟨by simp [ByteArray.size], by omega⟩
theorem gm_pre (s : ByteArray) : OpenPre (⟨(gamesL s).toArray⟩ : ByteArray).data.toList := by
  rw [show (⟨(gamesL s).toArray⟩ : ByteArray).data.toList = gamesL s from by simp]; exact games_pre s

set_option maxHeartbeats 800000 in
theorem specBreaksIn_any (s : ByteArray) (w : World) (hs : (s.size : Int) ≤ 1000000000000) :
    Calls Tryd.prog 25 #[.string s] w fun e w' => e = .returned (.tuple #[.int .i64 (bA s), .int .i64 (bB s), .bool (goodB s)]) ∧ Below w.heap.size w w' := by
  cases hg : goodB s
  · have hr : bA s = 0 ∧ bB s = 0 := by simp [bA, bB, hg]
    rw [hr.1, hr.2]; clear hr
    have HG := Lib.hid hg; clear hg
    go_enter Tryd.func25, Tryd.ntmps25
    go_wp2_with fail
    refine (tnGood_any s _ hs).mono ?_; rintro e w1 ⟨rfl, b1⟩
    rw [HG.out]
    go_wp2_with fail
    refine bodyPost_ret (v := .tuple #[.int .i64 0, .int .i64 0, .bool false]) (by simp [results, Tryd.results25, go_sem]) rfl ⟨rfl, b1⟩
  · have hr : bA s = brA ⟨(gamesL s).toArray⟩ (⟨(gamesL s).toArray⟩ : ByteArray).size ∧ bB s = brB ⟨(gamesL s).toArray⟩ (⟨(gamesL s).toArray⟩ : ByteArray).size := by
      rw [(gm_len s).1]; simp [bA, bB, hg]
    rw [hr.1, hr.2]; clear hr
    exact specBrk_any s ⟨(gamesL s).toArray⟩ _ _ w hs (Lib.hid (fun w => by have := tnGood_any s w hs; rw [hg] at this; exact this)) (Lib.hid (fun w => tnSet_good s w hg)) (gm_pre s) (by rw [(gm_len s).1]; exact (gm_len s).2)

theorem implBreaksIn_any (s : ByteArray) (p0 p1 : Addr) (w : World) (hs : (s.size : Int) ≤ 1000000000000) (L : Laid w p0 p1) :
    Calls Tryd.prog 26 #[.string s] w fun e w' => e = .returned (.tuple #[.int .i64 (bA s), .int .i64 (bB s), .bool (goodB s)]) ∧ Below w.heap.size w w' := by
  cases hg : goodB s
  · have hr : bA s = 0 ∧ bB s = 0 := by simp [bA, bB, hg]
    rw [hr.1, hr.2]; clear hr
    exact implBrk_any s ⟨#[]⟩ 0 0 false p0 p1 w (Lib.hid (fun w L => playSet_bad s p0 p1 w hs L hg)) (fun k hk => by simp at hk) (by decide) L
  · have hr : bA s = brA ⟨(gamesL s).toArray⟩ (⟨(gamesL s).toArray⟩ : ByteArray).size ∧ bB s = brB ⟨(gamesL s).toArray⟩ (⟨(gamesL s).toArray⟩ : ByteArray).size := by
      rw [(gm_len s).1]; simp [bA, bB, hg]
    rw [hr.1, hr.2]; clear hr
    exact implBrk_any s ⟨(gamesL s).toArray⟩ _ _ true p0 p1 w (Lib.hid (fun w L => playSet_good s p0 p1 w L hg)) (gm_pre s) (by rw [(gm_len s).1]; exact (gm_len s).2) L

end Go.Proofs.YtbgdngfjeikheabDoor
