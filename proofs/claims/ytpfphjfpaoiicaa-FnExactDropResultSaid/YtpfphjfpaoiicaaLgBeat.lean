/-
  Leagues: whether a team has won some game against another one: both sides.
-/
import Derived.Test.YtpfphjfpaoiicaaLgLp
import Derived.Test.YtpfphjfpaoiicaaLgLeftM
namespace Go.Proofs.Ytpfphjfpaoiicaa
open Go.RowKit
set_option linter.unusedVariables false
set_option linter.unusedSimpArgs false

theorem beatL_snoc (l : List Rs) (k : Nat) (hk : k < l.length) (a b : Int) : beatL (l.take (k + 1)) a b = (beatL (l.take k) a b || beatR (l.getD k zR) a b) := by
  rw [take_snoc zR l k hk]; simp [beatL]
theorem beatL_hit {l : List Rs} {k : Nat} (hk : k < l.length) {a b : Int} (e : beatR (l.getD k zR) a b = true) : beatL l a b = true := by
  simp only [beatL, List.any_eq_true]
  exact ⟨l[k], List.getElem_mem hk, by simpa [hk] using e⟩
theorem beatL_self {t wn : Int} {l : List Rs} (h : goodL t wn l = true) (a : Int) : beatL l a a = false := by
  simp only [beatL, List.any_eq_false]
  intro r hr
  obtain ⟨k, hk, rfl⟩ := List.getElem_of_mem hr
  have hg := goodL_get h k hk
  simp [hk] at hg
  obtain ⟨-, -, hne, -, -⟩ := goodR_bd hg
  unfold beatR
  simp only [Bool.or_eq_true, Bool.and_eq_true, decide_eq_true_eq]
  rintro (⟨h1, h2, _⟩ | ⟨h1, h2, _⟩)
  · exact hne (h1.trans h2.symm)
  · exact hne (h1.trans h2.symm)

set_option maxHeartbeats 3200000 in
set_option maxRecDepth 100000 in
theorem lgBeat_any (t wn : Int) (l : List Rs) (ad : Option Addr) (c : Nat) (a b : Int) (w : World) (hl : (l.length : Int) ≤ 1000000000000) (hr : Reads w ad (ress l)) :
    Calls Try.prog 96 #[.agg #[.int .i64 t, .int .i64 wn, .slice ad l.length c], .int .i64 a, .int .i64 b] w fun e w' => e = .returned (.bool (beatL l a b)) ∧ Below w.heap.size w w' := by
  have HB0 := Lib.hid (Below.ofNew (w := w) (.cells #[.int .i64 t, .int .i64 wn, .slice ad l.length c] 29))
  have HR := Lib.hid hr; clear hr
  go_enter Try.func96, Try.ntmps96
  go_wp2_with fail
  go_loopw [12] (fun i wr => ∃ k : Nat, i = .int .i64 k ∧ k ≤ l.length ∧ Hid (beatL (l.take k) a b = false ∧ Below w.heap.size w wr)) (fun i _ => l.length - (intOf i).toNat)
  case atStart => exact ⟨0, rfl, Nat.zero_le _, rfl, HB0.out⟩
  case round =>
    clear HB0
    obtain ⟨k, rfl, hk, hH⟩ := hrel
    by_cases hlt : k < l.length
    · have b1 : (k : Int) < (l.length : Int) := by omega
      obtain ⟨bb, off, ha, _, hc⟩ := rcells_of_reads (HR.out.old hH.out.2) (by omega)
      subst ha
      obtain ⟨c0, c1, c2, c3⟩ := hc k hlt
      clear hc
      have hs := beatL_snoc l k hlt a b
      rw [hH.out.1, Bool.false_or] at hs
      have hit := fun e => beatL_hit (l := l) hlt (a := a) (b := b) e
      have HT := Lib.hid (And.intro hs hit); clear hs hit
      generalize l.getD k zR = r at *
      obtain ⟨x, y, z, u⟩ := r
      simp only at c0 c1 c2 c3
      have HB := Lib.hid (hH.out.2.alloc hH.out.2.size (.cells #[.int .i64 x, .int .i64 y, .int .i64 z, .int .i64 u] 64))
      have hbr : beatR (x, y, z, u) a b = ((decide (x = a) && (decide (y = b) && decide (u < z))) || (decide (x = b) && (decide (y = a) && decide (z < u)))) := rfl
      by_cases e1 : x = a
      · by_cases e2 : y = b
        · by_cases e3 : u < z
          · have q1 : (x == a) = true := by simp [e1]
            have q2 : (y == b) = true := by simp [e2]
            have HF : Hid (beatL l a b = true) := Lib.hid (HT.out.2 (by rw [hbr]; simp only [decide_eq_true e1, decide_eq_true e2, decide_eq_true e3, Bool.and_true, Bool.true_and, Bool.and_false, Bool.false_and, Bool.or_false, Bool.false_or, Bool.true_or, Bool.or_true]))
            clear hbr e1 e2
            go_wp2_with fail
            go_ret
            exact ⟨ret_bool HF.out.symm, HB.out⟩
          · by_cases e4 : x = b
            · by_cases e5 : y = a
              · by_cases e6 : z < u
                · have q1 : (x == a) = true := by simp [e1]
                  have q2 : (y == b) = true := by simp [e2]
                  have q4 : (x == b) = true := by simp [e4]
                  have q5 : (y == a) = true := by simp [e5]
                  have HF : Hid (beatL l a b = true) := Lib.hid (HT.out.2 (by rw [hbr]; simp only [decide_eq_true e1, decide_eq_true e2, decide_eq_false e3, decide_eq_true e4, decide_eq_true e5, decide_eq_true e6, Bool.and_true, Bool.true_and, Bool.and_false, Bool.false_and, Bool.or_false, Bool.false_or, Bool.true_or, Bool.or_true]))
                  clear hbr e1 e2 e4 e5
                  go_wp2_with fail
                  go_ret
                  exact ⟨ret_bool HF.out.symm, HB.out⟩
                · have q1 : (x == a) = true := by simp [e1]
                  have q2 : (y == b) = true := by simp [e2]
                  have q4 : (x == b) = true := by simp [e4]
                  have q5 : (y == a) = true := by simp [e5]
                  have HN : Hid (beatL (l.take (k + 1)) a b = false) := Lib.hid (by have h := HT.out.1; rw [hbr] at h; rw [h]; simp only [decide_eq_true e1, decide_eq_true e2, decide_eq_false e3, decide_eq_true e4, decide_eq_true e5, decide_eq_false e6, Bool.and_true, Bool.true_and, Bool.and_false, Bool.false_and, Bool.or_false, Bool.false_or, Bool.true_or, Bool.or_true])
                  clear hbr e1 e2 e4 e5
                  go_wp2_with fail
                  go_roundw
                  case rel => exact ⟨k + 1, by go_num, by omega, Lib.hid ⟨HN.out, HB.out⟩⟩
                  case measure => simp [intOf]; omega
              · have q1 : (x == a) = true := by simp [e1]
                have q2 : (y == b) = true := by simp [e2]
                have q4 : (x == b) = true := by simp [e4]
                have q5 : (y == a) = false := by simp [e5]
                have HN : Hid (beatL (l.take (k + 1)) a b = false) := Lib.hid (by have h := HT.out.1; rw [hbr] at h; rw [h]; simp only [decide_eq_true e1, decide_eq_true e2, decide_eq_false e3, decide_eq_true e4, decide_eq_false e5, Bool.and_true, Bool.true_and, Bool.and_false, Bool.false_and, Bool.or_false, Bool.false_or, Bool.true_or, Bool.or_true])
                clear hbr e1 e2 e4 e5
                go_wp2_with fail
                go_roundw
                case rel => exact ⟨k + 1, by go_num, by omega, Lib.hid ⟨HN.out, HB.out⟩⟩
                case measure => simp [intOf]; omega
            · have q1 : (x == a) = true := by simp [e1]
              have q2 : (y == b) = true := by simp [e2]
              have q4 : (x == b) = false := by simp [e4]
              have HN : Hid (beatL (l.take (k + 1)) a b = false) := Lib.hid (by have h := HT.out.1; rw [hbr] at h; rw [h]; simp only [decide_eq_true e1, decide_eq_true e2, decide_eq_false e3, decide_eq_false e4, Bool.and_true, Bool.true_and, Bool.and_false, Bool.false_and, Bool.or_false, Bool.false_or, Bool.true_or, Bool.or_true])
              clear hbr e1 e2 e4
              go_wp2_with fail
              go_roundw
              case rel => exact ⟨k + 1, by go_num, by omega, Lib.hid ⟨HN.out, HB.out⟩⟩
              case measure => simp [intOf]; omega
        · by_cases e4 : x = b
          · by_cases e5 : y = a
            · by_cases e6 : z < u
              · have q1 : (x == a) = true := by simp [e1]
                have q2 : (y == b) = false := by simp [e2]
                have q4 : (x == b) = true := by simp [e4]
                have q5 : (y == a) = true := by simp [e5]
                have HF : Hid (beatL l a b = true) := Lib.hid (HT.out.2 (by rw [hbr]; simp only [decide_eq_true e1, decide_eq_false e2, decide_eq_true e4, decide_eq_true e5, decide_eq_true e6, Bool.and_true, Bool.true_and, Bool.and_false, Bool.false_and, Bool.or_false, Bool.false_or, Bool.true_or, Bool.or_true]))
                clear hbr e1 e2 e4 e5
                go_wp2_with fail
                go_ret
                exact ⟨ret_bool HF.out.symm, HB.out⟩
              · have q1 : (x == a) = true := by simp [e1]
                have q2 : (y == b) = false := by simp [e2]
                have q4 : (x == b) = true := by simp [e4]
                have q5 : (y == a) = true := by simp [e5]
                have HN : Hid (beatL (l.take (k + 1)) a b = false) := Lib.hid (by have h := HT.out.1; rw [hbr] at h; rw [h]; simp only [decide_eq_true e1, decide_eq_false e2, decide_eq_true e4, decide_eq_true e5, decide_eq_false e6, Bool.and_true, Bool.true_and, Bool.and_false, Bool.false_and, Bool.or_false, Bool.false_or, Bool.true_or, Bool.or_true])
                clear hbr e1 e2 e4 e5
                go_wp2_with fail
                go_roundw
                case rel => exact ⟨k + 1, by go_num, by omega, Lib.hid ⟨HN.out, HB.out⟩⟩
                case measure => simp [intOf]; omega
            · have q1 : (x == a) = true := by simp [e1]
              have q2 : (y == b) = false := by simp [e2]
              have q4 : (x == b) = true := by simp [e4]
              have q5 : (y == a) = false := by simp [e5]
              have HN : Hid (beatL (l.take (k + 1)) a b = false) := Lib.hid (by have h := HT.out.1; rw [hbr] at h; rw [h]; simp only [decide_eq_true e1, decide_eq_false e2, decide_eq_true e4, decide_eq_false e5, Bool.and_true, Bool.true_and, Bool.and_false, Bool.false_and, Bool.or_false, Bool.false_or, Bool.true_or, Bool.or_true])
              clear hbr e1 e2 e4 e5
              go_wp2_with fail
              go_roundw
              case rel => exact ⟨k + 1, by go_num, by omega, Lib.hid ⟨HN.out, HB.out⟩⟩
              case measure => simp [intOf]; omega
          · have q1 : (x == a) = true := by simp [e1]
            have q2 : (y == b) = false := by simp [e2]
            have q4 : (x == b) = false := by simp [e4]
            have HN : Hid (beatL (l.take (k + 1)) a b = false) := Lib.hid (by have h := HT.out.1; rw [hbr] at h; rw [h]; simp only [decide_eq_true e1, decide_eq_false e2, decide_eq_false e4, Bool.and_true, Bool.true_and, Bool.and_false, Bool.false_and, Bool.or_false, Bool.false_or, Bool.true_or, Bool.or_true])
            clear hbr e1 e2 e4
            go_wp2_with fail
            go_roundw
            case rel => exact ⟨k + 1, by go_num, by omega, Lib.hid ⟨HN.out, HB.out⟩⟩
            case measure => simp [intOf]; omega
      · by_cases e4 : x = b
        · by_cases e5 : y = a
          · by_cases e6 : z < u
            · have q1 : (x == a) = false := by simp [e1]
              have q4 : (x == b) = true := by simp [e4]
              have q5 : (y == a) = true := by simp [e5]
              have HF : Hid (beatL l a b = true) := Lib.hid (HT.out.2 (by rw [hbr]; simp only [decide_eq_false e1, decide_eq_true e4, decide_eq_true e5, decide_eq_true e6, Bool.and_true, Bool.true_and, Bool.and_false, Bool.false_and, Bool.or_false, Bool.false_or, Bool.true_or, Bool.or_true]))
              clear hbr e1 e4 e5
              go_wp2_with fail
              go_ret
              exact ⟨ret_bool HF.out.symm, HB.out⟩
            · have q1 : (x == a) = false := by simp [e1]
              have q4 : (x == b) = true := by simp [e4]
              have q5 : (y == a) = true := by simp [e5]
              have HN : Hid (beatL (l.take (k + 1)) a b = false) := Lib.hid (by have h := HT.out.1; rw [hbr] at h; rw [h]; simp only [decide_eq_false e1, decide_eq_true e4, decide_eq_true e5, decide_eq_false e6, Bool.and_true, Bool.true_and, Bool.and_false, Bool.false_and, Bool.or_false, Bool.false_or, Bool.true_or, Bool.or_true])
              clear hbr e1 e4 e5
              go_wp2_with fail
              go_roundw
              case rel => exact ⟨k + 1, by go_num, by omega, Lib.hid ⟨HN.out, HB.out⟩⟩
              case measure => simp [intOf]; omega
          · have q1 : (x == a) = false := by simp [e1]
            have q4 : (x == b) = true := by simp [e4]
            have q5 : (y == a) = false := by simp [e5]
            have HN : Hid (beatL (l.take (k + 1)) a b = false) := Lib.hid (by have h := HT.out.1; rw [hbr] at h; rw [h]; simp only [decide_eq_false e1, decide_eq_true e4, decide_eq_false e5, Bool.and_true, Bool.true_and, Bool.and_false, Bool.false_and, Bool.or_false, Bool.false_or, Bool.true_or, Bool.or_true])
            clear hbr e1 e4 e5
            go_wp2_with fail
            go_roundw
            case rel => exact ⟨k + 1, by go_num, by omega, Lib.hid ⟨HN.out, HB.out⟩⟩
            case measure => simp [intOf]; omega
        · have q1 : (x == a) = false := by simp [e1]
          have q4 : (x == b) = false := by simp [e4]
          have HN : Hid (beatL (l.take (k + 1)) a b = false) := Lib.hid (by have h := HT.out.1; rw [hbr] at h; rw [h]; simp only [decide_eq_false e1, decide_eq_false e4, Bool.and_true, Bool.true_and, Bool.and_false, Bool.false_and, Bool.or_false, Bool.false_or, Bool.true_or, Bool.or_true])
          clear hbr e1 e4
          go_wp2_with fail
          go_roundw
          case rel => exact ⟨k + 1, by go_num, by omega, Lib.hid ⟨HN.out, HB.out⟩⟩
          case measure => simp [intOf]; omega
    · obtain rfl : k = l.length := by omega
      have hn := hH.out
      rw [List.take_length] at hn
      have HN := Lib.hid hn; clear hn
      go_wp2
      go_ret
      exact ⟨ret_bool HN.out.1.symm, HN.out.2⟩

set_option maxHeartbeats 800000 in
theorem hasBeaten1_any (o p q b : Int) (gb : Nat) (w : World) (cb : IntAt w gb b) :
    Calls Try.prog 119 #[.agg #[.int .i64 o, .int .i64 p, .int .i64 q], .pointer (some ⟨gb, 0, none⟩)] w fun e w' => e = .returned (.bool (beatG b (o, p, q))) ∧ Below w.heap.size w w' := by
  have hb := Below.ofNew (w := w) (.cells #[.int .i64 o, .int .i64 p, .int .i64 q] 85)
  have c1 := (cb.keep hb).2
  have HB := Lib.hid hb; clear hb cb
  have hp : beatG b (o, p, q) = (decide (o = b) && decide (q < p)) := rfl
  rw [hp]; clear hp
  by_cases e1 : o = b
  · have q1 : (o == b) = true := by simp [e1]
    rw [decide_eq_true e1, Bool.true_and]; clear e1
    go_enter Try.func119, Try.ntmps119
    go_wp2_with fail
    refine (isWon_any _ _ _ _).mono ?_; rintro e w1 ⟨rfl, b1⟩
    have HB1 := Lib.hid (HB.out.trans (b1.mono HB.out.size)); clear b1
    go_wp2_with fail
    go_ret
    exact ⟨rfl, HB1.out⟩
  · have q1 : (o == b) = false := by simp [e1]
    rw [decide_eq_false e1, Bool.false_and]; clear e1
    go_enter Try.func119, Try.ntmps119
    go_wp2
    go_ret
    exact ⟨rfl, HB.out⟩

theorem anyG_snoc (b : Int) (gs : List Gm) (k : Nat) (hk : k < gs.length) : (gs.take (k + 1)).any (beatG b) = ((gs.take k).any (beatG b) || beatG b (gs.getD k zG)) := by
  rw [gtake_snoc gs k hk]; simp
theorem anyG_hit {b : Int} {gs : List Gm} {k : Nat} (hk : k < gs.length) (e : beatG b (gs.getD k zG) = true) : gs.any (beatG b) = true := by
  rw [List.any_eq_true]
  exact ⟨gs[k], List.getElem_mem hk, by simpa [hk] using e⟩

set_option maxHeartbeats 1600000 in
theorem indexG_any (gs : List Gm) (ad : Option Addr) (c : Nat) (b : Int) (gb : Nat) (w : World) (hl : (gs.length : Int) ≤ 1000000000000) (hr : Reads w ad (gmc gs)) (cb : IntAt w gb b) :
    Calls Try.prog 124 #[.slice ad gs.length c, .func (.func 119) #[] #[.pointer (some ⟨gb, 0, none⟩)]] w fun e w' => ∃ i : Int, e = .returned (.int .i64 i) ∧ decide (0 ≤ i) = gs.any (beatG b) ∧ Below w.heap.size w w' := by
  have HC := Lib.hid (And.intro hr cb); clear hr cb
  go_enter Try.func124, Try.ntmps124
  go_wp2_with fail
  go_loopw [8] (fun i wr => ∃ k : Nat, i = .int .i64 k ∧ k ≤ gs.length ∧ Hid ((gs.take k).any (beatG b) = false ∧ Below w.heap.size w wr)) (fun i _ => gs.length - (intOf i).toNat)
  case atStart => exact ⟨0, rfl, Nat.zero_le _, rfl, Below.refl _ _⟩
  case round =>
    obtain ⟨k, rfl, hk, hH⟩ := hrel
    by_cases hlt : k < gs.length
    · have b1 : (k : Int) < (gs.length : Int) := by omega
      obtain ⟨bb, off, ha, _, hc⟩ := gcells_of_reads (HC.out.1.old hH.out.2) (by omega)
      subst ha
      obtain ⟨c0, c1, c2⟩ := hc k hlt
      clear hc
      have hs := anyG_snoc b gs k hlt
      rw [hH.out.1, Bool.false_or] at hs
      have hit := fun e => anyG_hit (b := b) (gs := gs) hlt e
      have HS := Lib.hid (And.intro hs hit); clear hs hit
      have hcall := fun x y z => hasBeaten1_any x y z b gb wr (HC.out.2.keep hH.out.2)
      have HCL := Lib.hid hcall; clear hcall
      generalize gs.getD k zG = g at *
      obtain ⟨x, y, z⟩ := g
      simp only at c0 c1 c2
      go_wp2_with fail
      refine (HCL.out _ _ _).mono ?_; rintro e w2 ⟨rfl, b2⟩
      have HB := Lib.hid (hH.out.2.trans (b2.mono hH.out.2.size)); clear b2 c0 c1 c2
      cases hp : beatG b (x, y, z)
      · have hn := HS.out.1
        rw [hp] at hn
        have HN := Lib.hid (And.intro hn HB.out); clear hn hp
        go_wp2_with fail
        go_roundw
        case rel => exact ⟨k + 1, by go_num, by omega, HN⟩
        case measure => simp [intOf]; omega
      · have hy := HS.out.2 hp
        have HY := Lib.hid hy; clear hy hp
        go_wp2_with fail
        go_ret
        exact ⟨_, rfl, by rw [HY.out]; simp, HB.out⟩
    · obtain rfl : k = gs.length := by omega
      have hn := hH.out
      rw [List.take_length] at hn
      have HN := Lib.hid hn; clear hn
      go_wp2
      go_ret
      exact ⟨-1, rfl, by rw [HN.out.1]; rfl, HN.out.2⟩

set_option maxHeartbeats 800000 in
theorem containsG_any (gs : List Gm) (ad : Option Addr) (c : Nat) (b : Int) (gb : Nat) (w : World) (hl : (gs.length : Int) ≤ 1000000000000) (hr : Reads w ad (gmc gs)) (cb : IntAt w gb b) :
    Calls Try.prog 118 #[.slice ad gs.length c, .func (.func 119) #[] #[.pointer (some ⟨gb, 0, none⟩)]] w fun e w' => e = .returned (.bool (gs.any (beatG b))) ∧ Below w.heap.size w w' := by
  have HI := Lib.hid (indexG_any gs ad c b gb w hl hr cb); clear hr cb
  go_enter Try.func118, Try.ntmps118
  go_wp2_with fail
  refine HI.out.mono ?_; rintro e w3 ⟨i, rfl, hi, b3⟩
  have HB3 := Lib.hid (And.intro hi b3); clear b3 hi
  go_wp2_with fail
  go_ret
  exact ⟨ret_bool HB3.out.1, HB3.out.2⟩

set_option maxHeartbeats 1600000 in
theorem hasBeaten_any (t wn : Int) (l : List Rs) (hgd : goodL t wn l = true) (ad : Option Addr) (c : Nat) (a b : Int) (w : World) (hr : Reads w ad (ress l)) :
    Calls Try.prog 97 #[.agg #[.int .i64 t, .int .i64 wn, .slice ad l.length c], .int .i64 a, .int .i64 b] w fun e w' => e = .returned (.bool (beatL l a b)) ∧ Below w.heap.size w w' := by
  obtain ⟨-, -, -, -, h56⟩ := goodL_bd hgd
  have hbe := beat_eq hgd a b
  have hb1 := Below.ofNew (w := w) (.cells #[.int .i64 t, .int .i64 wn, .slice ad l.length c] 29)
  have hb2 := hb1.alloc hb1.size (.cells #[.int .i64 b] 3)
  have a2 := ObAt.new (w.alloc (.cells #[.int .i64 t, .int .i64 wn, .slice ad l.length c] 29)) 3 #[.int .i64 b]
  rw [World.size_alloc] at a2
  have i2 : IntAt _ _ b := ⟨a2.lt, a2.cell 0⟩
  have HI := Lib.hid i2
  have HGM := Lib.hid (gamesOfTeam_any t wn l ad c a _ (by omega) (hr.old hb2))
  have HB := Lib.hid hb2
  have hgl := gamesL_len l a
  clear hb1 hb2 a2 i2 hr hgd
  go_enter Try.func97, Try.ntmps97
  go_wp2_with fail
  refine HGM.out.mono ?_; rintro e w2 ⟨v, rfl, hown, b2⟩
  obtain ⟨a2, c2, rfl, hrd, -, -, -⟩ := Reads.own hown
  have HCT := Lib.hid (containsG_any (gamesL l a) a2 c2 b _ w2 (by omega) hrd (HI.out.keep b2))
  have HB2 := Lib.hid (HB.out.trans (b2.mono HB.out.size))
  clear hown b2 hrd HGM HI HB
  go_wp2_with fail
  refine HCT.out.mono ?_; rintro e w3 ⟨rfl, b3⟩
  have HB3 := Lib.hid (HB2.out.trans (b3.mono HB2.out.size)); clear b3
  go_wp2_with fail
  go_ret
  exact ⟨ret_bool hbe.symm, HB3.out⟩
end Go.Proofs.Ytpfphjfpaoiicaa
