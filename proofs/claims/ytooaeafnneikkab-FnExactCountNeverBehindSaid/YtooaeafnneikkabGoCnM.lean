/-
  Goals: CountGames, CountNeverBehind: the model's count.
-/
import Derived.Test.YtooaeafnneikkabGoFlat
import Derived.Test.YtooaeafnneikkabGoOrdM
import Derived.Deep.CutRange
namespace Go.Proofs.Ytooaeafnneikkab
open Go.RowKit
set_option linter.unusedVariables false
set_option linter.unusedSimpArgs false

theorem leastI_cap (x : Int) : leastI x 1000000000000001 = leastO x := rfl
def TwoAt (w : World) (g gn : Nat) (L M : List Int) (wr : World) : Prop := RowAt wr g 3 L ∧ RowAt wr gn 3 M ∧ g < gn ∧ w.heap.size ≤ g ∧ Below w.heap.size w wr
theorem TwoAt.put {w : World} {g gn : Nat} {L M : List Int} {wr : World} (h : TwoAt w g gn L M wr) {j : Nat} (hj : j < M.length) (x : Int) : TwoAt w g gn L (M.set j x) (wr.setCell ⟨gn, j, none⟩ (.int .i64 x)) := by
  obtain ⟨h1, h2, h3, h4, h5⟩ := h
  refine ⟨?_, h2.put hj x, h3, h4, h5.setCell (p := ⟨gn, j, none⟩) (show w.heap.size ≤ gn by omega) _⟩
  unfold RowAt at h1 ⊢
  rw [Below.heap_setCell _ _ _ _ (Nat.ne_of_lt h3)]; exact h1

set_option maxRecDepth 8000 in
set_option maxHeartbeats 6400000 in
theorem goCount_any (ks : List Int) (hk : ∀ x ∈ ks, 1 ≤ x ∧ x ≤ 20) (hl5 : ks.length ≤ 5) (A B : Nat) (hA : A ≤ 200) (hB : B ≤ 200) (nv : Bool) (a : Option Addr) (c : Nat) (w : World) (h : Reads w a (ints ks)) :
    Calls Try.prog 66 #[.slice a ks.length c, .int .i64 A, .int .i64 B, .bool nv] w fun e w' => e = .returned (.int .i64 (cumT ks nv A B 61)) ∧ Below w.heap.size w w' := by
  have hk1 : ∀ x ∈ ks, 1 ≤ x := fun x hx => (hk x hx).1
  obtain ⟨N, hN⟩ : ∃ N : Nat, (A + 1) * (B + 1) = N := ⟨_, rfl⟩
  have hN1 : 0 < N := by rw [← hN]; exact Nat.mul_pos (by omega) (by omega)
  have hN2 : N ≤ 201 * 201 := by rw [← hN]; exact Nat.mul_le_mul (by omega) (by omega)
  have hNi : ((A : Int) + 1) * ((B : Int) + 1) = (N : Int) := by rw [← hN]; push_cast; rfl
  have wN : IntKind.i64.wrap (N : Int) = (N : Int) := IntWalk.i64_in _ (by omega)
  obtain ⟨i0, hi, hz0, hz1, hz2⟩ := info_parts infoInt
  have HI := Lib.hid (And.intro hi (And.intro hz0 (And.intro hz1 hz2))); clear hi hz0 hz1 hz2
  have HK := Lib.hid hk; clear hk
  have HK1 := Lib.hid hk1; clear hk1
  have HR := Lib.hid h; clear h
  have HN := Lib.hid hN
  generalize hV : cumT ks nv A B 61 = V
  have HV := Lib.hid hV
  clear hV hN
  go_enter Try.func66, Try.ntmps66
  go_wp2_with (at_make; refine wpList_make_full _ rfl _ _ _ rfl w.heap.size _ i0 _ 1 Try.underlying45 HI.out.1 HI.out.2.1 HI.out.2.2.1 .i64 .i64 _ _ N rfl rfl rfl rfl ?_ ?_ (Nat.le_refl _) ?_)
  · rw [HI.out.2.2.2]; omega
  · unfold maxLen; omega
  intro w1 hown hgrow
  have hr := (RowAt.made (e := 3) hown).1
  have hbel : Below w.heap.size w w1 := (Below.refl _ _).grown hgrow (Nat.le_refl _) (fun k hk => by cases hk)
  have hr2 := hr.put (j := 0) (by simpa using hN1) 1
  rw [← flat_zero ks nv (W := B + 1) (by omega) hN1] at hr2
  have c0 := hr.cell (j := 0) (by simpa using hN1)
  have f0 := hr.free 0
  have H2 : Hid (RowAt (w1.setCell ⟨w.heap.size, 0, none⟩ (.int .i64 1)) w.heap.size 3 (flat (cntT ks nv 0) (B + 1) N) ∧ w.heap.size ≤ w.heap.size ∧ Below w.heap.size w (w1.setCell ⟨w.heap.size, 0, none⟩ (.int .i64 1))) :=
    ⟨hr2, Nat.le_refl _, hbel.setCell (p := ⟨w.heap.size, 0, none⟩) (Nat.le_refl _) _⟩
  have hb0 : (0 : Int) < (N : Int) := by omega
  clear hr hbel hr2 hown hgrow
  go_wp2_with fail
  clear c0 f0
  generalize w1.setCell ⟨w.heap.size, 0, none⟩ (.int .i64 1) = W0 at *
  generalize hg0 : w.heap.size = g0 at H2 ⊢
  have H3 : Hid (RowAt W0 g0 3 (flat (cntT ks nv 0) (B + 1) N) ∧ w.heap.size ≤ g0 ∧ Below w.heap.size w W0) := by rw [hg0]; exact H2
  clear H2 hg0
  obtain ⟨L, hLN⟩ : ∃ L : Nat, (N : Int) - 1 = (L : Int) := ⟨N - 1, by omega⟩
  have hLn : L = A * (B + 1) + B := by
    have h2 := HN.out
    rw [Nat.add_mul, Nat.one_mul] at h2
    omega
  have hLlt : (L : Int) < (N : Int) := by omega
  have HLN := Lib.hid hLn
  have wL : IntKind.i64.wrap (L : Int) = (L : Int) := IntWalk.i64_in _ (by omega)
  clear hLn
  have HL := Lib.hid (fun x W => l1Least_calm x 1000000000000001 W)
  go_loopw [9, 10, 11] (fun v ct i wr => ∃ (k g : Nat), v = .slice (some ⟨g, 0, none⟩) N N ∧ ct = .int .i64 (cumT ks nv A B k) ∧ i = .int .i64 k ∧ k ≤ 61 ∧ Hid (RowAt wr g 3 (flat (cntT ks nv k) (B + 1) N) ∧ w.heap.size ≤ g ∧ Below w.heap.size w wr)) (fun _ _ i _ => 61 - (intOf i).toNat)
  case atStart => exact ⟨0, g0, rfl, rfl, rfl, by omega, H3⟩
  case round =>
    clear H3
    obtain ⟨k, g, rfl, rfl, rfl, hk61, hT⟩ := hrel
    by_cases hlt : k ≤ 60
    · have d1 : (k : Int) ≤ 60 := by omega
      have hcell := hT.out.1.cell (j := L) (by rw [flat_len]; omega)
      rw [HLN.out, flat_at _ (by omega) (by rw [← HLN.out]; omega), ← HLN.out] at hcell
      have hc1 := cumT_bd ks nv A B k
      have hc2 := cntT_bd ks nv k A B
      have hstep : leastI (cumT ks nv A B k + cntT ks nv k A B) 1000000000000001 = cumT ks nv A B (k + 1) := rfl
      have HST := Lib.hid hstep
      unfold capG at hc1 hc2
      have hF0 : ∀ a b, 0 ≤ cntT ks nv k a b := fun a b => (cntT_bd ks nv k a b).1
      have HF0 := Lib.hid hF0
      have HFB := Lib.hid (cntT_bd ks nv k)
      have HOFF := Lib.hid (cntT_off ks nv k)
      have HEND := Lib.hid (flat_end HK1.out (nv := nv) (k := k) (A := A) (W := B + 1) (by omega))
      clear hstep hF0
      generalize hF : cntT ks nv k = F at *
      have HFK := Lib.hid hF; clear hF
      generalize cumT ks nv A B k = ck at *
      generalize hFAB : F A B = fab at *
      clear hFAB
      have wc : IntKind.i64.wrap (ck + fab) = ck + fab := IntWalk.i64_in _ (by omega)
      have hc1' : True := trivial
      go_wp2_with fail
      refine (HL.out _ _).mono ?_; rintro e w2 ⟨rfl, rfl⟩
      rw [HST.out]
      clear hcell
      go_wp2_with (at_make; refine wpList_make_full _ rfl _ _ _ rfl w2.heap.size _ i0 _ 1 Try.underlying45 HI.out.1 HI.out.2.1 HI.out.2.2.1 .i64 .i64 _ _ N rfl rfl rfl rfl ?_ ?_ (Nat.le_refl _) ?_)
      · rw [HI.out.2.2.2]; omega
      · unfold maxLen; omega
      intro w3 hown hgrow
      have hr := (RowAt.made (e := 3) hown).1
      have hbel : Below w2.heap.size w2 w3 := (Below.refl _ _).grown hgrow (Nat.le_refl _) (fun k hk => by cases hk)
      have hb2 := hT.out.2.2.size
      have H4 : Hid (TwoAt w g w2.heap.size (flat F (B + 1) N) (flat (nextT ks nv F ((B + 1 : Nat) : Int) ((0 : Nat) : Int) 0 0 0) (B + 1) N) w3) :=
        ⟨hT.out.1.keep hbel, by rw [show ((0 : Nat) : Int) = 0 from rfl, flat_start HK1.out (by omega)]; exact hr, hT.out.1.lt, hT.out.2.1, hT.out.2.2.trans (hbel.mono hb2)⟩
      clear hr hbel hown hgrow hT hb2
      generalize w2.heap.size = gn at *
      go_wp2_with fail
      go_loopw [47] (fun i wr => ∃ q : Nat, i = .int .i64 q ∧ q ≤ N ∧ Hid (TwoAt w g gn (flat F (B + 1) N) (flat (nextT ks nv F ((B + 1 : Nat) : Int) (q : Int) 0 0 0) (B + 1) N) wr)) (fun i _ => N - (intOf i).toNat)
      case atStart => exact ⟨0, rfl, Nat.zero_le _, H4⟩
      case round =>
        clear H4
        obtain ⟨q, rfl, hqN, hT⟩ := hrel
        by_cases hlq : q < N
        · have d2 : (q : Int) < (N : Int) := by omega
          have c0 := hT.out.1.cell (j := q) (by rw [flat_len]; exact hlq)
          have hyW : q % (B + 1) < B + 1 := Nat.mod_lt _ (by omega)
          have hxy : q / (B + 1) * (B + 1) + q % (B + 1) = q := by rw [Nat.mul_comm, Nat.div_add_mod]
          have hxA : q / (B + 1) ≤ A := row_le (W := B + 1) (b := q % (B + 1)) (by rw [hxy, HN.out]; exact hlq)
          rw [flat_get _ _ _ hlq] at c0
          have hqd : wrap64 ((q : Int) / ((B : Int) + 1)) = ((q / (B + 1) : Nat) : Int) := by
            have h3 : ∀ d : Nat, d ≤ A → wrap64 (d : Int) = d := fun d hd => by unfold wrap64; omega
            have h4 : (q : Int) / ((B : Int) + 1) = ((q / (B + 1) : Nat) : Int) := by push_cast; rfl
            rw [h4]; exact h3 _ hxA
          have hqm : (q : Int) % ((B : Int) + 1) = ((q % (B + 1) : Nat) : Int) := by push_cast; rfl
          have HQ := Lib.hid (And.intro hqd hqm)
          clear hqd hqm
          generalize q / (B + 1) = x at *
          generalize q % (B + 1) = y at *
          have hnb := HFB.out x y
          have hnz := HOFF.out x y
          generalize hn : F x y = n at *
          have HNE := Lib.hid hn; clear hn
          unfold capG at hnb
          by_cases qz : n = 0
          · subst qz
            have HSK := Lib.hid (flat_skip (N := N) HK1.out (nv := nv) (F := F) (W := B + 1) (x := x) (y := y) hyW HNE.out)
            rw [hxy] at HSK
            clear hnz hxy
            go_wp2_with fail
            go_roundw
            case rel => exact ⟨q + 1, by go_num, by omega, Lib.hid (by rw [HSK.out]; exact hT.out)⟩
            case measure => simp [intOf]; omega
          · have hst : stB nv x y = true := by
              by_cases e : stB nv x y = true
              · exact e
              · exact absurd (hnz (by simpa using e)) qz
            have HSTB := Lib.hid hst
            have qz' : (n == 0) = false := by simpa using qz
            clear hnz hst
            go_wp2_with fail
            go_quiet (fail)
            rw [HQ.out.1, HQ.out.2]
            have hT0 : Hid (TwoAt w g gn (flat F (B + 1) N) (flat (nextT ks nv F ((B + 1 : Nat) : Int) (q : Int) x y 0) (B + 1) N) (wr.drewN nq)) := by
              have h := hT.out
              rw [← flat_begin ks nv F (B + 1) N (q : Int) x y] at h
              exact Lib.hid ⟨h.1.drewN nq, h.2.1.drewN nq, h.2.2.1, h.2.2.2.1, below_drewN h.2.2.2.2 nq⟩
            have hwr := hT.out.2.2.2.2
            clear c0 hT qz'
            generalize wr.drewN nq = W4 at *
            obtain ⟨m0, hm0⟩ : ∃ m0 : Nat, x * (B + 1) = m0 := ⟨_, rfl⟩
            have hm0i : (x : Int) * ((B : Int) + 1) = (m0 : Int) := by rw [← hm0]; push_cast; rfl
            have HM0 := Lib.hid hm0
            have hm0q : m0 + y = q := by rw [← hm0]; exact hxy
            have wm0 : IntKind.i64.wrap (m0 : Int) = (m0 : Int) := IntWalk.i64_in _ (by omega)
            have HXY := Lib.hid (And.intro hxy hm0q)
            have HSRC := Lib.hid (flat_source (N := N) HK1.out (nv := nv) (F := F) (W := B + 1) (x := x) (y := y) hyW)
            rw [hxy] at HSRC
            have hm0N : m0 + y < N := by omega
            clear hxy hm0 hm0q
            go_wp2_with fail
            go_loopw [64] (fun i wr => ∃ j : Nat, i = .int .i64 j ∧ j ≤ ks.length ∧ Hid (TwoAt w g gn (flat F (B + 1) N) (flat (nextT ks nv F ((B + 1 : Nat) : Int) (q : Int) x y j) (B + 1) N) wr)) (fun i _ => ks.length - (intOf i).toNat)
            case atStart => exact ⟨0, rfl, Nat.zero_le _, hT0⟩
            case round =>
              clear hT0
              obtain ⟨j, rfl, hj, hT⟩ := hrel
              by_cases hjl : j < ks.length
              · have d3 : (j : Int) < (ks.length : Int) := by omega
                obtain ⟨b, off, rfl, _, hc⟩ := cells_of_reads (HR.out.old hT.out.2.2.2.2) (by omega)
                have c0 := hc j hjl
                obtain ⟨x1, x2⟩ := HK.out (ks.getD j 0) (by simp [hjl])
                obtain ⟨p, hp⟩ : ∃ p : Nat, ks.getD j 0 = (p : Int) := ⟨(ks.getD j 0).toNat, by omega⟩
                rw [hp] at c0 x1 x2
                have hp1 : 1 ≤ p := by omega
                have HP := Lib.hid hp
                have HMB := Lib.hid (show ∀ a b, 0 ≤ midT (nextT ks nv F ((B + 1 : Nat) : Int) (q : Int) x y j) x y p n a b ∧ midT (nextT ks nv F ((B + 1 : Nat) : Int) (q : Int) x y j) x y p n a b ≤ 1000000000000001 from fun a b => by
                  have h := nextT_bd HF0.out ks nv ((B + 1 : Nat) : Int) (q : Int) x y j a b
                  unfold midT leastO capG at *
                  repeat' split
                  all_goals omega)
                have HNB := Lib.hid (nextT_bd HF0.out ks nv ((B + 1 : Nat) : Int) (q : Int) x y j)
                clear hc hp
                by_cases h1 : x + p ≤ A
                · have e1 : ((x : Int) + (p : Int) ≤ (A : Int)) = True := by simp; omega
                  obtain ⟨m1, hm1⟩ : ∃ m1 : Nat, (x + p) * (B + 1) = m1 := ⟨_, rfl⟩
                  have hm1i : ((x : Int) + (p : Int)) * ((B : Int) + 1) = (m1 : Int) := by rw [← hm1]; push_cast; rfl
                  obtain ⟨i1, hi1⟩ : ∃ i1 : Nat, (m1 : Int) + (y : Int) = (i1 : Int) := ⟨m1 + y, by push_cast; rfl⟩
                  have hi1n : i1 = (x + p) * (B + 1) + y := by omega
                  have hi1N : i1 < N := by
                    have h1 : (x + p) * (B + 1) ≤ A * (B + 1) := Nat.mul_le_mul_right _ h1
                    have h2 := HN.out
                    rw [Nat.add_mul, Nat.one_mul] at h2
                    omega
                  have hi1N' : (i1 : Int) < (N : Int) := by omega
                  have wm1 : IntKind.i64.wrap (m1 : Int) = (m1 : Int) := IntWalk.i64_in _ (by omega)
                  have wi1 : IntKind.i64.wrap (i1 : Int) = (i1 : Int) := IntWalk.i64_in _ (by omega)
                  have c1 := hT.out.2.1.cell (j := i1) (by rw [flat_len]; exact hi1N)
                  have f1 := hT.out.2.1.free i1
                  rw [hi1n, flat_at _ hyW (by rw [← hi1n]; exact hi1N), ← hi1n] at c1
                  have htb := HNB.out ((x + p : Nat) : Int) y
                  have HE := Lib.hid (flat_mid1 (T := nextT ks nv F ((B + 1 : Nat) : Int) (q : Int) x y j) (A := A) (x := x) (p := p) (n := n) hyW)
                  rw [HN.out, ← hi1n] at HE
                  unfold capG at htb
                  have HPUT := Lib.hid (hT.out.put (j := i1) (by rw [flat_len]; exact hi1N) (leastO (nextT ks nv F ((B + 1 : Nat) : Int) (q : Int) x y j ((x + p : Nat) : Int) y + n)))
                  rw [← HE.out] at HPUT
                  generalize nextT ks nv F ((B + 1 : Nat) : Int) (q : Int) x y j ((x + p : Nat) : Int) y = t1 at *
                  have wt1 : IntKind.i64.wrap (t1 + n) = t1 + n := IntWalk.i64_in _ (by omega)
                  clear HE hT hi1n hm1
                  go_wp2_with fail
                  refine (HL.out _ _).mono ?_; rintro e w5 ⟨rfl, rfl⟩
                  rw [leastI_cap]
                  go_upto_region 20 with fail
                  have H5 := HPUT; clear HPUT c0 c1 f1
                  generalize w5.setCell ⟨gn, i1, none⟩ (.int .i64 (leastO (t1 + n))) = W5 at *
                  by_cases h2 : y + p ≤ B
                  · have e2 : ((y : Int) + (p : Int) ≤ (B : Int)) = True := by simp; omega
                    have e2' : decide ((y : Int) + (p : Int) ≤ (B : Int)) = true := decide_eq_true (by omega)
                    cases nv
                    · have e9 : True := trivial
                      obtain ⟨i2, hi2⟩ : ∃ i2 : Nat, (m0 : Int) + (y : Int) + (p : Int) = (i2 : Int) := ⟨m0 + y + p, by push_cast; rfl⟩
                      have hi2n : i2 = x * (B + 1) + (y + p) := by have := HM0.out; omega
                      have hi2N : i2 < N := by
                        have h1 : x * (B + 1) ≤ A * (B + 1) := Nat.mul_le_mul_right _ hxA
                        have h2 := HN.out
                        rw [Nat.add_mul, Nat.one_mul] at h2
                        omega
                      have hi2N' : (i2 : Int) < (N : Int) := by omega
                      have w2' : IntKind.i64.wrap (i2 : Int) = (i2 : Int) := IntWalk.i64_in _ (by omega)
                      have c2 := H5.out.2.1.cell (j := i2) (by rw [flat_len]; exact hi2N)
                      have f2 := H5.out.2.1.free i2
                      rw [hi2n, flat_at _ (by omega) (by rw [← hi2n]; exact hi2N), ← hi2n] at c2
                      have hmb := HMB.out x ((y + p : Nat) : Int)
                      have HE := Lib.hid (flat_kind1 (A := A) (W := B + 1) (x := x) (y := y) HF0.out HSTB.out (q := (q : Int)) hjl HP.out hp1 (by omega) rfl)
                      rw [HN.out, HNE.out, ← hi2n] at HE
                      generalize midT (nextT ks false F ((B + 1 : Nat) : Int) (q : Int) x y j) x y p n x ((y + p : Nat) : Int) = t2 at *
                      have HPUT := Lib.hid (H5.out.put (j := i2) (by rw [flat_len]; exact hi2N) (leastO (t2 + n)))
                      rw [← HE.out] at HPUT
                      have wt2 : IntKind.i64.wrap (t2 + n) = t2 + n := IntWalk.i64_in _ (by omega)
                      clear HE H5 hi2n
                      go_wp2_with fail
                      refine (HL.out _ _).mono ?_; rintro e w9 ⟨rfl, rfl⟩
                      rw [leastI_cap]
                      go_wp2_with fail
                      go_roundw
                      case rel => exact ⟨j + 1, by go_num, by omega, HPUT⟩
                      case measure => simp [intOf]; omega
                    · by_cases h3 : y + p ≤ x
                      · have e3 : ((y : Int) + (p : Int) ≤ (x : Int)) = True := by simp; omega
                        have e3' : decide ((y : Int) + (p : Int) ≤ (x : Int)) = true := decide_eq_true (by omega)
                        obtain ⟨i2, hi2⟩ : ∃ i2 : Nat, (m0 : Int) + (y : Int) + (p : Int) = (i2 : Int) := ⟨m0 + y + p, by push_cast; rfl⟩
                        have hi2n : i2 = x * (B + 1) + (y + p) := by have := HM0.out; omega
                        have hi2N : i2 < N := by
                          have h1 : x * (B + 1) ≤ A * (B + 1) := Nat.mul_le_mul_right _ hxA
                          have h2 := HN.out
                          rw [Nat.add_mul, Nat.one_mul] at h2
                          omega
                        have hi2N' : (i2 : Int) < (N : Int) := by omega
                        have w2' : IntKind.i64.wrap (i2 : Int) = (i2 : Int) := IntWalk.i64_in _ (by omega)
                        have c2 := H5.out.2.1.cell (j := i2) (by rw [flat_len]; exact hi2N)
                        have f2 := H5.out.2.1.free i2
                        rw [hi2n, flat_at _ (by omega) (by rw [← hi2n]; exact hi2N), ← hi2n] at c2
                        have hmb := HMB.out x ((y + p : Nat) : Int)
                        have HE := Lib.hid (flat_kind1 (A := A) (W := B + 1) (x := x) (y := y) HF0.out HSTB.out (q := (q : Int)) hjl HP.out hp1 (by omega) (by simp [stB]; omega))
                        rw [HN.out, HNE.out, ← hi2n] at HE
                        generalize midT (nextT ks true F ((B + 1 : Nat) : Int) (q : Int) x y j) x y p n x ((y + p : Nat) : Int) = t2 at *
                        have HPUT := Lib.hid (H5.out.put (j := i2) (by rw [flat_len]; exact hi2N) (leastO (t2 + n)))
                        rw [← HE.out] at HPUT
                        have wt2 : IntKind.i64.wrap (t2 + n) = t2 + n := IntWalk.i64_in _ (by omega)
                        clear HE H5 hi2n
                        go_wp2_with fail
                        refine (HL.out _ _).mono ?_; rintro e w9 ⟨rfl, rfl⟩
                        rw [leastI_cap]
                        go_wp2_with fail
                        go_roundw
                        case rel => exact ⟨j + 1, by go_num, by omega, HPUT⟩
                        case measure => simp [intOf]; omega
                      · have e3 : ((y : Int) + (p : Int) ≤ (x : Int)) = False := by simp; omega
                        have e3' : decide ((y : Int) + (p : Int) ≤ (x : Int)) = false := decide_eq_false (by omega)
                        have HE := Lib.hid (flat_kind0 (A := A) (W := B + 1) (x := x) (y := y) HF0.out HSTB.out (q := (q : Int)) hjl HP.out hp1 (by omega) (fun h => h3 (by have := h.2; simp [stB] at this; omega)))
                        rw [HN.out] at HE
                        have HFIN : Hid (TwoAt w g gn (flat F (B + 1) N) (flat (nextT ks true F ((B + 1 : Nat) : Int) (q : Int) x y (j + 1)) (B + 1) N) W5) := by
                          have := H5.out
                          rw [show (flat (nextT ks true F ((B + 1 : Nat) : Int) (q : Int) x y (j + 1)) (B + 1) N) = flat (midT (nextT ks true F ((B + 1 : Nat) : Int) (q : Int) x y j) x y p n) (B + 1) N by rw [HE.out, HNE.out]]
                          exact this
                        clear HE H5
                        go_wp2_with fail
                        go_roundw
                        case rel => exact ⟨j + 1, by go_num, by omega, HFIN⟩
                        case measure => simp [intOf]; omega
                  · have e2 : ((y : Int) + (p : Int) ≤ (B : Int)) = False := by simp; omega
                    have e2' : decide ((y : Int) + (p : Int) ≤ (B : Int)) = false := decide_eq_false (by omega)
                    have HE := Lib.hid (flat_kind0 (A := A) (W := B + 1) (x := x) (y := y) HF0.out HSTB.out (q := (q : Int)) hjl HP.out hp1 (by omega) (fun h => h2 (by omega)))
                    rw [HN.out] at HE
                    have HFIN : Hid (TwoAt w g gn (flat F (B + 1) N) (flat (nextT ks nv F ((B + 1 : Nat) : Int) (q : Int) x y (j + 1)) (B + 1) N) W5) := by
                      have := H5.out
                      rw [show (flat (nextT ks nv F ((B + 1 : Nat) : Int) (q : Int) x y (j + 1)) (B + 1) N) = flat (midT (nextT ks nv F ((B + 1 : Nat) : Int) (q : Int) x y j) x y p n) (B + 1) N by rw [HE.out, HNE.out]]
                      exact this
                    clear HE H5
                    go_wp2_with fail
                    go_roundw
                    case rel => exact ⟨j + 1, by go_num, by omega, HFIN⟩
                    case measure => simp [intOf]; omega
                · have e1 : ((x : Int) + (p : Int) ≤ (A : Int)) = False := by simp; omega
                  have HE := Lib.hid (flat_mid0 (T := nextT ks nv F ((B + 1 : Nat) : Int) (q : Int) x y j) (A := A) (x := x) (p := p) (n := n) hyW h1)
                  rw [HN.out] at HE
                  go_upto_region 20 with fail
                  have H5 : Hid (TwoAt w g gn (flat F (B + 1) N) (flat (midT (nextT ks nv F ((B + 1 : Nat) : Int) (q : Int) x y j) x y p n) (B + 1) N) wr) := by rw [HE.out]; exact hT
                  clear HE hT c0
                  generalize wr = W5 at *
                  by_cases h2 : y + p ≤ B
                  · have e2 : ((y : Int) + (p : Int) ≤ (B : Int)) = True := by simp; omega
                    have e2' : decide ((y : Int) + (p : Int) ≤ (B : Int)) = true := decide_eq_true (by omega)
                    cases nv
                    · have e9 : True := trivial
                      obtain ⟨i2, hi2⟩ : ∃ i2 : Nat, (m0 : Int) + (y : Int) + (p : Int) = (i2 : Int) := ⟨m0 + y + p, by push_cast; rfl⟩
                      have hi2n : i2 = x * (B + 1) + (y + p) := by have := HM0.out; omega
                      have hi2N : i2 < N := by
                        have h1 : x * (B + 1) ≤ A * (B + 1) := Nat.mul_le_mul_right _ hxA
                        have h2 := HN.out
                        rw [Nat.add_mul, Nat.one_mul] at h2
                        omega
                      have hi2N' : (i2 : Int) < (N : Int) := by omega
                      have w2' : IntKind.i64.wrap (i2 : Int) = (i2 : Int) := IntWalk.i64_in _ (by omega)
                      have c2 := H5.out.2.1.cell (j := i2) (by rw [flat_len]; exact hi2N)
                      have f2 := H5.out.2.1.free i2
                      rw [hi2n, flat_at _ (by omega) (by rw [← hi2n]; exact hi2N), ← hi2n] at c2
                      have hmb := HMB.out x ((y + p : Nat) : Int)
                      have HE := Lib.hid (flat_kind1 (A := A) (W := B + 1) (x := x) (y := y) HF0.out HSTB.out (q := (q : Int)) hjl HP.out hp1 (by omega) rfl)
                      rw [HN.out, HNE.out, ← hi2n] at HE
                      generalize midT (nextT ks false F ((B + 1 : Nat) : Int) (q : Int) x y j) x y p n x ((y + p : Nat) : Int) = t2 at *
                      have HPUT := Lib.hid (H5.out.put (j := i2) (by rw [flat_len]; exact hi2N) (leastO (t2 + n)))
                      rw [← HE.out] at HPUT
                      have wt2 : IntKind.i64.wrap (t2 + n) = t2 + n := IntWalk.i64_in _ (by omega)
                      clear HE H5 hi2n
                      go_wp2_with fail
                      refine (HL.out _ _).mono ?_; rintro e w9 ⟨rfl, rfl⟩
                      rw [leastI_cap]
                      go_wp2_with fail
                      go_roundw
                      case rel => exact ⟨j + 1, by go_num, by omega, HPUT⟩
                      case measure => simp [intOf]; omega
                    · by_cases h3 : y + p ≤ x
                      · have e3 : ((y : Int) + (p : Int) ≤ (x : Int)) = True := by simp; omega
                        have e3' : decide ((y : Int) + (p : Int) ≤ (x : Int)) = true := decide_eq_true (by omega)
                        obtain ⟨i2, hi2⟩ : ∃ i2 : Nat, (m0 : Int) + (y : Int) + (p : Int) = (i2 : Int) := ⟨m0 + y + p, by push_cast; rfl⟩
                        have hi2n : i2 = x * (B + 1) + (y + p) := by have := HM0.out; omega
                        have hi2N : i2 < N := by
                          have h1 : x * (B + 1) ≤ A * (B + 1) := Nat.mul_le_mul_right _ hxA
                          have h2 := HN.out
                          rw [Nat.add_mul, Nat.one_mul] at h2
                          omega
                        have hi2N' : (i2 : Int) < (N : Int) := by omega
                        have w2' : IntKind.i64.wrap (i2 : Int) = (i2 : Int) := IntWalk.i64_in _ (by omega)
                        have c2 := H5.out.2.1.cell (j := i2) (by rw [flat_len]; exact hi2N)
                        have f2 := H5.out.2.1.free i2
                        rw [hi2n, flat_at _ (by omega) (by rw [← hi2n]; exact hi2N), ← hi2n] at c2
                        have hmb := HMB.out x ((y + p : Nat) : Int)
                        have HE := Lib.hid (flat_kind1 (A := A) (W := B + 1) (x := x) (y := y) HF0.out HSTB.out (q := (q : Int)) hjl HP.out hp1 (by omega) (by simp [stB]; omega))
                        rw [HN.out, HNE.out, ← hi2n] at HE
                        generalize midT (nextT ks true F ((B + 1 : Nat) : Int) (q : Int) x y j) x y p n x ((y + p : Nat) : Int) = t2 at *
                        have HPUT := Lib.hid (H5.out.put (j := i2) (by rw [flat_len]; exact hi2N) (leastO (t2 + n)))
                        rw [← HE.out] at HPUT
                        have wt2 : IntKind.i64.wrap (t2 + n) = t2 + n := IntWalk.i64_in _ (by omega)
                        clear HE H5 hi2n
                        go_wp2_with fail
                        refine (HL.out _ _).mono ?_; rintro e w9 ⟨rfl, rfl⟩
                        rw [leastI_cap]
                        go_wp2_with fail
                        go_roundw
                        case rel => exact ⟨j + 1, by go_num, by omega, HPUT⟩
                        case measure => simp [intOf]; omega
                      · have e3 : ((y : Int) + (p : Int) ≤ (x : Int)) = False := by simp; omega
                        have e3' : decide ((y : Int) + (p : Int) ≤ (x : Int)) = false := decide_eq_false (by omega)
                        have HE := Lib.hid (flat_kind0 (A := A) (W := B + 1) (x := x) (y := y) HF0.out HSTB.out (q := (q : Int)) hjl HP.out hp1 (by omega) (fun h => h3 (by have := h.2; simp [stB] at this; omega)))
                        rw [HN.out] at HE
                        have HFIN : Hid (TwoAt w g gn (flat F (B + 1) N) (flat (nextT ks true F ((B + 1 : Nat) : Int) (q : Int) x y (j + 1)) (B + 1) N) W5) := by
                          have := H5.out
                          rw [show (flat (nextT ks true F ((B + 1 : Nat) : Int) (q : Int) x y (j + 1)) (B + 1) N) = flat (midT (nextT ks true F ((B + 1 : Nat) : Int) (q : Int) x y j) x y p n) (B + 1) N by rw [HE.out, HNE.out]]
                          exact this
                        clear HE H5
                        go_wp2_with fail
                        go_roundw
                        case rel => exact ⟨j + 1, by go_num, by omega, HFIN⟩
                        case measure => simp [intOf]; omega
                  · have e2 : ((y : Int) + (p : Int) ≤ (B : Int)) = False := by simp; omega
                    have e2' : decide ((y : Int) + (p : Int) ≤ (B : Int)) = false := decide_eq_false (by omega)
                    have HE := Lib.hid (flat_kind0 (A := A) (W := B + 1) (x := x) (y := y) HF0.out HSTB.out (q := (q : Int)) hjl HP.out hp1 (by omega) (fun h => h2 (by omega)))
                    rw [HN.out] at HE
                    have HFIN : Hid (TwoAt w g gn (flat F (B + 1) N) (flat (nextT ks nv F ((B + 1 : Nat) : Int) (q : Int) x y (j + 1)) (B + 1) N) W5) := by
                      have := H5.out
                      rw [show (flat (nextT ks nv F ((B + 1 : Nat) : Int) (q : Int) x y (j + 1)) (B + 1) N) = flat (midT (nextT ks nv F ((B + 1 : Nat) : Int) (q : Int) x y j) x y p n) (B + 1) N by rw [HE.out, HNE.out]]
                      exact this
                    clear HE H5
                    go_wp2_with fail
                    go_roundw
                    case rel => exact ⟨j + 1, by go_num, by omega, HFIN⟩
                    case measure => simp [intOf]; omega
              · obtain rfl : j = ks.length := by omega
                have H6 : Hid (TwoAt w g gn (flat F (B + 1) N) (flat (nextT ks nv F ((B + 1 : Nat) : Int) ((q + 1 : Nat) : Int) 0 0 0) (B + 1) N) wr) := by rw [HSRC.out]; exact hT
                clear hT
                go_wp2_with fail
                go_roundw
                case rel => exact ⟨q + 1, by go_num, by omega, H6⟩
                case measure => simp [intOf]; omega
        · obtain rfl : q = N := by omega
          have he := HEND.out
          rw [HN.out] at he
          have h7 := hT.out.2.1
          rw [he] at h7
          have H7 := Lib.hid (And.intro h7 (And.intro (show w.heap.size ≤ gn by have := hT.out.2.2.1; have := hT.out.2.2.2.1; omega) hT.out.2.2.2.2))
          clear he h7 hT HEND
          go_wp2_with fail
          go_roundw
          case rel => exact ⟨k + 1, gn, rfl, rfl, by go_num, by omega, H7⟩
          case measure => simp [intOf]; omega
    · obtain rfl : k = 61 := by omega
      rw [HV.out]
      have HB := Lib.hid hT.out.2.2
      go_wp2_with fail
      go_ret
      exact ⟨rfl, HB.out⟩
end Go.Proofs.Ytooaeafnneikkab
