/-
  Goals: FirstGoals: the program's.
-/
import Derived.Test.YthbhhcpkilckkaaGoFst
import Derived.Test.YthbhhcpkilckkaaGoOut
import Derived.Test.YthbhhcpkilckkaaGoTabP
namespace Go.Proofs.Ythbhhcpkilckkaa
open Go.RowKit
set_option linter.unusedVariables false
set_option linter.unusedSimpArgs false

theorem cnt_go {ks : List Int} {p f u t C : Nat} (hp : 1 ≤ p) (hu : u ≤ f) (h : cntP ks p f u + t = C) (hc : p ≤ u ∧ fewP ks (u - p) = fewP ks u - 1) : ∃ f', u - p ≤ f' ∧ cntP ks p f' (u - p) + (t + 1) = C := by
  cases f with
  | zero => omega
  | succ f =>
    unfold cntP at h
    rw [if_pos hc] at h
    exact ⟨f, by omega, by omega⟩
theorem cnt_stop {ks : List Int} {p f u t C : Nat} (h : cntP ks p f u + t = C) (hc : ¬ (p ≤ u ∧ fewP ks (u - p) = fewP ks u - 1)) : t = C := by
  cases f with
  | zero => unfold cntP at h; omega
  | succ f =>
    unfold cntP at h
    rw [if_neg hc] at h
    omega
theorem take_rev {ks : List Int} {j : Nat} (hj : j < ks.length) : ((natK ks).take (j + 1)).reverse = (ks.getD j 0).toNat :: ((natK ks).take j).reverse := by
  unfold natK
  rw [List.take_succ_eq_append_getElem (by simpa using hj), List.reverse_append]
  simp [hj]
theorem greed_go {ks : List Int} {j : Nat} (hj : j < ks.length) {p u u0 C : Nat} (hp : ks.getD j 0 = (p : Int)) (hu : u + C * p = u0) (hC : cntP ks p u0 u0 = C) {done R : List Int}
    (h : (greedP ks ((natK ks).take (j + 1)).reverse u0).reverse ++ done = R) : (greedP ks ((natK ks).take j).reverse u).reverse ++ (C : Int) :: done = R := by
  rw [take_rev hj, hp, Int.toNat_natCast, greedP, hC, show u0 - C * p = u by omega] at h
  simpa using h
/-- What FirstGoals hands back. -/
def firstV (ks : List Int) (s : Int) : List Int := if hasF ks s = true then (greedP ks (natK ks).reverse s.toNat).reverse else []
def FsAt (w2 : World) (g : Nat) (L : List Int) (wr : World) : Prop := RowAt wr g 3 L ∧ Below w2.heap.size w2 wr
theorem FsAt.put {w2 : World} {g : Nat} {j : Nat} {x : Int} {done : List Int} {wr : World} (h : FsAt w2 g (List.replicate j 0 ++ x :: done) wr) (hg : w2.heap.size ≤ g) (y : Int) (q : Nat) :
    FsAt w2 g (List.replicate j 0 ++ y :: done) ((wr.drewN q).setCell ⟨g, j, none⟩ (.int .i64 y)) := by
  refine ⟨?_, (below_drewN h.2 q).setCell (p := ⟨g, j, none⟩) hg _⟩
  have := (h.1.drewN q).put (j := j) (by simp) y
  have e := set_at (List.replicate j 0) x y done
  rw [List.length_replicate] at e
  rw [e] at this
  exact this
theorem FsAt.get {w2 : World} {g : Nat} {j : Nat} {x : Int} {done : List Int} {wr : World} (h : FsAt w2 g (List.replicate j 0 ++ x :: done) wr) : wr.cell? ⟨g, j, none⟩ = some (.int .i64 x) := by
  have := h.1.cell (j := j) (by simp)
  have e := snoc_get (List.replicate j 0) x done
  rw [List.length_replicate] at e
  rwa [e] at this

set_option maxHeartbeats 6400000 in
theorem implFst_row (ks : List Int) (s : Int) (a : Option Addr) (c : Nat) (w : World) (hl : (ks.length : Int) ≤ 1000000000000) (h : Reads w a (ints ks)) :
    Calls Try.prog 29 #[.slice a ks.length c, .int .i64 s] w fun e w' => RowR (firstV ks s) (hasF ks s) w e w' := by
  have HQ := Lib.hid (implCan_any ks s a c w hl h)
  cases hh : hasF ks s
  · have e1 : firstV ks s = [] := by simp [firstV, hh]
    have HE := Lib.hid e1
    have HH := Lib.hid hh; clear hh e1 h
    go_enter Try.func29, Try.ntmps29
    go_wp2_with fail
    refine HQ.out.mono ?_; rintro e w1 ⟨rfl, b1⟩
    rw [HH.out]
    go_wp2_with fail
    refine bodyPost_ret (v := .tuple #[.slice none 0 0, .bool false]) (by simp [results, Try.results29, go_sem]) rfl ⟨_, rfl, by rw [HE.out]; exact owns_nil _ _ _, b1⟩
  · have hg : askedG ks s = true := by unfold hasF at hh; simp at hh; exact hh.1
    obtain ⟨m, rfl, hm, hk⟩ := asked_nat hg
    have e1 : firstV ks (m : Int) = (greedP ks (natK ks).reverse m).reverse := by simp [firstV, hh]
    rw [e1]; clear e1
    have hstart : (greedP ks ((natK ks).take ks.length).reverse m).reverse ++ [] = (greedP ks (natK ks).reverse m).reverse := by
      rw [List.append_nil, List.take_of_length_le (by simp [natK])]
    generalize (greedP ks (natK ks).reverse m).reverse = R at *
    have HST := Lib.hid hstart; clear hstart
    have HH := Lib.hid hh; clear hh
    have HG := Lib.hid hg; clear hg
    have HF := Lib.hid (fun w' (hr : Reads w' a (ints ks)) => fewestBy_any ks hk m (by omega) a c w' hl hr)
    have HK := Lib.hid hk; clear hk
    have HR := Lib.hid h; clear h
    obtain ⟨i0, hi, hz0, hz1, hz2⟩ := info_parts infoInt
    have HI := Lib.hid (And.intro hi (And.intro hz0 (And.intro hz1 hz2))); clear hi hz0 hz1 hz2
    go_enter Try.func29, Try.ntmps29
    go_wp2_with fail
    refine HQ.out.mono ?_; rintro e w1 ⟨rfl, b1⟩
    rw [HH.out]
    have B1 := Lib.hid b1; clear b1
    go_wp2_with fail
    refine (HF.out _ (HR.out.old B1.out)).mono ?_; rintro e w2 ⟨v, rfl, ht⟩
    have hbt := ht.2
    obtain ⟨gT, capT, rfl, _, hgT, hcT⟩ := own_cells ht.1 (by rw [tabP_len]; omega)
    rw [tabP_len]
    have B2 := Lib.hid (And.intro (B1.out.trans (hbt.mono B1.out.size)) (And.intro hgT (fun j (hj : j ≤ m) => (hcT j (by rw [tabP_len]; omega)).trans (by rw [tab_few ks hj])))); clear ht hbt hcT hgT
    go_wp2_with (at_make; refine wpList_make_full _ rfl _ _ _ rfl w2.heap.size _ i0 _ 1 Try.underlying22 HI.out.1 HI.out.2.1 HI.out.2.2.1 .i64 .i64 _ _ ks.length rfl rfl rfl rfl ?_ ?_ (Nat.le_refl _) ?_)
    · rw [HI.out.2.2.2]; omega
    · unfold maxLen; omega
    intro w3 hown hgrow
    have hr := (RowAt.made (e := 3) hown).1
    have hbel : Below w2.heap.size w2 w3 := (Below.refl _ _).grown hgrow (Nat.le_refl _) (fun k hk => by cases hk)
    have H3 : Hid (FsAt w2 w2.heap.size (List.replicate ks.length 0 ++ []) w3) := ⟨by rw [List.append_nil]; exact hr, hbel⟩
    clear hr hbel hown hgrow
    generalize hgg : w2.heap.size = g at H3 ⊢
    have HGG := Lib.hid (Nat.le_of_eq hgg)
    clear hgg
    go_wp2_with fail
    have hz0 : FsAt w2 g (List.replicate ks.length 0 ++ []) w3 := H3.out
    go_loopw [1, 10] (fun sc i wr => ∃ (k u : Nat) (z : Int) (done : List Int), i = .int .i64 z ∧ z = (k : Int) - 1 ∧ sc = .int .i64 u ∧ k ≤ ks.length ∧ done.length + k = ks.length ∧ u ≤ m ∧ Hid ((greedP ks ((natK ks).take k).reverse u).reverse ++ done = R) ∧ Hid (FsAt w2 g (List.replicate k 0 ++ done) wr)) (fun _ i _ => (intOf i + 1).toNat)
    case atStart => exact ⟨ks.length, m, _, [], rfl, rfl, rfl, Nat.le_refl _, by simp, Nat.le_refl _, HST, H3⟩
    case round =>
      clear HST H3 hz0
      obtain ⟨k, u0, z, done, rfl, hz, rfl, hkn, hdl, hum, hR, hT⟩ := hrel
      rcases Nat.eq_zero_or_pos k with rfl | hk0
      · obtain rfl : z = -1 := by omega
        clear hz
        have hfin : done = R := hR.out
        subst hfin
        have hlen : done.length = ks.length := by omega
        have hrow : RowAt wr g 3 done := hT.out.1
        have hown := hrow.own (base := w.heap.size) (by have := B2.out.1.size; have := HGG.out; omega) (by rw [hlen]; unfold maxLen; omega)
        have HE := Lib.hid (And.intro hown (B2.out.1.trans (hT.out.2.mono B2.out.1.size)))
        clear hown hrow hT
        rw [hlen] at HE
        go_wp2_with fail
        refine bodyPost_ret (v := .tuple #[.slice (some ⟨g, 0, none⟩) ks.length ks.length, .bool true]) (by simp [results, Try.results29, go_sem]) rfl ⟨_, rfl, by rw [hlen]; exact HE.out.1, HE.out.2⟩
      · obtain ⟨j, rfl⟩ : ∃ j, k = j + 1 := ⟨k - 1, by omega⟩
        obtain rfl : z = (j : Int) := by omega
        clear hz
        have hj : j < ks.length := by omega
        obtain ⟨b, off, rfl, _, hc⟩ := cells_of_reads (HR.out.old (B2.out.1.trans (hT.out.2.mono B2.out.1.size))) (by omega)
        have c0 := hc j hj
        obtain ⟨x1, x2⟩ := HK.out (ks.getD j 0) (by simp [hj])
        obtain ⟨p, hp⟩ : ∃ p : Nat, ks.getD j 0 = (p : Int) := ⟨(ks.getD j 0).toNat, by omega⟩
        rw [hp] at c0 x1 x2
        have HP := Lib.hid hp
        have hT1 : Hid (FsAt w2 g (List.replicate j 0 ++ (((0 : Nat) : Int)) :: done) wr) := by
          have := hT.out
          rw [List.replicate_succ'] at this
          exact Lib.hid (by simpa using this)
        have HC := Lib.hid (show ∃ C, C = cntP ks p u0 u0 from ⟨_, rfl⟩)
        clear hc hp hT
        have d0 : (j : Int) < (ks.length : Int) := by omega
        go_wp2_with fail
        go_loopw [1] (fun sc wr => ∃ (f u t : Nat), sc = .int .i64 u ∧ u ≤ f ∧ u + t ≤ u0 ∧ Hid (u + t * p = u0) ∧ Hid (cntP ks p f u + t = cntP ks p u0 u0) ∧ Hid (FsAt w2 g (List.replicate j 0 ++ (t : Int) :: done) wr)) (fun sc _ => (intOf sc).toNat)
        case atStart => exact ⟨u0, u0, 0, rfl, Nat.le_refl _, by omega, Lib.hid (by simp), Lib.hid rfl, hT1⟩
        case round =>
          clear hT1 c0
          obtain ⟨f, u, t, rfl, huf, hut, hSum, hCnt, hT⟩ := hrel
          have hcell := fun j' (hj' : j' ≤ m) => (hT.out.2.cell (p := ⟨gT, j', none⟩) B2.out.2.1).trans (B2.out.2.2 j' hj')
          by_cases q1 : p ≤ u
          · obtain ⟨d, hd⟩ : ∃ d : Nat, (u : Int) - (p : Int) = (d : Int) := ⟨u - p, by omega⟩
            have hdu : d = u - p := by omega
            have cT1 := hcell d (by omega)
            have cT2 := hcell u (by omega)
            have hx := fewP_bd (fun x hx => (HK.out x hx).1) (s := d) (by omega)
            have hy := fewP_bd (fun x hx => (HK.out x hx).1) (s := u) (by omega)
            have wn : IntKind.i64.wrap (d : Int) = (d : Int) := IntWalk.i64_in _ (by omega)
            have e1 : (d : Int) < (m : Int) + 1 := by omega
            have e2 : (u : Int) < (m : Int) + 1 := by omega
            have e3 : (p : Int) ≤ (u : Int) := by omega
            have e4 : decide ((p : Int) ≤ (u : Int)) = true := decide_eq_true e3
            have hstep := cnt_go (ks := ks) (t := t) (C := cntP ks p u0 u0) (by omega : 1 ≤ p) huf hCnt.out
            have hstop := cnt_stop (ks := ks) (f := f) (u := u) (t := t) (C := cntP ks p u0 u0) hCnt.out
            rw [← hdu] at hstep hstop
            have HSTEP := Lib.hid hstep
            have HSTOP := Lib.hid hstop
            clear hstep hstop hcell hCnt
            generalize fewP ks d = x at *
            generalize fewP ks u = y at *
            have wy : IntKind.i64.wrap (y - 1) = y - 1 := IntWalk.i64_in _ (by omega)
            by_cases q2 : x = y - 1
            · subst q2
              have e5 : ((y - 1) == (y - 1)) = true := by simp
              obtain ⟨f', h1, h2⟩ := HSTEP.out ⟨q1, rfl⟩
              have c1 := hT.out.get
              have f1 := hT.out.1.free j
              have HPUT := Lib.hid (fun q => hT.out.put HGG.out (((t + 1 : Nat) : Int)) q)
              have HC2 := Lib.hid h2
              have HS2 : Hid (d + (t + 1) * p = u0) := by have := hSum.out; exact Lib.hid (by rw [Nat.succ_mul]; omega)
              clear h2 HSTEP HSTOP hdu
              go_wp2_with fail
              go_quiet (fail)
              go_wp2_with fail
              go_roundw
              case rel => exact ⟨f', d, t + 1, rfl, h1, by omega, HS2, HC2, Lib.hid (HPUT.out _)⟩
              case measure => simp [intOf]; omega
            · have e5 : (x == y - 1) = false := by simpa using q2
              have hC := HSTOP.out (fun h => q2 h.2)
              clear HSTEP hdu
              have hS := hSum.out
              rw [hC] at hS hT
              have HGO := Lib.hid (greed_go hj HP.out hS rfl hR.out)
              have HTT := Lib.hid (fun q => (show FsAt w2 g (List.replicate j 0 ++ (cntP ks p u0 u0 : Int) :: done) (wr.drewN q) from ⟨hT.out.1.drewN q, below_drewN hT.out.2 q⟩))
              clear hS hC HSTOP hT
              go_wp2_with fail
              go_quiet (fail)
              go_wp2_with fail
              go_roundw
              case rel => exact ⟨j, u, _, (cntP ks p u0 u0 : Int) :: done, rfl, by go_num, rfl, by omega, by rw [List.length_cons]; omega, by omega, HGO, Lib.hid (HTT.out _)⟩
              case measure => simp [intOf]
          · have e3 : ¬ (p : Int) ≤ (u : Int) := by omega
            have e4 : decide ((p : Int) ≤ (u : Int)) = false := decide_eq_false e3
            have hC := cnt_stop hCnt.out (fun h => q1 h.1)
            have HSTOP := Lib.hid e4
            have e6 : decide (p ≤ u) = false := decide_eq_false q1
            clear hcell hCnt q1
            have hS := hSum.out
            rw [hC] at hS hT
            have HGO := Lib.hid (greed_go hj HP.out hS rfl hR.out)
            have HTT := Lib.hid (fun q => (show FsAt w2 g (List.replicate j 0 ++ (cntP ks p u0 u0 : Int) :: done) (wr.drewN q) from ⟨hT.out.1.drewN q, below_drewN hT.out.2 q⟩))
            clear hS hC HSTOP hT
            go_wp2_with fail
            go_quiet (fail)
            go_wp2_with fail
            go_roundw
            case rel => exact ⟨j, u, _, (cntP ks p u0 u0 : Int) :: done, rfl, by go_num, rfl, by omega, by rw [List.length_cons]; omega, by omega, HGO, Lib.hid (HTT.out _)⟩
            case measure => simp [intOf]
end Go.Proofs.Ythbhhcpkilckkaa
