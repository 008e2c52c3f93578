/-
  Puzzles: PzPlay, PzSolv, PzSols, PzSolz, PzCnts.
-/
import Derived.Test.YtcigighklghjkaaDoorPzTold
import Derived.Test.YtcigighklghjkaaDoorPzWith
import Derived.Maps.AppendAt
import Derived.OwnWalk
import Derived.Test.YtcigighklghjkaaDoorPzIs
namespace Go.Proofs.YtcigighklghjkaaDoor
open Go.RowKit
set_option linter.unusedVariables false
set_option linter.unusedSimpArgs false

theorem pre_a (T : List UInt8) : ((⟨#[97, 98]⟩ : ByteArray).extract 0 1 ++ (⟨T.toArray⟩ : ByteArray)) = ⟨(97 :: T).toArray⟩ := by
  rw [show (⟨#[97, 98]⟩ : ByteArray).extract 0 1 = ⟨#[97]⟩ from by decide, ByteArray.mk_append_mk]; simp
theorem pre_b (T : List UInt8) : ((⟨#[97, 98]⟩ : ByteArray).extract 1 2 ++ (⟨T.toArray⟩ : ByteArray)) = ⟨(98 :: T).toArray⟩ := by
  rw [show (⟨#[97, 98]⟩ : ByteArray).extract 1 2 = ⟨#[98]⟩ from by decide, ByteArray.mk_append_mk]; simp

set_option maxHeartbeats 3200000 in
theorem pzPlay_any (p N : Nat) (w : World) (hp : p ≤ 8) (hN : N ≤ 1000000) :
    Calls Tryd.prog 82 #[.int .i64 p, .int .i64 N] w fun e w' => e = .returned (.string (binB p N)) ∧ w' = w := by
  have hbb : binB p N = ⟨(binL p N).toArray⟩ := rfl
  rw [hbb]; clear hbb
  go_enter Tryd.func82, Tryd.ntmps82
  go_wp2_with fail
  go_loopw [0, 1, 5] (fun r m q wr => ∃ (i n : Nat) (T : List UInt8), r = .int .i64 i ∧ m = .int .i64 n ∧ q = .string ⟨T.toArray⟩ ∧ i ≤ p ∧ n ≤ 1000000 ∧ T.length ≤ 8 - i ∧ Hid (binL i n ++ T = binL p N ∧ wr = w)) (fun r _ _ _ => (intOf r).toNat)
  case atStart => exact ⟨p, N, [], rfl, rfl, rfl, Nat.le_refl _, hN, by simp, List.append_nil _, rfl⟩
  case round =>
    obtain ⟨i, n, T, rfl, rfl, rfl, hi, hn, hT, hH⟩ := hrel
    obtain ⟨hq, rfl⟩ := hH.out
    clear hH
    cases i with
    | zero =>
      have HQ := Lib.hid hq; clear hq
      go_wp2_with fail
      go_ret
      exact ⟨by rw [← HQ.out]; rfl, rfl⟩
    | succ j =>
      have b1 : ((j + 1 : Nat) : Int) > 0 := by omega
      have hw1 : IntKind.i64.wrap (((j + 1 : Nat) : Int) - 1) = (j : Int) := by rw [IntKind.wrap_i64]; omega
      have hst : binL (j + 1) n ++ T = binL j (n / 2) ++ ((if n % 2 = 0 then 97 else 98) :: T) := by rw [binL]; simp
      rw [hst] at hq
      have HQ := Lib.hid hq; clear hq hst
      have hT8 : T.length ≤ 7 := by omega
      have hn0 : (0 : Int) ≤ (n : Int) := by omega
      have hnb : (n : Int) ≤ 1000000 := by omega
      have e1 : ((n : Int)).tdiv 2 = ((n / 2 : Nat) : Int) := by rw [Int.tdiv_eq_ediv_of_nonneg (by omega)]; omega
      have e2 : ((n : Int)) / 2 = ((n / 2 : Nat) : Int) := by omega
      have e7 : IntKind.i64.wrap ((n / 2 : Nat) : Int) = ((n / 2 : Nat) : Int) := by rw [IntKind.wrap_i64]; omega
      by_cases hd : n % 2 = 0
      · have hm : (n : Int) % 2 = 0 := by omega
        have hm2 : (n : Int).tmod 2 = 0 := by rw [Int.tmod_eq_emod_of_nonneg (by omega)]; exact hm
        have ha : ∀ W : World, (Op.stringOp .add ⟨#[97]⟩ ⟨T.toArray⟩).run Tryd.prog W = .ok (.string ⟨([97] ++ T).toArray⟩) W := fun W => run_string_add_lists W [97] T (by simp) (by omega)
        rw [if_pos hd] at HQ
        have hh : n / 2 ≤ 1000000 := by omega
        clear hd
        generalize n / 2 = h at *
        go_wp2_with fail
        go_roundw
        case rel => exact ⟨j, h, 97 :: T, by go_num, by go_num, by rw [pre_a], by omega, by omega, by simp; omega, HQ.out, trivial⟩
        case measure => (simp [intOf]) <;> omega
      · have hm : (n : Int) % 2 = 1 := by omega
        have hm2 : (n : Int).tmod 2 = 1 := by rw [Int.tmod_eq_emod_of_nonneg (by omega)]; exact hm
        have ha : ∀ W : World, (Op.stringOp .add ⟨#[98]⟩ ⟨T.toArray⟩).run Tryd.prog W = .ok (.string ⟨([98] ++ T).toArray⟩) W := fun W => run_string_add_lists W [98] T (by simp) (by omega)
        rw [if_neg hd] at HQ
        have hh : n / 2 ≤ 1000000 := by omega
        clear hd
        generalize n / 2 = h at *
        go_wp2_with fail
        go_roundw
        case rel => exact ⟨j, h, 98 :: T, by go_num, by go_num, by rw [pre_b], by omega, by omega, by simp; omega, HQ.out, trivial⟩
        case measure => (simp [intOf]) <;> omega

def strs (l : List ByteArray) : List Value := l.map Value.string
theorem strs_len (l : List ByteArray) : (strs l).length = l.length := by simp [strs]
theorem strs_append (l m : List ByteArray) : strs (l ++ m) = strs l ++ strs m := by simp [strs]
theorem strs_get (l : List ByteArray) (j : Nat) (h : j < l.length) : (strs l)[j]? = some (.string (l.getD j ⟨#[]⟩)) := by simp [strs, h]
theorem scells_of_reads {w : World} {a : Option Addr} {l : List ByteArray} (h : Reads w a (strs l)) (hne : 0 < l.length) :
    ∃ b off, a = some ⟨b, off, none⟩ ∧ b < w.heap.size ∧ ∀ j, j < l.length → w.cell? ⟨b, off + j, none⟩ = some (.string (l.getD j ⟨#[]⟩)) := by
  rcases h with h | ⟨b, off, rfl, hlt, hc⟩
  · have := congrArg List.length h; rw [strs_len, List.length_nil] at this; omega
  · exact ⟨b, off, rfl, hlt, fun j hj => by rw [hc j (by rw [strs_len]; exact hj), strs_get _ _ hj]⟩
theorem infoStr : (Tryd.prog.info? 9).map (fun i => (i.zero, i.size, i.bytes)) = some (some (.string ⟨#[]⟩), 1, 16) := by kernel_rfl
theorem cell_two_new (w : World) (x y : Value) (t : TypeId) : ∀ j u, [x, y][j]? = some u → (w.alloc (.cells #[x, y] t)).cell? ((⟨w.heap.size, 0, none⟩ : Addr).add j) = some u := by
  intro j u hj
  have e : (⟨w.heap.size, 0, none⟩ : Addr).add j = ⟨w.heap.size, 0 + j, none⟩ := by unfold Addr.add; split <;> simp_all
  rw [e, Nat.zero_add, (ObAt.new w t #[x, y]).cell j]
  simpa using hj
/-- Points so many, as texts, as the program makes them. -/
def allS (p : Nat) : List ByteArray := (allL p).map fun l => ⟨l.toArray⟩
theorem allS_eq (p : Nat) : allS p = allB p := by
  unfold allS allB
  rw [allL_eq, List.map_map]; rfl
def growS (s : ByteArray) : List ByteArray := [s ++ ⟨#[97]⟩, s ++ ⟨#[98]⟩]
theorem growS_eq (l : List UInt8) : (growB l).map (fun l => (⟨l.toArray⟩ : ByteArray)) = growS ⟨l.toArray⟩ := by
  simp only [growB, growS, List.map_cons, List.map_nil, ByteArray.mk_append_mk, List.append_toArray]
theorem allS_succ (p : Nat) : allS (p + 1) = (allS p).flatMap growS := by
  unfold allS
  rw [allL, List.map_flatMap, List.flatMap_map]
  simp only [growS_eq]
theorem allS_len (p : Nat) : (allS p).length = 2 ^ p := by rw [allS_eq, allB_len]
theorem allS_size {p : Nat} {s : ByteArray} (h : s ∈ allS p) : s.size = p := by
  rw [allS_eq] at h
  simp only [allB, List.mem_map] at h
  obtain ⟨n, -, rfl⟩ := h
  exact binB_size p n
theorem flat_len (L : List ByteArray) : (L.flatMap growS).length = 2 * L.length := by
  induction L with
  | nil => rfl
  | cons s L ih => rw [List.flatMap_cons, List.length_append, ih]; simp [growS]; omega
/-- A row of texts that is the call's own, and what lay below. -/
def RoS (B : Nat) (w : World) (l : List ByteArray) (v : Value) (wr : World) : Prop := wr.ownsRow B 9 1 v l.length (strs l) ∧ Below B w wr
theorem RoS.grown {B : Nat} {w wr W5 : World} {l : List ByteArray} {v : Value} (h : RoS B w l v wr) (hg : wr.grownBy W5 v.ownBlock) (hB : B ≤ wr.heap.size) : Below B w W5 :=
  h.2.grown hg hB (fun g e => (owns_ge h.1 e).1)
theorem RoS.keep {B : Nat} {w wr W5 : World} {l : List ByteArray} {v : Value} (h : RoS B w l v wr) (hb : Below wr.heap.size wr W5) (hB : B ≤ wr.heap.size) : RoS B w l v W5 := ⟨owns_below h.1 hb, h.2.trans (hb.mono hB)⟩

set_option maxHeartbeats 3200000 in
set_option maxRecDepth 100000 in
theorem allHidden_any (p : Nat) (w : World) (hp : p ≤ 8) :
    Calls Tryd.prog 59 #[.int .i64 p] w fun e w' => ∃ v, e = .returned v ∧ RoS w.heap.size w (allB p) v w' := by
  obtain ⟨i0, hi, hz0, hz1, hz2⟩ := info_parts infoStr
  have HI := Lib.hid (And.intro hi (And.intro hz0 (And.intro hz1 hz2))); clear hi hz0 hz1 hz2
  have h0 : RoS w.heap.size w (allS 0) (.slice (some ⟨w.heap.size, 0, none⟩) 1 1) (w.alloc (.cells #[.string ⟨#[]⟩] 9)) :=
    ⟨⟨by simp [strs, allS, allL], .inr ⟨w.heap.size, 1, #[.string ⟨#[]⟩], rfl, Nat.le_refl _, ObAt.new _ _ _, by simp [allS, allL], by unfold maxLen; omega, by simp, by simp [strs, allS, allL]⟩⟩, Below.ofNew _⟩
  have H0 := Lib.hid h0; clear h0
  go_enter Tryd.func59, Tryd.ntmps59
  go_wp2_with fail
  go_loopw [3, 9] (fun v i wr => ∃ k : Nat, i = .int .i64 k ∧ k ≤ p ∧ Hid (RoS w.heap.size w (allS k) v wr)) (fun _ i _ => p - (intOf i).toNat)
  case atStart => exact ⟨0, rfl, Nat.zero_le _, H0.out⟩
  case round =>
    clear H0
    obtain ⟨k, rfl, hk, hH⟩ := hrel
    by_cases hlt : k < p
    · have b1 : (k : Int) < (p : Int) := by omega
      obtain ⟨ad, c, rfl, hc, hrd, -⟩ := own_cap hH.out.1
      have HRD := Lib.hid hrd; clear hrd
      have hlen := allS_len k
      have hpw := pow_bd (show k ≤ 8 by omega)
      have hl256 : (allS k).length ≤ 256 := by omega
      have HSZ := Lib.hid (fun s (hs : s ∈ allS k) => allS_size hs)
      have HNX := Lib.hid (allS_succ k)
      have hbs := hH.out.2.size
      have HW := Lib.hid (And.intro hH.out.2 hbs)
      clear hlen hpw hbs hH
      generalize allS k = L at *
      obtain ⟨WB, hWB⟩ : ∃ WB, WB = wr := ⟨wr, rfl⟩
      subst hWB
      go_wp2_with fail
      go_loopw [4, 13] (fun v i wq => ∃ j : Nat, i = .int .i64 j ∧ j ≤ L.length ∧ Hid (wq.ownsRow WB.heap.size 9 1 v (2 * j) (strs ((L.take j).flatMap growS)) ∧ Below WB.heap.size WB wq)) (fun _ i _ => L.length - (intOf i).toNat)
      case atStart => exact ⟨0, rfl, Nat.zero_le _, ⟨rfl, .inl ⟨rfl, rfl⟩⟩, Below.refl _ _⟩
      case round =>
        obtain ⟨j, rfl, hj, hJ⟩ := hrel
        by_cases hlt2 : j < L.length
        · have b2 : (j : Int) < (L.length : Int) := by omega
          obtain ⟨b, off, ha, _, hcs⟩ := scells_of_reads (HRD.out.old hJ.out.2) (by omega)
          subst ha
          have c0 := hcs j hlt2
          clear hcs
          have hsn : strs ((L.take (j + 1)).flatMap growS) = strs ((L.take j).flatMap growS) ++ [.string (L.getD j ⟨#[]⟩ ++ ⟨#[97]⟩), .string (L.getD j ⟨#[]⟩ ++ ⟨#[98]⟩)] := by
            rw [ptake_snoc ⟨#[]⟩ L j hlt2, List.flatMap_append, strs_append]; rfl
          have HSN := Lib.hid hsn; clear hsn
          have hsz : (L.getD j ⟨#[]⟩).size = k := HSZ.out _ (by
            rw [List.getD_eq_getElem?_getD, List.getElem?_eq_getElem hlt2]; exact List.getElem_mem hlt2)
          generalize L.getD j ⟨#[]⟩ = s at *
          have hs8 : s.size ≤ 8 := by omega
          clear hsz
          have ha1 : ∀ W : World, (Op.stringOp .add s ⟨#[97]⟩).run Tryd.prog W = .ok (.string (s ++ ⟨#[97]⟩)) W := fun W => run_string_add W s _ (by omega) (by decide)
          have ha2 : ∀ W : World, (Op.stringOp .add s ⟨#[98]⟩).run Tryd.prog W = .ok (.string (s ++ ⟨#[98]⟩)) W := fun W => run_string_add W s _ (by omega) (by decide)
          generalize s ++ ⟨#[97]⟩ = sa at *
          generalize s ++ ⟨#[98]⟩ = sb at *
          have HN := Lib.hid (cell_two_new wr (.string sa) (.string sb) 9)
          have hbs2 := hJ.out.2.size
          go_wp2_with (at_builtin; refine wpList_append_own_at _ rfl _ _ 33 rfl WB.heap.size 9 i0 (.string ⟨#[]⟩) 1 16 Tryd.underlying33 HI.out.1 HI.out.2.1 HI.out.2.2.1 HI.out.2.2.2 rfl (by decide) _ _ _ rfl (hJ.out.1.alloc _) ⟨wr.heap.size, 0, none⟩ 2 2 [.string sa, .string sb] rfl rfl HN.out ?_ ?_ ?_ ?_ ?_)
          · intro u hu
            simp at hu
            rcases hu with rfl | rfl <;> rfl
          · unfold maxLen; omega
          · omega
          · simp; omega
          intro v' w5 hown5 hgrow _ _
          have hbel5 : Below WB.heap.size WB w5 := (hJ.out.2.alloc hbs2 (.cells #[.string sa, .string sb] 9)).grown hgrow (by simp; omega) (fun g hg => (owns_ge hJ.out.1 hg).1)
          have H5 : Hid (w5.ownsRow WB.heap.size 9 1 v' (2 * (j + 1)) (strs ((L.take (j + 1)).flatMap growS)) ∧ Below WB.heap.size WB w5) := ⟨by rw [HSN.out, show 2 * (j + 1) = 2 * j + 2 from by omega]; exact hown5, hbel5⟩
          clear hown5 hgrow hbel5 HN hbs2
          go_wp2_with fail
          go_roundw
          case rel => exact ⟨j + 1, by go_num, by omega, H5⟩
          case measure => simp [intOf]; omega
        · obtain rfl : j = L.length := by omega
          have hR : RoS w.heap.size w (allS (k + 1)) u4 wr := by
            have h1 := hJ.out.1
            rw [List.take_length] at h1
            refine ⟨?_, HW.out.1.trans (hJ.out.2.mono HW.out.2)⟩
            rw [HNX.out, flat_len]
            exact owns_mono h1 HW.out.2
          have HR := Lib.hid hR; clear hR hJ
          go_wp2_with fail
          go_roundw
          case rel => exact ⟨k + 1, by go_num, by omega, HR⟩
          case measure => simp [intOf]; omega
    · obtain rfl : k = p := by omega
      have HR := hH
      rw [allS_eq] at HR
      clear hH
      go_wp2_with fail
      go_ret
      exact ⟨_, rfl, HR.out⟩


/-- A captured text. -/
def TxtAt (w : World) (g : Nat) (s : ByteArray) : Prop := g < w.heap.size ∧ w.cell? ⟨g, 0, none⟩ = some (.string s)
theorem TxtAt.keep {w w' : World} {g : Nat} {s : ByteArray} (h : TxtAt w g s) (hb : Below w.heap.size w w') : TxtAt w' g s :=
  ⟨Nat.lt_of_lt_of_le h.1 hb.size, by rw [hb.cell (p := ⟨g, 0, none⟩) h.1]; exact h.2⟩
theorem len_pz {p : Int} {s : ByteArray} (h : (s.size : Int) = p) (hh : hidB s = true) : 1 ≤ p ∧ p ≤ 8 := by have := (hidB_iff.1 hh).1; omega

set_option maxHeartbeats 800000 in
theorem solved1_any (x y z : Int) (s : ByteArray) (gs : Nat) (pe0 pe1 : Addr) (w : World) (hk : kindOk s.size x y) (h : hidB s = true) (hd : PzDoor w pe0 pe1) (cs : TxtAt w gs s) :
    Calls Tryd.prog 85 #[.agg #[.int .i64 x, .int .i64 y, .int .i64 z], .pointer (some ⟨gs, 0, none⟩)] w fun e w' => e = .returned (.bool (!fitC (x, y, z) s)) ∧ Below w.heap.size w w' := by
  have HC := Lib.hid (ClB.new w x y z)
  obtain ⟨c0, c1, c2⟩ := HC.out.cells
  have c3 := (cs.keep HC.out.2).2
  have HF := Lib.hid (isFitBy_any x y z s pe0 pe1 _ hk h (hd.keep HC.out.2)); clear hk h hd cs
  generalize fitC (x, y, z) s = F at *
  go_enter Tryd.func85, Tryd.ntmps85
  go_wp2_with fail
  refine HF.out.mono ?_; rintro e w3 ⟨rfl, b3⟩
  have HB3 := Lib.hid (HC.out.2.trans (b3.mono HC.out.2.size)); clear b3
  go_wp2_with fail
  go_ret
  exact ⟨rfl, HB3.out⟩

set_option maxHeartbeats 1600000 in
theorem indexC_any (p : Int) (l : List Cl) (ad : Option Addr) (c : Nat) (s : ByteArray) (gs : Nat) (pe0 pe1 : Addr) (w : World) (hl : (l.length : Int) ≤ 1000000000000) (hg : goodCs p l = true) (hp : (s.size : Int) = p) (h : hidB s = true) (hr : Reads w ad (clus l)) (hd : PzDoor w pe0 pe1) (cs : TxtAt w gs s) :
    Calls Tryd.prog 99 #[.slice ad l.length c, .func (.func 85) #[] #[.pointer (some ⟨gs, 0, none⟩)]] w fun e w' => ∃ i : Int, e = .returned (.int .i64 i) ∧ decide (0 ≤ i) = !solvC l s ∧ Below w.heap.size w w' := by
  have HC := Lib.hid (And.intro hr (And.intro hd cs)); clear hr hd cs
  have HG := Lib.hid (fun k hk => goodCs_get hg k hk); clear hg
  go_enter Tryd.func99, Tryd.ntmps99
  go_wp2_with fail
  go_loopw [8] (fun i wr => ∃ k : Nat, i = .int .i64 k ∧ k ≤ l.length ∧ Hid (solvC (l.take k) s = true ∧ Below w.heap.size w wr)) (fun i _ => l.length - (intOf i).toNat)
  case atStart => exact ⟨0, rfl, Nat.zero_le _, rfl, Below.refl _ _⟩
  case round =>
    obtain ⟨k, rfl, hk, hH⟩ := hrel
    by_cases hlt : k < l.length
    · have b1 : (k : Int) < (l.length : Int) := by omega
      obtain ⟨b, off, ha, _, hc⟩ := ccells_of_reads (HC.out.1.old hH.out.2) (by omega)
      subst ha
      obtain ⟨c0, c1, c2⟩ := hc k hlt
      clear hc
      have hs := solvC_snoc l k hlt s
      rw [hH.out.1, Bool.true_and] at hs
      have hno := fun e => solvC_not (s := s) hlt e
      have HS := Lib.hid (And.intro hs hno); clear hs hno
      have hgc := HG.out k hlt
      generalize l.getD k zC = r at *
      obtain ⟨x, y, z⟩ := r
      simp only at c0 c1 c2
      have hko : kindOk s.size x y := by rw [hp]; exact kindOk_of hgc
      have HCL := Lib.hid (solved1_any x y z s gs pe0 pe1 wr hko h (HC.out.2.1.keep hH.out.2) (HC.out.2.2.keep hH.out.2))
      clear hko hgc
      cases hq : fitC (x, y, z) s
      · have hy := HS.out.2 hq
        rw [hq] at HCL
        have HY := Lib.hid hy; clear hy hq HS
        go_wp2_with fail
        refine HCL.out.mono ?_; rintro e w2 ⟨rfl, b2⟩
        have HB := Lib.hid (hH.out.2.trans (b2.mono hH.out.2.size)); clear b2 c0 c1 c2
        go_wp2_with fail
        go_ret
        exact ⟨_, rfl, by rw [HY.out]; simp, HB.out⟩
      · have hn := HS.out.1
        rw [hq] at hn HCL
        have HN := Lib.hid hn; clear hn hq HS
        go_wp2_with fail
        refine HCL.out.mono ?_; rintro e w2 ⟨rfl, b2⟩
        have HB := Lib.hid (And.intro HN.out (hH.out.2.trans (b2.mono hH.out.2.size))); clear b2 c0 c1 c2
        go_wp2_with fail
        go_roundw
        case rel => exact ⟨k + 1, by go_num, by omega, HB⟩
        case measure => simp [intOf]; omega
    · obtain rfl : k = l.length := by omega
      have hn := hH.out
      rw [List.take_length] at hn
      have HN := Lib.hid hn; clear hn
      go_wp2
      go_ret
      exact ⟨-1, rfl, by rw [HN.out.1]; rfl, HN.out.2⟩

set_option maxHeartbeats 800000 in
theorem containsC_any (p : Int) (l : List Cl) (ad : Option Addr) (c : Nat) (s : ByteArray) (gs : Nat) (pe0 pe1 : Addr) (w : World) (hl : (l.length : Int) ≤ 1000000000000) (hg : goodCs p l = true) (hp : (s.size : Int) = p) (h : hidB s = true) (hr : Reads w ad (clus l)) (hd : PzDoor w pe0 pe1) (cs : TxtAt w gs s) :
    Calls Tryd.prog 84 #[.slice ad l.length c, .func (.func 85) #[] #[.pointer (some ⟨gs, 0, none⟩)]] w fun e w' => e = .returned (.bool (!solvC l s)) ∧ Below w.heap.size w w' := by
  have HI := Lib.hid (indexC_any p l ad c s gs pe0 pe1 w hl hg hp h hr hd cs); clear hr cs hd hg
  go_enter Tryd.func84, Tryd.ntmps84
  go_wp2_with fail
  refine HI.out.mono ?_; rintro e w3 ⟨i, rfl, hi, b3⟩
  have HB3 := Lib.hid (And.intro hi b3); clear b3 hi
  go_wp2_with fail
  go_ret
  exact ⟨ret_bool HB3.out.1, HB3.out.2⟩

set_option maxHeartbeats 800000 in
theorem isSolvedBy_any (p : Int) (l : List Cl) (ad : Option Addr) (c : Nat) (s : ByteArray) (pe0 pe1 : Addr) (w : World) (hl : (l.length : Int) ≤ 1000000000000) (hg : goodCs p l = true) (hp : (s.size : Int) = p) (h : hidB s = true) (hr : Reads w ad (clus l)) (hd : PzDoor w pe0 pe1) :
    Calls Tryd.prog 60 #[.agg #[.int .i64 p, .slice ad l.length c], .string s] w fun e w' => e = .returned (.bool (solvC l s)) ∧ Below w.heap.size w w' := by
  have hb1 := Below.ofNew (w := w) (.cells #[.int .i64 p, .slice ad l.length c] 38)
  have hb2 := hb1.alloc hb1.size (.cells #[.string s] 9)
  have a1 := (ObAt.new w 38 #[.int .i64 p, .slice ad l.length c]).old (.cells #[.string s] 9)
  have a2 := ObAt.new (w.alloc (.cells #[.int .i64 p, .slice ad l.length c] 38)) 9 #[.string s]
  rw [World.size_alloc] at a2
  have cs : TxtAt _ _ s := ⟨a2.lt, a2.cell 0⟩
  have HI := Lib.hid (containsC_any p l ad c s _ pe0 pe1 _ hl hg hp h (hr.old hb2) (hd.keep hb2) cs)
  obtain ⟨p0, p1, -, -⟩ := a1.two
  have HB := Lib.hid hb2
  have hmf : ∀ (fn : Fn) (first cap : Array Value) (w : World), (Instr.makeFunc fn first cap).run Tryd.prog w = .ok (.func fn first cap) w := fun _ _ _ _ => rfl
  clear hb1 hb2 a1 a2 cs hr hg hd
  go_enter Tryd.func60, Tryd.ntmps60
  go_wp2_with fail
  refine HI.out.mono ?_; rintro e w3 ⟨rfl, b3⟩
  have HB3 := Lib.hid (HB.out.trans (b3.mono HB.out.size)); clear b3
  go_wp2_with fail
  go_ret
  exact ⟨ret_bool (by simp), HB3.out⟩


theorem cell_one_new (w : World) (v : Value) (t : TypeId) : ∀ j' u, ([v] : List Value)[j']? = some u → (w.alloc (.cells #[v] t)).cell? ((⟨w.heap.size, 0, none⟩ : Addr).add j') = some u := by
  intro j' u hu
  have e0 : j' = 0 := by have := (List.getElem?_eq_some_iff.1 hu).1; simp at this; omega
  subst e0
  simp at hu; subst hu
  have e : (⟨w.heap.size, 0, none⟩ : Addr).add 0 = ⟨w.heap.size, 0, none⟩ := by unfold Addr.add; split <;> simp_all
  rw [e]
  exact cell_of_row _ _ 0 _ _ _ (heap_alloc_last w _)
theorem filt_snoc (f : ByteArray → Bool) (L : List ByteArray) (j : Nat) (h : j < L.length) :
    (L.take (j + 1)).filter f = (L.take j).filter f ++ (if f (L.getD j ⟨#[]⟩) then [L.getD j ⟨#[]⟩] else []) := by
  rw [ptake_snoc ⟨#[]⟩ L j h, List.filter_append]
  congr 1
  generalize L.getD j ⟨#[]⟩ = s
  cases hh : f s <;> simp [hh]
theorem allB_getD (p j : Nat) (h : j < (allB p).length) : (allB p).getD j ⟨#[]⟩ = binB p j := by
  rw [allB_len] at h; simp [allB, h]
/-- A list of texts and whether there is one. -/
def StR (o : Bool) (L : List ByteArray) (w : World) (e : Ending) (w' : World) : Prop := ∃ v, e = .returned (.tuple #[v, .bool o]) ∧ RoS w.heap.size w L v w'
def solsO (p : Int) (l : List Cl) : List ByteArray := if goodP p l then solsL p.toNat l else []
theorem RoS.nil (w wr : World) (h : Below w.heap.size w wr) : RoS w.heap.size w [] (.slice none 0 0) wr := ⟨⟨rfl, .inl ⟨rfl, rfl⟩⟩, h⟩
theorem RoS.lift {w0 w wr : World} {l : List ByteArray} {v : Value} (h : RoS w.heap.size w l v wr) (hb : Below w0.heap.size w0 w) : RoS w0.heap.size w0 l v wr := ⟨owns_mono h.1 hb.size, hb.trans (h.2.mono hb.size)⟩

set_option maxHeartbeats 3200000 in
set_option maxRecDepth 100000 in
theorem implSolutions_any (p : Int) (l : List Cl) (ad : Option Addr) (c : Nat) (pe0 pe1 : Addr) (w : World) (hl : (l.length : Int) ≤ 1000000000000) (hr : Reads w ad (clus l)) (hd : PzDoor w pe0 pe1) :
    Calls Tryd.prog 20 #[.agg #[.int .i64 p, .slice ad l.length c]] w fun e w' => StR (goodP p l) (solsO p l) w e w' := by
  obtain ⟨i0, hi, hz0, hz1, hz2⟩ := info_parts infoStr
  have HIN := Lib.hid (And.intro hi (And.intro hz0 (And.intro hz1 hz2))); clear hi hz0 hz1 hz2
  have T0 := Lib.hid (PzB.new w p (.slice ad l.length c))
  obtain ⟨p0, p1, -⟩ := T0.out.full
  have HG := Lib.hid (fun W (hb : Below w.heap.size w W) => isPuzzle_any p l ad c W hl (hr.old hb))
  cases hg : goodP p l
  · have hs : solsO p l = [] := by unfold solsO; rw [hg]; rfl
    rw [hg] at HG
    rw [hs]; clear hs hg hr hd
    go_enter Tryd.func20, Tryd.ntmps20
    go_wp2_with fail
    refine (HG.out _ T0.out.2).mono ?_; rintro e w1 ⟨rfl, b1⟩
    have T1 := Lib.hid (T0.out.keep b1); clear b1 p0 p1
    go_wp2_with fail
    refine bodyPost_ret (v := .tuple #[.slice none 0 0, .bool false]) ?_ rfl ⟨_, rfl, RoS.nil _ _ T1.out.2⟩
    simp [results, Tryd.results20, go_sem, *]
  · obtain ⟨hp, h6, hgc⟩ := goodP_bd hg
    obtain ⟨pn, rfl⟩ : ∃ pn : Nat, p = pn := ⟨p.toNat, by omega⟩
    have hs : solsO pn l = (allB pn).filter (solvC l) := by unfold solsO; rw [hg]; rfl
    rw [hg] at HG
    have hC := fun (j : Nat) (hj : j < (allB pn).length) W (hb : Below w.heap.size w W) => isSolvedBy_any (pn : Int) l ad c (binB pn j) pe0 pe1 W hl hgc (by rw [binB_size]) (hidB_bin (by omega) j) (hr.old hb) (hd.keep hb)
    have hC2 : ∀ j, j < (allB pn).length → ∀ W, Below w.heap.size w W → Calls Tryd.prog 60 #[.agg #[.int .i64 pn, .slice ad l.length c], .string ((allB pn).getD j ⟨#[]⟩)] W fun e w' => e = .returned (.bool (solvC l ((allB pn).getD j ⟨#[]⟩))) ∧ Below W.heap.size W w' := fun j hj W hb => by
      rw [allB_getD pn j hj]; exact hC j hj W hb
    have HC := Lib.hid hC2; clear hC hC2
    rw [hs]; clear hs hg hr hd
    have hlen := allB_len pn
    have hpw := pow_bd (show pn ≤ 8 by omega)
    have hl256 : (allB pn).length ≤ 256 := by omega
    have HAH := Lib.hid (fun W => allHidden_any pn W (by omega))
    clear hlen hpw hgc
    generalize allB pn = L at *
    go_enter Tryd.func20, Tryd.ntmps20
    go_wp2_with fail
    refine (HG.out _ T0.out.2).mono ?_; rintro e w1 ⟨rfl, b1⟩
    have T1 := Lib.hid (T0.out.keep b1); clear b1 p0 p1
    obtain ⟨p0, p1, -⟩ := T1.out.full
    go_wp2_with fail
    refine (HAH.out _).mono ?_; rintro e w2 ⟨v, rfl, h2⟩
    obtain ⟨ra, rc, rfl, hrc, hrd, -⟩ := own_cap h2.1
    have T2 := Lib.hid (T1.out.keep h2.2)
    have HRD := Lib.hid hrd
    clear p0 p1 hrd h2
    obtain ⟨WB, hWB⟩ : ∃ WB, WB = w2 := ⟨w2, rfl⟩
    subst hWB
    go_wp2_with fail
    go_loopw [4, 14] (fun v i wq => ∃ j : Nat, i = .int .i64 j ∧ j ≤ L.length ∧ Hid (RoS WB.heap.size WB ((L.take j).filter (solvC l)) v wq)) (fun _ i _ => L.length - (intOf i).toNat)
    case atStart => exact ⟨0, rfl, Nat.zero_le _, RoS.nil _ _ (Below.refl _ _)⟩
    case round =>
      obtain ⟨j, rfl, hj, hJ⟩ := hrel
      by_cases hlt : j < L.length
      · have b2 : (j : Int) < (L.length : Int) := by omega
        obtain ⟨b, off, ha, _, hcs⟩ := scells_of_reads (HRD.out.old hJ.out.2) (by omega)
        subst ha
        have c0 := hcs j hlt
        clear hcs
        have hst := filt_snoc (solvC l) L j hlt
        have TJ := Lib.hid (T2.out.keep hJ.out.2)
        obtain ⟨q0, q1, -⟩ := TJ.out.full
        have HCJ := Lib.hid (HC.out j hlt wr TJ.out.2)
        have hfl : ((L.take j).filter (solvC l)).length ≤ 256 := by
          have h1 := List.length_filter_le (solvC l) (L.take j)
          have h2 := List.length_take_le j L
          omega
        have HFL := Lib.hid hfl; clear hfl
        generalize L.getD j ⟨#[]⟩ = s at *
        cases hq : solvC l s
        · rw [hq] at hst HCJ
          simp only [Bool.false_eq_true, if_false, List.append_nil] at hst
          have HST := Lib.hid hst; clear hst hq
          go_wp2_with fail
          refine HCJ.out.mono ?_; rintro e w3 ⟨rfl, b3⟩
          have H3 : Hid (RoS WB.heap.size WB ((L.take (j + 1)).filter (solvC l)) u4 w3) := by
            show RoS _ _ _ _ _
            rw [HST.out]; exact hJ.out.keep b3 hJ.out.2.size
          clear b3 q0 q1 c0
          go_wp2_with fail
          go_roundw
          case rel => exact ⟨j + 1, by go_num, by omega, H3⟩
          case measure => simp [intOf]; omega
        · rw [hq] at hst HCJ
          simp only [if_true] at hst
          have HST := Lib.hid hst; clear hst hq
          go_wp2_with fail
          refine HCJ.out.mono ?_; rintro e w3 ⟨rfl, b3⟩
          have H3 := Lib.hid (hJ.out.keep b3 hJ.out.2.size)
          have hbs3 := H3.out.2.size
          have HN := Lib.hid (cell_one_new w3 (.string s) 9)
          clear b3 q0 q1 c0
          go_wp2_with (at_builtin; refine wpList_append_own_at _ rfl _ _ 33 rfl WB.heap.size 9 i0 (.string ⟨#[]⟩) 1 16 Tryd.underlying33 HIN.out.1 HIN.out.2.1 HIN.out.2.2.1 HIN.out.2.2.2 rfl (by decide) _ _ _ rfl (H3.out.1.alloc _) ⟨w3.heap.size, 0, none⟩ 1 1 [.string s] rfl rfl HN.out ?_ ?_ ?_ ?_ ?_)
          · intro u hu
            simp at hu
            rcases hu with rfl <;> rfl
          · have := HFL.out; unfold maxLen; omega
          · have := HFL.out; omega
          · simp; omega
          intro v' w5 hown5 hgrow _ _
          have hal := H3.out.keep (Below.ofNew (w := w3) (.cells #[.string s] 9)) hbs3
          have hbel5 : Below WB.heap.size WB w5 := hal.grown hgrow (by simp; omega)
          have H5 : Hid (RoS WB.heap.size WB ((L.take (j + 1)).filter (solvC l)) v' w5) := by
            refine ⟨?_, hbel5⟩
            rw [HST.out, List.length_append, strs_append]
            exact hown5
          clear hown5 hgrow hbel5 HN hbs3 hal
          go_wp2_with fail
          go_roundw
          case rel => exact ⟨j + 1, by go_num, by omega, H5⟩
          case measure => simp [intOf]; omega
      · obtain rfl : j = L.length := by omega
        have hR : RoS w.heap.size w (L.filter (solvC l)) u4 wr := by
          have h1 := hJ.out
          rw [List.take_length] at h1
          exact h1.lift T2.out.2
        have HR := Lib.hid hR; clear hR hJ
        go_wp2_with fail
        refine bodyPost_ret (v := .tuple #[u4, .bool true]) ?_ rfl ⟨_, rfl, HR.out⟩
        simp [results, Tryd.results20, go_sem, *]


set_option maxHeartbeats 3200000 in
set_option maxRecDepth 100000 in
theorem pzAll_any (pn : Nat) (l : List Cl) (ad : Option Addr) (c : Nat) (w : World) (hp : 1 ≤ pn ∧ pn ≤ 8) (h6 : l.length ≤ 6) (hgc : goodCs pn l = true) (hr : Reads w ad (clus l)) :
    Calls Tryd.prog 56 #[.int .i64 pn, .slice ad l.length c] w fun e w' => ∃ v, e = .returned v ∧ RoS w.heap.size w (solsL pn l) v w' := by
  obtain ⟨i0, hi, hz0, hz1, hz2⟩ := info_parts infoStr
  have HIN := Lib.hid (And.intro hi (And.intro hz0 (And.intro hz1 hz2))); clear hi hz0 hz1 hz2
  have HR := Lib.hid hr; clear hr
  have HGC := Lib.hid (fun k hk => goodCs_get hgc k hk); clear hgc
  obtain ⟨N, hN⟩ : ∃ N : Nat, N = 2 ^ pn := ⟨_, rfl⟩
  have hN256 : N ≤ 256 := by have := pow_bd hp.2; omega
  have hNI : (2 : Int) ^ pn = (N : Int) := by rw [hN]; norm_cast
  have hNW : IntKind.i64.wrap (N : Int) = (N : Int) := by rw [IntKind.wrap_i64]; omega
  have HT := Lib.hid (fun j (hj : j < N) => sols_take pn j (by omega) l)
  have HE : Hid (((allB pn).take N).filter (fun s => solvC l s) = solsL pn l) := by
    show _ = _
    rw [hN, ← allB_len pn, List.take_length]; rfl
  have HLN := Lib.hid (fun j => List.length_filter_le (fun s => solvC l s) ((allB pn).take j))
  clear hN
  go_enter Tryd.func56, Tryd.ntmps56
  go_wp2_with fail
  go_loopw [5, 6] (fun v i wq => ∃ j : Nat, i = .int .i64 j ∧ j ≤ N ∧ Hid (RoS w.heap.size w (((allB pn).take j).filter (fun s => solvC l s)) v wq)) (fun _ i _ => N - (intOf i).toNat)
  case atStart => exact ⟨0, rfl, Nat.zero_le _, RoS.nil _ _ (Below.refl _ _)⟩
  case round =>
    obtain ⟨j, rfl, hj, hJ⟩ := hrel
    by_cases hlt : j < N
    · have b2 : (j : Int) < (N : Int) := by omega
      have hbj := binB_size pn j
      have hhb := hidB_bin hp j
      have hst := HT.out j hlt
      have hfl : (((allB pn).take j).filter (fun s => solvC l s)).length ≤ 256 := by
        have h1 := HLN.out j
        have h2 := List.length_take_le j (allB pn)
        omega
      have HFL := Lib.hid hfl; clear hfl
      have HPP := Lib.hid (pzPlay_any pn j wr hp.2 (by omega))
      generalize binB pn j = s at *
      generalize ((allB pn).take j).filter (fun s => solvC l s) = F at *
      obtain ⟨F2, hF2⟩ : ∃ F2, F2 = ((allB pn).take (j + 1)).filter (fun s => solvC l s) := ⟨_, rfl⟩
      rw [← hF2] at hst
      have HF2 := Lib.hid hF2; clear hF2
      have HS := Lib.hid (And.intro hbj (And.intro hhb hst)); clear hbj hhb hst
      obtain ⟨WB, hWB⟩ : ∃ WB, WB = wr := ⟨wr, rfl⟩
      subst hWB
      go_wp2_with fail
      refine HPP.out.mono ?_; rintro e w2 ⟨rfl, rfl⟩
      go_wp2_with fail
      go_loopw [8, 22] (fun f i wq => ∃ k : Nat, i = .int .i64 k ∧ k ≤ l.length ∧ f = .bool (solvC (l.take k) s) ∧ Hid (Below w2.heap.size w2 wq)) (fun _ i _ => l.length - (intOf i).toNat)
      case atStart => exact ⟨0, rfl, Nat.zero_le _, rfl, Below.refl _ _⟩
      case round =>
        obtain ⟨k, rfl, hk, rfl, hB⟩ := hrel
        by_cases hlk : k < l.length
        · have b3 : (k : Int) < (l.length : Int) := by omega
          obtain ⟨b, off, ha, _, hcc⟩ := ccells_of_reads (HR.out.old (hJ.out.2.trans (hB.out.mono hJ.out.2.size))) (by omega)
          subst ha
          obtain ⟨c0, c1, c2⟩ := hcc k hlk
          clear hcc
          have hsn := solvC_snoc l k hlk s
          have hko := kindOk_of (HGC.out k hlk)
          generalize l.getD k zC = r at *
          obtain ⟨x, y, z⟩ := r
          simp only at c0 c1 c2 hko
          have HK := Lib.hid (fun W => pzFits_any x y z s W (by rw [HS.out.1]; exact hko) HS.out.2.1); clear hko
          cases hf : solvC (l.take k) s
          · rw [hf, Bool.false_and] at hsn
            have HSN := Lib.hid hsn; clear hsn hf
            have HBN := Lib.hid (hB.out)
            go_wp2_with fail
            go_roundw
            case rel => exact ⟨k + 1, by go_num, by omega, by rw [HSN.out], HBN.out.alloc HBN.out.size _⟩
            case measure => simp [intOf]; omega
          · rw [hf, Bool.true_and] at hsn
            have HSN := Lib.hid hsn; clear hsn hf
            have HBN := Lib.hid (hB.out)
            go_wp2_with fail
            refine (HK.out _).mono ?_; rintro e w4 ⟨rfl, b4⟩
            go_wp2_with fail
            go_roundw
            case rel => exact ⟨k + 1, by go_num, by omega, by rw [HSN.out], (HBN.out.alloc HBN.out.size _).trans (b4.mono (HBN.out.alloc HBN.out.size _).size)⟩
            case measure => simp [intOf]; omega
        · obtain rfl : k = l.length := by omega
          rw [List.take_length]
          have H3 := Lib.hid (hJ.out.keep hB.out hJ.out.2.size)
          have hst := HS.out.2.2
          clear hB HS
          cases hq : solvC l s
          · rw [hq] at hst
            simp only [Bool.false_eq_true, if_false, List.append_nil] at hst
            subst hst
            go_wp2_with fail
            go_roundw
            case rel => exact ⟨j + 1, by go_num, by omega, by rw [← HF2.out]; exact H3⟩
            case measure => simp [intOf]; omega
          · rw [hq] at hst
            simp only [if_true] at hst
            have HST := Lib.hid hst; clear hst hq
            have hbs3 := H3.out.2.size
            have HN := Lib.hid (cell_one_new wr (.string s) 9)
            go_wp2_with (at_builtin; refine wpList_append_own_at _ rfl _ _ 33 rfl w.heap.size 9 i0 (.string ⟨#[]⟩) 1 16 Tryd.underlying33 HIN.out.1 HIN.out.2.1 HIN.out.2.2.1 HIN.out.2.2.2 rfl (by decide) _ _ _ rfl (H3.out.1.alloc _) ⟨wr.heap.size, 0, none⟩ 1 1 [.string s] rfl rfl HN.out ?_ ?_ ?_ ?_ ?_)
            · intro u hu
              simp at hu
              rcases hu with rfl <;> rfl
            · have := HFL.out; unfold maxLen; omega
            · have := HFL.out; omega
            · simp; omega
            intro v' w5 hown5 hgrow _ _
            have hal := H3.out.keep (Below.ofNew (w := wr) (.cells #[.string s] 9)) hbs3
            have hbel5 : Below w.heap.size w w5 := hal.grown hgrow (by simp; omega)
            have H5 : Hid (RoS w.heap.size w F2 v' w5) := by
              refine ⟨?_, hbel5⟩
              rw [HST.out, List.length_append, strs_append]
              exact hown5
            clear hown5 hgrow hbel5 HN hbs3 hal
            go_wp2_with fail
            go_roundw
            case rel => exact ⟨j + 1, by go_num, by omega, by rw [← HF2.out]; exact H5⟩
            case measure => simp [intOf]; omega
    · obtain rfl : j = N := by omega
      have hR := hJ.out
      rw [HE.out] at hR
      have HR2 := Lib.hid hR; clear hR hJ
      go_wp2_with fail
      go_ret
      exact ⟨_, rfl, HR2.out⟩

set_option maxHeartbeats 1600000 in
set_option maxRecDepth 100000 in
theorem specSolutions_any (p : Int) (l : List Cl) (ad : Option Addr) (c : Nat) (w : World) (hl : (l.length : Int) ≤ 1000000000000) (hr : Reads w ad (clus l)) :
    Calls Tryd.prog 18 #[.agg #[.int .i64 p, .slice ad l.length c]] w fun e w' => StR (goodP p l) (solsO p l) w e w' := by
  have T0 := Lib.hid (PzB.new w p (.slice ad l.length c))
  obtain ⟨p0, p1, -⟩ := T0.out.full
  have HG := Lib.hid (fun W (hb : Below w.heap.size w W) => pzGood_any p l ad c W hl (hr.old hb))
  cases hg : goodP p l
  · have hs : solsO p l = [] := by unfold solsO; rw [hg]; rfl
    rw [hg] at HG
    rw [hs]; clear hs hg hr
    go_enter Tryd.func18, Tryd.ntmps18
    go_wp2_with fail
    refine (HG.out _ T0.out.2).mono ?_; rintro e w1 ⟨rfl, b1⟩
    have T1 := Lib.hid (T0.out.keep b1); clear b1 p0 p1
    go_wp2_with fail
    refine bodyPost_ret (v := .tuple #[.slice none 0 0, .bool false]) ?_ rfl ⟨_, rfl, RoS.nil _ _ T1.out.2⟩
    simp [results, Tryd.results18, go_sem, *]
  · obtain ⟨hp, h6, hgc⟩ := goodP_bd hg
    obtain ⟨pn, rfl⟩ : ∃ pn : Nat, p = pn := ⟨p.toNat, by omega⟩
    have hs : solsO pn l = solsL pn l := by unfold solsO; rw [hg]; rfl
    rw [hg] at HG
    have HA := Lib.hid (fun W (hb : Below w.heap.size w W) => pzAll_any pn l ad c W (by omega) h6 hgc (hr.old hb))
    rw [hs]; clear hs hg hr
    generalize solsL pn l = L at *
    go_enter Tryd.func18, Tryd.ntmps18
    go_wp2_with fail
    refine (HG.out _ T0.out.2).mono ?_; rintro e w1 ⟨rfl, b1⟩
    have T1 := Lib.hid (T0.out.keep b1); clear b1 p0 p1
    obtain ⟨p0, p1, -⟩ := T1.out.full
    go_wp2_with fail
    refine (HA.out _ T1.out.2).mono ?_; rintro e w2 ⟨v, rfl, h2⟩
    have H2 := Lib.hid (h2.lift T1.out.2); clear h2 p0 p1
    go_wp2_with fail
    refine bodyPost_ret (v := .tuple #[v, .bool true]) ?_ rfl ⟨_, rfl, H2.out⟩
    simp [results, Tryd.results18, go_sem, *]


theorem solsO_len (p : Int) (l : List Cl) : (solsO p l).length ≤ 256 := by
  unfold solsO
  split
  · rename_i h
    have := solsL_len p.toNat l
    have := pow_bd (p := p.toNat) (by have := (goodP_bd h).1; omega)
    omega
  · simp
theorem solsO_not {p : Int} {l : List Cl} (h : goodP p l = false) : solsO p l = [] := by unfold solsO; rw [h]; rfl
theorem solsO_is {pn : Nat} {l : List Cl} (h : goodP pn l = true) : solsO pn l = solsL pn l := by unfold solsO; rw [h]; rfl

set_option maxHeartbeats 1600000 in
set_option maxRecDepth 100000 in
theorem implCount_any (p : Int) (l : List Cl) (ad : Option Addr) (c : Nat) (pe0 pe1 : Addr) (w : World) (hl : (l.length : Int) ≤ 1000000000000) (hr : Reads w ad (clus l)) (hd : PzDoor w pe0 pe1) :
    Calls Tryd.prog 27 #[.agg #[.int .i64 p, .slice ad l.length c]] w fun e w' => e = .returned (.tuple #[.int .i64 (solsO p l).length, .bool (goodP p l)]) ∧ Below w.heap.size w w' := by
  have T0 := Lib.hid (PzB.new w p (.slice ad l.length c))
  obtain ⟨p0, p1, -⟩ := T0.out.full
  have HS := Lib.hid (implSolutions_any p l ad c pe0 pe1 _ hl (hr.old T0.out.2) (hd.keep T0.out.2)); clear hr hd
  generalize goodP p l = o at *
  generalize solsO p l = L at *
  go_enter Tryd.func27, Tryd.ntmps27
  go_wp2_with fail
  refine HS.out.mono ?_; rintro e w1 ⟨v, rfl, h1⟩
  obtain ⟨ra, rc, rfl, -, -, -⟩ := own_cap h1.1
  have HB := Lib.hid (T0.out.2.trans (h1.2.mono T0.out.2.size)); clear h1 HS
  go_wp2_with fail
  refine bodyPost_ret (v := .tuple #[.int .i64 L.length, .bool o]) ?_ rfl ⟨rfl, HB.out⟩
  simp [results, Tryd.results27, go_sem, *]

set_option maxHeartbeats 1600000 in
set_option maxRecDepth 100000 in
theorem specCount_any (p : Int) (l : List Cl) (ad : Option Addr) (c : Nat) (w : World) (hl : (l.length : Int) ≤ 1000000000000) (hr : Reads w ad (clus l)) :
    Calls Tryd.prog 26 #[.agg #[.int .i64 p, .slice ad l.length c]] w fun e w' => e = .returned (.tuple #[.int .i64 (solsO p l).length, .bool (goodP p l)]) ∧ Below w.heap.size w w' := by
  have T0 := Lib.hid (PzB.new w p (.slice ad l.length c))
  obtain ⟨p0, p1, -⟩ := T0.out.full
  have HG := Lib.hid (fun W (hb : Below w.heap.size w W) => pzGood_any p l ad c W hl (hr.old hb))
  cases hg : goodP p l
  · have hs := solsO_not hg
    rw [hg] at HG
    rw [hs]; clear hs hg hr
    go_enter Tryd.func26, Tryd.ntmps26
    go_wp2_with fail
    refine (HG.out _ T0.out.2).mono ?_; rintro e w1 ⟨rfl, b1⟩
    have T1 := Lib.hid (T0.out.keep b1); clear b1 p0 p1
    go_wp2_with fail
    refine bodyPost_ret (v := .tuple #[.int .i64 0, .bool false]) ?_ rfl ⟨rfl, T1.out.2⟩
    simp [results, Tryd.results26, go_sem, *]
  · obtain ⟨hp, h6, hgc⟩ := goodP_bd hg
    obtain ⟨pn, rfl⟩ : ∃ pn : Nat, p = pn := ⟨p.toNat, by omega⟩
    have hs := solsO_is hg
    rw [hg] at HG
    have HA := Lib.hid (fun W (hb : Below w.heap.size w W) => pzAll_any pn l ad c W (by omega) h6 hgc (hr.old hb))
    rw [hs]; clear hs hg hr
    generalize solsL pn l = L at *
    go_enter Tryd.func26, Tryd.ntmps26
    go_wp2_with fail
    refine (HG.out _ T0.out.2).mono ?_; rintro e w1 ⟨rfl, b1⟩
    have T1 := Lib.hid (T0.out.keep b1); clear b1 p0 p1
    obtain ⟨p0, p1, -⟩ := T1.out.full
    go_wp2_with fail
    refine (HA.out _ T1.out.2).mono ?_; rintro e w2 ⟨v, rfl, h2⟩
    obtain ⟨ra, rc, rfl, -, -, -⟩ := own_cap h2.1
    have HB := Lib.hid (T1.out.2.trans (h2.2.mono T1.out.2.size)); clear h2 p0 p1
    go_wp2_with fail
    refine bodyPost_ret (v := .tuple #[.int .i64 L.length, .bool true]) ?_ rfl ⟨rfl, HB.out⟩
    simp [results, Tryd.results26, go_sem, *]

def oneB (n : Nat) : Bool := decide ((n : Int) = 1)

set_option maxHeartbeats 1600000 in
set_option maxRecDepth 100000 in
theorem implSolved_any (p : Int) (l : List Cl) (ad : Option Addr) (c : Nat) (pe0 pe1 : Addr) (w : World) (hl : (l.length : Int) ≤ 1000000000000) (hr : Reads w ad (clus l)) (hd : PzDoor w pe0 pe1) :
    Calls Tryd.prog 33 #[.agg #[.int .i64 p, .slice ad l.length c]] w fun e w' => e = .returned (.tuple #[.bool (oneB (solsO p l).length), .bool (goodP p l)]) ∧ Below w.heap.size w w' := by
  have T0 := Lib.hid (PzB.new w p (.slice ad l.length c))
  obtain ⟨p0, p1, -⟩ := T0.out.full
  have HS := Lib.hid (implCount_any p l ad c pe0 pe1 _ hl (hr.old T0.out.2) (hd.keep T0.out.2)); clear hr hd
  generalize goodP p l = o at *
  generalize (solsO p l).length = n at *
  go_enter Tryd.func33, Tryd.ntmps33
  go_wp2_with fail
  refine HS.out.mono ?_; rintro e w1 ⟨rfl, b1⟩
  have HB := Lib.hid (T0.out.2.trans (b1.mono T0.out.2.size)); clear b1 HS
  go_wp2_with fail
  refine bodyPost_ret (v := .tuple #[.bool (oneB n), .bool o]) ?_ rfl ⟨rfl, HB.out⟩
  by_cases h1 : (n : Int) = 1 <;> simp [results, Tryd.results33, go_sem, oneB, h1]

set_option maxHeartbeats 1600000 in
set_option maxRecDepth 100000 in
theorem pzSolved_any (pn : Nat) (l : List Cl) (ad : Option Addr) (c : Nat) (w : World) (hp : 1 ≤ pn ∧ pn ≤ 8) (h6 : l.length ≤ 6) (hgc : goodCs pn l = true) (hr : Reads w ad (clus l)) :
    Calls Tryd.prog 64 #[.int .i64 pn, .slice ad l.length c] w fun e w' => e = .returned (.bool (oneB (solsL pn l).length)) ∧ Below w.heap.size w w' := by
  have HA := Lib.hid (pzAll_any pn l ad c w hp h6 hgc hr); clear hgc hr
  generalize solsL pn l = L at *
  go_enter Tryd.func64, Tryd.ntmps64
  go_wp2_with fail
  refine HA.out.mono ?_; rintro e w2 ⟨v, rfl, h2⟩
  obtain ⟨ra, rc, rfl, -, -, -⟩ := own_cap h2.1
  have HB := Lib.hid h2.2; clear h2
  go_wp2_with fail
  go_ret
  refine ⟨ret_bool ?_, HB.out⟩
  by_cases h1 : (L.length : Int) = 1
  · simp [oneB, h1]
  · simp [oneB, h1]

set_option maxHeartbeats 1600000 in
set_option maxRecDepth 100000 in
theorem specSolved_any (p : Int) (l : List Cl) (ad : Option Addr) (c : Nat) (w : World) (hl : (l.length : Int) ≤ 1000000000000) (hr : Reads w ad (clus l)) :
    Calls Tryd.prog 32 #[.agg #[.int .i64 p, .slice ad l.length c]] w fun e w' => e = .returned (.tuple #[.bool (oneB (solsO p l).length), .bool (goodP p l)]) ∧ Below w.heap.size w w' := by
  have T0 := Lib.hid (PzB.new w p (.slice ad l.length c))
  obtain ⟨p0, p1, -⟩ := T0.out.full
  have HG := Lib.hid (fun W (hb : Below w.heap.size w W) => pzGood_any p l ad c W hl (hr.old hb))
  cases hg : goodP p l
  · have hs := solsO_not hg
    rw [hg] at HG
    rw [hs]; clear hs hg hr
    go_enter Tryd.func32, Tryd.ntmps32
    go_wp2_with fail
    refine (HG.out _ T0.out.2).mono ?_; rintro e w1 ⟨rfl, b1⟩
    have T1 := Lib.hid (T0.out.keep b1); clear b1 p0 p1
    go_wp2_with fail
    refine bodyPost_ret (v := .tuple #[.bool false, .bool false]) ?_ rfl ⟨rfl, T1.out.2⟩
    simp [results, Tryd.results32, go_sem, *]
  · obtain ⟨hp, h6, hgc⟩ := goodP_bd hg
    obtain ⟨pn, rfl⟩ : ∃ pn : Nat, p = pn := ⟨p.toNat, by omega⟩
    have hs := solsO_is hg
    rw [hg] at HG
    have HA := Lib.hid (fun W (hb : Below w.heap.size w W) => pzSolved_any pn l ad c W (by omega) h6 hgc (hr.old hb))
    rw [hs]; clear hs hg hr
    generalize oneB (solsL pn l).length = b at *
    go_enter Tryd.func32, Tryd.ntmps32
    go_wp2_with fail
    refine (HG.out _ T0.out.2).mono ?_; rintro e w1 ⟨rfl, b1⟩
    have T1 := Lib.hid (T0.out.keep b1); clear b1 p0 p1
    obtain ⟨p0, p1, -⟩ := T1.out.full
    go_wp2_with fail
    refine (HA.out _ T1.out.2).mono ?_; rintro e w2 ⟨rfl, b2⟩
    have HB := Lib.hid (T1.out.2.trans (b2.mono T1.out.2.size)); clear b2 p0 p1
    go_wp2_with fail
    refine bodyPost_ret (v := .tuple #[.bool b, .bool true]) ?_ rfl ⟨rfl, HB.out⟩
    simp [results, Tryd.results32, go_sem, *]

/-- The first of a list, or none. -/
def headS (L : List ByteArray) : ByteArray := L.getD 0 ⟨#[]⟩
def someS (L : List ByteArray) : Bool := decide (0 < L.length)

set_option maxHeartbeats 1600000 in
set_option maxRecDepth 100000 in
theorem implFirst_any (p : Int) (l : List Cl) (ad : Option Addr) (c : Nat) (pe0 pe1 : Addr) (w : World) (hl : (l.length : Int) ≤ 1000000000000) (hr : Reads w ad (clus l)) (hd : PzDoor w pe0 pe1) :
    Calls Tryd.prog 29 #[.agg #[.int .i64 p, .slice ad l.length c]] w fun e w' => e = .returned (.tuple #[.string (headS (solsO p l)), .bool (someS (solsO p l))]) ∧ Below w.heap.size w w' := by
  have T0 := Lib.hid (PzB.new w p (.slice ad l.length c))
  obtain ⟨p0, p1, -⟩ := T0.out.full
  have HS := Lib.hid (implSolutions_any p l ad c pe0 pe1 _ hl (hr.old T0.out.2) (hd.keep T0.out.2)); clear hr hd
  generalize goodP p l = o at *
  generalize solsO p l = L at *
  by_cases h0 : L.length = 0
  · have hh : headS L = ⟨#[]⟩ := by rw [List.length_eq_zero_iff.1 h0]; rfl
    have hs : someS L = false := by unfold someS; rw [h0]; rfl
    rw [hh, hs]; clear hh hs
    have hi0 : (L.length : Int) = 0 := by omega
    go_enter Tryd.func29, Tryd.ntmps29
    go_wp2_with fail
    refine HS.out.mono ?_; rintro e w1 ⟨v, rfl, h1⟩
    obtain ⟨ra, rc, rfl, -, -, -⟩ := own_cap h1.1
    have HB := Lib.hid (T0.out.2.trans (h1.2.mono T0.out.2.size)); clear h1 HS
    go_wp2_with fail
    refine bodyPost_ret (v := .tuple #[.string ⟨#[]⟩, .bool false]) ?_ rfl ⟨rfl, HB.out⟩
    simp [results, Tryd.results29, go_sem, *]
  · have hs : someS L = true := by unfold someS; exact decide_eq_true (by omega)
    have hi0 : ¬ (L.length : Int) = 0 := by omega
    rw [hs]; clear hs
    go_enter Tryd.func29, Tryd.ntmps29
    go_wp2_with fail
    refine HS.out.mono ?_; rintro e w1 ⟨v, rfl, h1⟩
    obtain ⟨ra, rc, rfl, -, hrd, -⟩ := own_cap h1.1
    obtain ⟨b, off, ha, _, hcs⟩ := scells_of_reads hrd (by omega)
    subst ha
    have c0 := hcs 0 (by omega)
    rw [Nat.add_zero] at c0
    change _ = some (Value.string (headS L)) at c0
    clear hcs hrd
    have HB := Lib.hid (T0.out.2.trans (h1.2.mono T0.out.2.size)); clear h1 HS
    have hlt0 : (0 : Int) < (L.length : Int) := by omega
    have hlt0n : 0 < L.length := by omega
    go_wp2_with fail
    refine bodyPost_ret (v := .tuple #[.string (headS L), .bool true]) ?_ rfl ⟨rfl, HB.out⟩
    simp [results, Tryd.results29, go_sem, *]

set_option maxHeartbeats 1600000 in
set_option maxRecDepth 100000 in
theorem specFirst_any (p : Int) (l : List Cl) (ad : Option Addr) (c : Nat) (w : World) (hl : (l.length : Int) ≤ 1000000000000) (hr : Reads w ad (clus l)) :
    Calls Tryd.prog 28 #[.agg #[.int .i64 p, .slice ad l.length c]] w fun e w' => e = .returned (.tuple #[.string (headS (solsO p l)), .bool (someS (solsO p l))]) ∧ Below w.heap.size w w' := by
  have T0 := Lib.hid (PzB.new w p (.slice ad l.length c))
  obtain ⟨p0, p1, -⟩ := T0.out.full
  have HG := Lib.hid (fun W (hb : Below w.heap.size w W) => pzGood_any p l ad c W hl (hr.old hb))
  cases hg : goodP p l
  · have hs := solsO_not hg
    rw [hg] at HG
    rw [hs]; clear hs hg hr
    go_enter Tryd.func28, Tryd.ntmps28
    go_wp2_with fail
    refine (HG.out _ T0.out.2).mono ?_; rintro e w1 ⟨rfl, b1⟩
    have T1 := Lib.hid (T0.out.keep b1); clear b1 p0 p1
    go_wp2_with fail
    refine bodyPost_ret (v := .tuple #[.string ⟨#[]⟩, .bool false]) ?_ rfl ⟨rfl, T1.out.2⟩
    simp [results, Tryd.results28, go_sem, *]
  · obtain ⟨hp, h6, hgc⟩ := goodP_bd hg
    obtain ⟨pn, rfl⟩ : ∃ pn : Nat, p = pn := ⟨p.toNat, by omega⟩
    have hs := solsO_is hg
    rw [hg] at HG
    have HA := Lib.hid (fun W (hb : Below w.heap.size w W) => pzAll_any pn l ad c W (by omega) h6 hgc (hr.old hb))
    rw [hs]; clear hs hg hr
    generalize solsL pn l = L at *
    by_cases h0 : L.length = 0
    · have hh : headS L = ⟨#[]⟩ := by rw [List.length_eq_zero_iff.1 h0]; rfl
      have hs : someS L = false := by unfold someS; rw [h0]; rfl
      rw [hh, hs]; clear hh hs
      have hi0 : (L.length : Int) = 0 := by omega
      go_enter Tryd.func28, Tryd.ntmps28
      go_wp2_with fail
      refine (HG.out _ T0.out.2).mono ?_; rintro e w1 ⟨rfl, b1⟩
      have T1 := Lib.hid (T0.out.keep b1); clear b1 p0 p1
      obtain ⟨p0, p1, -⟩ := T1.out.full
      go_wp2_with fail
      refine (HA.out _ T1.out.2).mono ?_; rintro e w2 ⟨v, rfl, h2⟩
      obtain ⟨ra, rc, rfl, -, -, -⟩ := own_cap h2.1
      have HB := Lib.hid (T1.out.2.trans (h2.2.mono T1.out.2.size)); clear h2 p0 p1
      go_wp2_with fail
      refine bodyPost_ret (v := .tuple #[.string ⟨#[]⟩, .bool false]) ?_ rfl ⟨rfl, HB.out⟩
      simp [results, Tryd.results28, go_sem, *]
    · have hs : someS L = true := by unfold someS; exact decide_eq_true (by omega)
      have hi0 : ¬ (L.length : Int) = 0 := by omega
      rw [hs]; clear hs
      go_enter Tryd.func28, Tryd.ntmps28
      go_wp2_with fail
      refine (HG.out _ T0.out.2).mono ?_; rintro e w1 ⟨rfl, b1⟩
      have T1 := Lib.hid (T0.out.keep b1); clear b1 p0 p1
      obtain ⟨p0, p1, -⟩ := T1.out.full
      go_wp2_with fail
      refine (HA.out _ T1.out.2).mono ?_; rintro e w2 ⟨v, rfl, h2⟩
      obtain ⟨ra, rc, rfl, -, hrd, -⟩ := own_cap h2.1
      obtain ⟨b, off, ha, _, hcs⟩ := scells_of_reads hrd (by omega)
      subst ha
      have c0 := hcs 0 (by omega)
      rw [Nat.add_zero] at c0
      change _ = some (Value.string (headS L)) at c0
      clear hcs hrd
      have HB := Lib.hid (T1.out.2.trans (h2.2.mono T1.out.2.size)); clear h2 p0 p1
      have hlt0 : (0 : Int) < (L.length : Int) := by omega
      have hlt0n : 0 < L.length := by omega
      go_wp2_with fail
      refine bodyPost_ret (v := .tuple #[.string (headS L), .bool true]) ?_ rfl ⟨rfl, HB.out⟩
      simp [results, Tryd.results28, go_sem, *]
end Go.Proofs.YtcigighklghjkaaDoor
