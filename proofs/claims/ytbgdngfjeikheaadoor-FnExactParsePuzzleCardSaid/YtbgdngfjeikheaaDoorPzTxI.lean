/-
  Puzzles as texts: the program.
-/
import Derived.Test.YtbgdngfjeikheaaDoorPzTxS
import Derived.Maps.AppendAt
import Derived.OwnWalk
namespace Go.Proofs.YtbgdngfjeikheaaDoor
open Go.RowKit
set_option linter.unusedVariables false
set_option linter.unusedSimpArgs false

set_option maxHeartbeats 1600000 in
set_option maxRecDepth 100000 in
theorem clueText_any (n0 n1 n2 : Nat) (x0 : n0 < 100) (x1 : n1 < 100) (x2 : n2 < 100) (w : World) :
    Calls Tryd.prog 68 #[.agg #[.int .i64 n0, .int .i64 n1, .int .i64 n2]] w fun e w' => e = .returned (.string ⟨(txC3 n0 n1 n2).toArray⟩) ∧ Below w.heap.size w w' := by
  have IH := Lib.hid (And.intro (itoa_pz n0 x0) (And.intro (itoa_pz n1 x1) (itoa_pz n2 x2)))
  have htx : txC3 n0 n1 n2 = (((numF 1 n0 ++ [46]) ++ numF 1 n1) ++ [46]) ++ numF 1 n2 := rfl
  rw [htx]; clear htx
  have l0 := (numF_len 1 n0).2
  have l1 := (numF_len 1 n1).2
  have l2 := (numF_len 1 n2).2
  generalize numF 1 n0 = N0 at *
  generalize numF 1 n1 = N1 at *
  generalize numF 1 n2 = N2 at *
  have a1 := fun W => addLP N0 [46] (by omega) (by simp) W
  have a2 := fun W => addLP (N0 ++ [46]) N1 (by simp; omega) (by omega) W
  have a3 := fun W => addLP ((N0 ++ [46]) ++ N1) [46] (by simp; omega) (by simp) W
  have a4 := fun W => addLP (((N0 ++ [46]) ++ N1) ++ [46]) N2 (by simp; omega) (by omega) W
  generalize (((N0 ++ [46]) ++ N1) ++ [46]) ++ N2 = T4 at *
  generalize ((N0 ++ [46]) ++ N1) ++ [46] = T3 at *
  generalize (N0 ++ [46]) ++ N1 = T2 at *
  generalize N0 ++ [46] = T1 at *
  clear l0 l1 l2 x0 x1 x2
  have P0 := ObAt.new w 75 #[.int .i64 n0, .int .i64 n1, .int .i64 n2]
  have B0 := Lib.hid (Below.ofNew (w := w) (.cells #[.int .i64 n0, .int .i64 n1, .int .i64 n2] 75))
  obtain ⟨c0, c1, c2, -, -, -⟩ := P0.three
  clear P0
  go_enter Tryd.func68, Tryd.ntmps68
  go_wp2_with fail
  go_quiet ((go_at_call 66; (first | exact (IH.out.1 _).mono (fun _ _ h => ⟨h.1, _, h.2⟩) | exact (IH.out.2.1 _).mono (fun _ _ h => ⟨h.1, _, h.2⟩) | exact (IH.out.2.2 _).mono (fun _ _ h => ⟨h.1, _, h.2⟩))))
  go_wp2
  go_ret
  exact ⟨rfl, below_drewN B0.out _⟩

theorem infoStrP : (Tryd.prog.info? 9).map (fun i => (i.zero, i.size, i.bytes)) = some (some (.string ⟨#[]⟩), 1, 16) := by kernel_rfl
theorem cell_one_newP (w : World) (v : Value) (t : TypeId) : ∀ j' u, ([v] : List Value)[j']? = some u → (w.alloc (.cells #[v] t)).cell? ((⟨w.heap.size, 0, none⟩ : Addr).add j') = some u := by
  intro j' u hu
  have e0 : j' = 0 := by have := (List.getElem?_eq_some_iff.1 hu).1; simp at this; omega
  subst e0
  simp at hu; subst hu
  have e : (⟨w.heap.size, 0, none⟩ : Addr).add 0 = ⟨w.heap.size, 0, none⟩ := by unfold Addr.add; split <;> simp_all
  rw [e]
  exact cell_of_row _ _ 0 _ _ _ (heap_alloc_last w _)
def strC (l : List Cl) : List Value := l.map fun r => Value.string ⟨(txC r).toArray⟩
theorem strC_step {l : List Cl} {k : Nat} (hk : k < l.length) : strC (l.take (k + 1)) = strC (l.take k) ++ [.string ⟨(txC (l.getD k zC)).toArray⟩] := by
  rw [ptake_snoc zC l k hk]; unfold strC; rw [List.map_append]; rfl
def RowC (B : Nat) (w : World) (l : List Cl) (k : Nat) (v : Value) (wr : World) : Prop := wr.ownsRow B 9 1 v k (strC (l.take k)) ∧ Below B w wr
theorem lt_belowP {B : Nat} {e : TypeId} {k : Nat} {v : Value} {n : Nat} {xs : List Value} {w w' : World} (h : w.ownsRow B e k v n xs) (hb : Below w.heap.size w w') : w'.ownsRow B e k v n xs := by
  obtain ⟨h1, h2⟩ := h
  refine ⟨h1, ?_⟩
  rcases h2 with h2 | ⟨g, cap, cur, hv, hg, hh, r⟩
  · exact Or.inl h2
  · exact Or.inr ⟨g, cap, cur, hv, hg, by rw [hb.block g (Array.getElem?_eq_some_iff.1 hh).1]; exact hh, r⟩
theorem rowC_join {B : Nat} {w wr : World} {l : List Cl} {v : Value} (h : RowC B w l l.length v wr) :
    (l = [] ∧ v = .slice none 0 0) ∨ ∃ g cap, v = .slice (some ⟨g, 0, none⟩) l.length cap ∧ g < wr.heap.size ∧ l.length ≤ cap ∧ ∀ (j : Nat) x, (l.map fun r => (⟨(txC r).toArray⟩ : ByteArray))[j]? = some x → wr.cell? ⟨g, 0 + j, none⟩ = some (.string x) := by
  have ho := h.1
  rw [List.take_length] at ho
  obtain ⟨a, c, rfl, hr, hlen, -, -⟩ := Reads.own ho
  obtain ⟨hl, h2 | ⟨g, cap, cur, hv, hg, hh, hn, hcap, hcs, htk⟩⟩ := ho
  · exact .inl ⟨List.eq_nil_of_length_eq_zero h2.2, by have := h2.1; have h3 := h2.2; rw [h3] at this ⊢; exact this⟩
  · cases hv
    refine .inr ⟨g, _, rfl, (Array.getElem?_eq_some_iff.1 hh).1, hn, fun j x hj => ?_⟩
    rw [List.getElem?_map] at hj
    obtain ⟨d, hd, rfl⟩ := Option.map_eq_some_iff.1 hj
    have hjl : j < l.length := (List.getElem?_eq_some_iff.1 hd).1
    rcases hr with hr | ⟨b, off, he, hlt, hc⟩
    · simp [strC] at hr; rw [hr] at hjl; simp at hjl
    · cases he
      rw [hc j (by simpa [strC] using hjl)]
      simp [strC, hd]
theorem joinC_any {B : Nat} {w wr : World} {l : List Cl} {v : Value} (h : RowC B w l l.length v wr) (hl : l.length ≤ 6) :
    Calls Tryd.prog 117 #[v, .string ⟨#[44]⟩] wr fun e w' => e = .returned (.string ⟨(clsT l).toArray⟩) ∧ Below wr.heap.size wr w' := by
  rcases rowC_join h with ⟨rfl, rfl⟩ | ⟨g, cap, rfl, hg, hcap, hcs⟩
  · refine (Tryd.strings_Join_none none 0 ⟨#[44]⟩ wr).mono ?_
    rintro e w' ⟨rfl, rfl⟩
    exact ⟨rfl, Below.refl _ _⟩
  · have hL : Lib.join (((l.map fun r => (⟨(txC r).toArray⟩ : ByteArray))).map (·.data.toList)) (⟨#[44]⟩ : ByteArray).data.toList = clsT l := by
      unfold clsT; rw [List.map_map]; rfl
    have hlen := clsT_len (l := l) l.length (Nat.le_refl _)
    rw [List.take_length] at hlen
    have hj := Tryd.strings_Join g 0 cap (l.map fun r => ⟨(txC r).toArray⟩) ⟨#[44]⟩ wr hcs hg (by rw [List.length_map]; omega) (by rw [List.length_map]; exact hcap) (by rw [hL]; omega)
    rw [hL, List.length_map] at hj
    exact hj

set_option maxHeartbeats 1600000 in
set_option maxRecDepth 100000 in
theorem joinClues_any (p : Int) (l : List Cl) (hg : goodP p l = true) (ad : Option Addr) (c : Nat) (w : World) (hr : Reads w ad (clus l)) :
    Calls Tryd.prog 67 #[.slice ad l.length c, .string ⟨#[44]⟩, .func (.func 68) #[] #[]] w fun e w' => e = .returned (.string ⟨(clsT l).toArray⟩) ∧ Below w.heap.size w w' := by
  obtain ⟨hp, h6, hgc⟩ := goodP_bd hg
  have HGD := Lib.hid (fun k hk => goodC_bd hp (goodCs_get hgc k hk)); clear hp hgc hg
  have HJ := Lib.hid (fun (wr : World) (v : Value) (h : RowC w.heap.size w l l.length v wr) => joinC_any h h6)
  generalize clsT l = RT at *
  have ln : (l.length : Int) ≤ 6 := by omega
  have HR := Lib.hid hr; clear hr
  obtain ⟨i0, hi, hz0, hz1, hz2⟩ := info_parts infoStrP
  have HI := Lib.hid (And.intro hi (And.intro hz0 (And.intro hz1 hz2))); clear hi hz0 hz1 hz2
  have H0 : Hid (RowC w.heap.size w l 0 (.slice none 0 0) w) := ⟨⟨rfl, .inl ⟨rfl, rfl⟩⟩, Below.refl _ _⟩
  go_enter Tryd.func67, Tryd.ntmps67
  go_wp2_with fail
  go_loopw [7, 12] (fun v i wr => ∃ k : Nat, i = .int .i64 k ∧ k ≤ l.length ∧ Hid (RowC w.heap.size w l k v wr)) (fun _ i _ => l.length - (intOf i).toNat)
  case atStart => exact ⟨0, rfl, Nat.zero_le _, H0⟩
  case round =>
    clear H0
    obtain ⟨k, rfl, hk, hH⟩ := hrel
    by_cases hlt : k < l.length
    · have b1 : (k : Int) < (l.length : Int) := by omega
      obtain ⟨b, off, ha, _, hc⟩ := ccells_of_reads (HR.out.old hH.out.2) (by omega)
      subst ha
      obtain ⟨c0, c1, c2⟩ := hc k hlt
      clear hc
      have hst := strC_step hlt
      obtain ⟨⟨x1, x2⟩, ⟨x3, x4⟩, ⟨x5, x6⟩⟩ := HGD.out k hlt
      have HST := Lib.hid hst; clear hst
      generalize l.getD k zC = r at *
      obtain ⟨r0, r1, r2⟩ := r
      simp only at c0 c1 c2 x1 x2 x3 x4 x5 x6
      obtain ⟨n0, rfl⟩ : ∃ n : Nat, r0 = n := ⟨r0.toNat, by omega⟩
      obtain ⟨n1, rfl⟩ : ∃ n : Nat, r1 = n := ⟨r1.toNat, by omega⟩
      obtain ⟨n2, rfl⟩ : ∃ n : Nat, r2 = n := ⟨r2.toNat, by omega⟩
      have htx : txC ((n0 : Int), (n1 : Int), (n2 : Int)) = txC3 n0 n1 n2 := rfl
      rw [htx] at HST
      have HT2 := Lib.hid (clueText_any n0 n1 n2 (by omega) (by omega) (by omega))
      clear htx x1 x2 x3 x4 x5 x6
      generalize txC3 n0 n1 n2 = TX at *
      have hbx := hH.out.2.alloc hH.out.2.size (.cells #[.int .i64 n0, .int .i64 n1, .int .i64 n2] 75)
      have hox := hH.out.1.alloc (.cells #[.int .i64 n0, .int .i64 n1, .int .i64 n2] 75)
      have HX := Lib.hid (And.intro hox hbx); clear hox hbx hH
      go_wp2_with fail
      refine (HT2.out _).mono ?_; rintro e w3 ⟨rfl, b3⟩
      have HX3 := Lib.hid (And.intro (lt_belowP HX.out.1 b3) (HX.out.2.trans (b3.mono HX.out.2.size))); clear b3 HX c0 c1 c2
      have hbs := HX3.out.2.size
      have HN := Lib.hid (cell_one_newP w3 (.string ⟨TX.toArray⟩) 9)
      go_wp2_with (at_builtin; refine wpList_append_own_at _ rfl _ _ 107 rfl w.heap.size 9 i0 (.string ⟨#[]⟩) 1 16 Tryd.underlying107 HI.out.1 HI.out.2.1 HI.out.2.2.1 HI.out.2.2.2 rfl (by decide) _ _ _ rfl (HX3.out.1.alloc _) ⟨w3.heap.size, 0, none⟩ 1 1 [.string ⟨TX.toArray⟩] rfl rfl HN.out ?_ ?_ ?_ ?_ ?_)
      · intro u hu; simp at hu; subst hu; rfl
      · unfold maxLen; omega
      · omega
      · simp; omega
      intro v' w5 hown5 hgrow _ _
      have hbel5 : Below w.heap.size w w5 := (HX3.out.2.alloc hbs _).grown hgrow (by simp; omega) (fun g hg => by
        obtain ⟨_, h | ⟨g', cap, cur, hv, hb', _⟩⟩ := HX3.out.1
        · rw [h.1] at hg; cases hg
        · rw [hv] at hg; simp [Value.ownBlock] at hg; omega)
      have H5 : Hid (RowC w.heap.size w l (k + 1) v' w5) := ⟨by rw [HST.out]; exact hown5, hbel5⟩
      clear hown5 hgrow hbel5
      go_wp2_with fail
      go_roundw
      case rel => exact ⟨k + 1, by go_num, by omega, H5⟩
      case measure => simp [intOf]; omega
    · obtain rfl : k = l.length := by omega
      go_wp2_with fail
      refine (HJ.out _ _ hH.out).mono ?_; rintro e w4 ⟨rfl, b4⟩
      have HB4 := Lib.hid (hH.out.2.trans (b4.mono hH.out.2.size)); clear b4 hH HJ
      go_wp2_with fail
      go_ret
      exact ⟨rfl, HB4.out⟩

theorem tx_keepP {w X Y : World} {B : Nat} {r0 r1 : Value} (bd : Below X.heap.size X Y) (h : X.cell? ⟨B, 0, none⟩ = some r0 ∧ X.cell? ⟨B, 1, none⟩ = some r1 ∧ B < X.heap.size ∧ Below w.heap.size w X) :
    Y.cell? ⟨B, 0, none⟩ = some r0 ∧ Y.cell? ⟨B, 1, none⟩ = some r1 ∧ B < Y.heap.size ∧ Below w.heap.size w Y := by
  obtain ⟨h0, h1, h4, h5⟩ := h
  refine ⟨?_, ?_, Nat.lt_of_lt_of_le h4 bd.size, h5.trans (bd.mono h5.size)⟩
  · rw [bd.cell (p := ⟨B, 0, none⟩) h4]; exact h0
  · rw [bd.cell (p := ⟨B, 1, none⟩) h4]; exact h1

set_option maxHeartbeats 1600000 in
set_option maxRecDepth 100000 in
theorem implPuzzleText_any (t : Int) (l : List Cl) (ad : Option Addr) (c : Nat) (w : World) (hl : (l.length : Int) ≤ 1000000000000) (hr : Reads w ad (clus l)) :
    Calls Tryd.prog 21 #[.agg #[.int .i64 t, .slice ad l.length c]] w fun e w' => e = .returned (.tuple #[.string (pzTV t l), .bool (goodP t l)]) ∧ Below w.heap.size w w' := by
  have HA := Lib.hid (And.intro (ObAt.new w 24 #[.int .i64 t, .slice ad l.length c]) (Below.ofNew (w := w) (.cells #[.int .i64 t, .slice ad l.length c] 24)))
  obtain ⟨p0, p1, -, -⟩ := HA.out.1.two
  have HIS := Lib.hid (isPuzzle_any t l ad c _ hl (hr.old HA.out.2))
  cases hg : goodP t l
  · have e1 : pzTV t l = ⟨#[]⟩ := by unfold pzTV; rw [hg]; rfl
    rw [e1]
    rw [hg] at HIS
    clear e1 hg hr
    go_enter Tryd.func21, Tryd.ntmps21
    go_wp2_with fail
    refine HIS.out.mono ?_; rintro e w1 ⟨rfl, b1⟩
    have HB1 := Lib.hid (HA.out.2.trans (b1.mono HA.out.2.size)); clear b1
    go_wp2_with fail
    refine bodyPost_ret (v := .tuple #[.string ⟨#[]⟩, .bool false]) (by simp [results, Tryd.results21, go_sem]) rfl ⟨rfl, HB1.out⟩
  · obtain ⟨⟨t1, t2⟩, h6, -⟩ := goodP_bd hg
    have e1 : pzTV t l = ⟨(pzTL t l).toArray⟩ := by unfold pzTV; rw [hg]; rfl
    rw [e1]
    rw [hg] at HIS
    have HJ := Lib.hid (fun (W : World) (hb : Below w.heap.size w W) => joinClues_any t l hg ad c W (hr.old hb))
    clear e1 hg hr
    obtain ⟨tn, rfl⟩ : ∃ n : Nat, t = n := ⟨t.toNat, by omega⟩
    have IH := Lib.hid (itoa_pz tn (by omega))
    have la := (numF_len 1 tn).2
    have lh := headP_len tn
    have hrl := clsT_len (l := l) l.length (Nat.le_refl _)
    rw [List.take_length] at hrl
    have e0 : headP tn = numF 1 tn ++ [112] := rfl
    have e2 : pzTL tn l = headP tn ++ clsT l := rfl
    have h1 := fun W => addLP (numF 1 tn) [112] (by omega) (by simp) W
    have h4 := fun W => addLP (headP tn) (clsT l) (by omega) (by omega) W
    rw [← e0] at h1
    rw [← e2] at h4
    clear e0 e2 la lh hrl
    generalize pzTL (tn : Int) l = HR2 at *
    generalize headP (tn : Int) = HT at *
    generalize clsT l = RT at *
    generalize numF 1 tn = A0 at *
    have HADD := Lib.hid (And.intro h1 h4); clear h1 h4
    go_enter Tryd.func21, Tryd.ntmps21
    go_wp2_with fail
    refine HIS.out.mono ?_; rintro e w1 ⟨rfl, b1⟩
    have HB1 := Lib.hid (And.intro (HA.out.1.keep b1) (HA.out.2.trans (b1.mono HA.out.2.size))); clear b1 HA HIS p0 p1
    have h1 := HADD.out.1
    have h4 := HADD.out.2
    go_wp2_with fail
    refine wp_region_held_drew (S := fun w' => w'.cell? ⟨w.heap.size, 0, none⟩ = some (.int .i64 tn) ∧ w'.cell? ⟨w.heap.size, 1, none⟩ = some (.slice ad l.length c) ∧ w.heap.size < w'.heap.size ∧ Below w.heap.size w w') (by kernel_rfl) ⟨HB1.out.1.cell 0, HB1.out.1.cell 1, HB1.out.1.lt, Below.drew HB1.out.2⟩ (fun hHeld => ?_)
    (refine wpAnyH_take (i := 0) (v := ?_) rfl (by kernel_rfl) (by kernel_rfl) (by kernel_rfl) (fun _ _ _ h => h) (Or.inl ⟨by kernel_rfl, ?_⟩) (by assumption) ?_; rotate_left; focus (intro w hSw; (try dsimp only at hSw); go_simp; try with_reducible rfl); (try simp only [List.getElem_toArray, List.getElem_cons_succ, List.getElem_cons_zero, Act.put, List.setIfInBounds_toArray, List.set_cons_zero, List.set_cons_succ])); (refine wpAnyH_take (i := 1) (v := ?_) rfl (by kernel_rfl) (by kernel_rfl) (by kernel_rfl) (fun _ _ _ h => h) (Or.inl ⟨by kernel_rfl, ?_⟩) (by assumption) ?_; rotate_left; focus (intro w hSw; (try dsimp only at hSw); go_simp; try with_reducible rfl); (try simp only [List.getElem_toArray, List.getElem_cons_succ, List.getElem_cons_zero, Act.put, List.setIfInBounds_toArray, List.set_cons_zero, List.set_cons_succ])); (refine wpAnyH_take (i := 4) (v := ?_) rfl (by kernel_rfl) (by kernel_rfl) (by kernel_rfl) (fun _ _ _ h => h) (Or.inl ⟨by kernel_rfl, ?_⟩) (by assumption) ?_; rotate_left; focus (intro w hSw; (try dsimp only at hSw); go_simp; try with_reducible rfl); (try simp only [List.getElem_toArray, List.getElem_cons_succ, List.getElem_cons_zero, Act.put, List.setIfInBounds_toArray, List.set_cons_zero, List.set_cons_succ])); (refine wpAnyH_take (i := 5) (v := ?_) rfl (by kernel_rfl) (by kernel_rfl) (by kernel_rfl) (fun _ _ _ h => h) (Or.inl ⟨by kernel_rfl, ?_⟩) (by assumption) ?_; rotate_left; focus (intro w hSw; (try dsimp only at hSw); go_simp; try with_reducible rfl); (try simp only [List.getElem_toArray, List.getElem_cons_succ, List.getElem_cons_zero, Act.put, List.setIfInBounds_toArray, List.set_cons_zero, List.set_cons_succ]))
    refine wpAnyH_ready (rs := [2]) (by kernel_rfl) (by simp) ?_; refine AllReadyH.cons rfl (fun K hK => ?_) AllReadyH.nil
    go_simp
    go_at_call 66
    refine (IH.out _).mono ?_; rintro e w' ⟨rfl, rfl⟩
    have KS := Lib.hid hHeld; clear hHeld
    go_wp2_with fail
    first
      | refine hK.out _ _ KS.out (fun hHeld => ?_)
      | refine hK _ _ KS.out (fun hHeld => ?_)
    clear hK K KS
    (try simp only [List.getElem_toArray, List.getElem_cons_succ, List.getElem_cons_zero, Act.put, List.setIfInBounds_toArray, List.set_cons_zero, List.set_cons_succ])
    (refine wpAnyH_take (i := 3) (v := ?_) rfl (by kernel_rfl) (by kernel_rfl) (by kernel_rfl) (fun _ _ _ h => h) (Or.inl ⟨by kernel_rfl, ?_⟩) (by assumption) ?_; rotate_left; focus (intro w hSw; (try dsimp only at hSw); go_simp; try with_reducible rfl); (try simp only [List.getElem_toArray, List.getElem_cons_succ, List.getElem_cons_zero, Act.put, List.setIfInBounds_toArray, List.set_cons_zero, List.set_cons_succ]))
    refine wpAnyH_ready (rs := [6]) (by kernel_rfl) (by simp) ?_; refine AllReadyH.cons rfl (fun K hK => ?_) AllReadyH.nil
    go_simp
    go_at_call 67
    refine (HJ.out _ hHeld.2.2.2).mono ?_; rintro e w' ⟨rfl, bd⟩
    have KS := Lib.hid (tx_keepP bd hHeld); clear hHeld bd
    go_wp2_with fail
    first
      | refine hK.out _ _ KS.out (fun hHeld => ?_)
      | refine hK _ _ KS.out (fun hHeld => ?_)
    clear hK K KS
    (try simp only [List.getElem_toArray, List.getElem_cons_succ, List.getElem_cons_zero, Act.put, List.setIfInBounds_toArray, List.set_cons_zero, List.set_cons_succ])
    (refine wpAnyH_take (i := 7) (v := ?_) rfl (by kernel_rfl) (by kernel_rfl) (by kernel_rfl) (fun _ _ _ h => h) (Or.inl ⟨by kernel_rfl, ?_⟩) (by assumption) ?_; rotate_left; focus (intro w hSw; (try dsimp only at hSw); go_simp; try with_reducible rfl); (try simp only [List.getElem_toArray, List.getElem_cons_succ, List.getElem_cons_zero, Act.put, List.setIfInBounds_toArray, List.set_cons_zero, List.set_cons_succ])); (refine wpAnyH_take (i := 8) (v := ?_) rfl (by kernel_rfl) (by kernel_rfl) (by kernel_rfl) (fun _ _ _ h => h) (Or.inl ⟨by kernel_rfl, ?_⟩) (by assumption) ?_; rotate_left; focus (intro w hSw; (try dsimp only at hSw); go_simp; try with_reducible rfl); (try simp only [List.getElem_toArray, List.getElem_cons_succ, List.getElem_cons_zero, Act.put, List.setIfInBounds_toArray, List.set_cons_zero, List.set_cons_succ])); (refine wpAnyH_take (i := 9) (v := ?_) rfl (by kernel_rfl) (by kernel_rfl) (by kernel_rfl) (fun _ _ _ h => h) (Or.inl ⟨by kernel_rfl, ?_⟩) (by assumption) ?_; rotate_left; focus (intro w hSw; (try dsimp only at hSw); go_simp; try with_reducible rfl); (try simp only [List.getElem_toArray, List.getElem_cons_succ, List.getElem_cons_zero, Act.put, List.setIfInBounds_toArray, List.set_cons_zero, List.set_cons_succ]))
    refine wpAnyH_done (by kernel_rfl) ?_ _
    have HK := Lib.hid hHeld.2.2.2; clear hHeld
    go_wp2_with fail
    refine bodyPost_ret (v := .tuple #[.string ⟨HR2.toArray⟩, .bool true]) (by simp [results, Tryd.results21, go_sem]) rfl ⟨rfl, HK.out⟩

set_option maxHeartbeats 1600000 in
set_option maxRecDepth 100000 in
theorem specPuzzleText_any (t : Int) (l : List Cl) (ad : Option Addr) (c : Nat) (w : World) (hl : (l.length : Int) ≤ 1000000000000) (hr : Reads w ad (clus l)) :
    Calls Tryd.prog 19 #[.agg #[.int .i64 t, .slice ad l.length c]] w fun e w' => e = .returned (.tuple #[.string (pzTV t l), .bool (goodP t l)]) ∧ Below w.heap.size w w' := by
  have HA := Lib.hid (And.intro (ObAt.new w 24 #[.int .i64 t, .slice ad l.length c]) (Below.ofNew (w := w) (.cells #[.int .i64 t, .slice ad l.length c] 24)))
  obtain ⟨p0, p1, -, -⟩ := HA.out.1.two
  have HIS := Lib.hid (pzGood_any t l ad c _ hl (hr.old HA.out.2))
  cases hg : goodP t l
  · have e1 : pzTV t l = ⟨#[]⟩ := by unfold pzTV; rw [hg]; rfl
    rw [e1]
    rw [hg] at HIS
    clear e1 hg hr
    go_enter Tryd.func19, Tryd.ntmps19
    go_wp2_with fail
    refine HIS.out.mono ?_; rintro e w1 ⟨rfl, b1⟩
    have HB1 := Lib.hid (HA.out.2.trans (b1.mono HA.out.2.size)); clear b1
    go_wp2_with fail
    refine bodyPost_ret (v := .tuple #[.string ⟨#[]⟩, .bool false]) (by simp [results, Tryd.results19, go_sem]) rfl ⟨rfl, HB1.out⟩
  · obtain ⟨⟨t1, t2⟩, h6, -⟩ := goodP_bd hg
    have e1 : pzTV t l = ⟨(pzTL t l).toArray⟩ := by unfold pzTV; rw [hg]; rfl
    rw [e1]
    rw [hg] at HIS
    obtain ⟨tn, rfl⟩ : ∃ n : Nat, t = n := ⟨t.toNat, by omega⟩
    have HT := Lib.hid (fun W (hb : Below w.heap.size w W) => pzText_any tn l hg ad c W (hr.old hb))
    clear e1 hg hr
    generalize pzTL (tn : Int) l = HR2 at *
    go_enter Tryd.func19, Tryd.ntmps19
    go_wp2_with fail
    refine HIS.out.mono ?_; rintro e w1 ⟨rfl, b1⟩
    have HB1 := Lib.hid (And.intro (HA.out.1.keep b1) (HA.out.2.trans (b1.mono HA.out.2.size))); clear b1 HA HIS p0 p1
    obtain ⟨p0, p1, -, -⟩ := HB1.out.1.two
    go_wp2_with fail
    refine (HT.out _ HB1.out.2).mono ?_; rintro e w2 ⟨rfl, b2⟩
    have HB2 := Lib.hid (HB1.out.2.trans (b2.mono HB1.out.2.size)); clear b2 HB1 p0 p1
    go_wp2_with fail
    refine bodyPost_ret (v := .tuple #[.string ⟨HR2.toArray⟩, .bool true]) (by simp [results, Tryd.results19, go_sem]) rfl ⟨rfl, HB2.out⟩
end Go.Proofs.YtbgdngfjeikheaaDoor
