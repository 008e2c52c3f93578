/-
  Puzzles out of texts: the model: the clues.
-/
import Derived.Test.YtbgdngfjeikheaaDoorPqSpe2
import Derived.OwnWalk
import Derived.Deep.RegionHeld3
namespace Go.Proofs.YtbgdngfjeikheaaDoor
open Go.RowKit
set_option linter.unusedVariables false
set_option linter.unusedSimpArgs false

/-- Where the loop stands: the result's block, the puzzle's, the pieces, the clues. -/
def MqI (w : World) (t : Int) (g b1 : Nat) (cs1 : Array Value) (m : List Cl) (a : Option Addr) (c : Nat) (wr : World) : Prop :=
  ObAt wr w.heap.size 24 #[.int .i64 0, .slice none 0 0] ∧ ObAt wr g 24 #[.int .i64 t, .slice a m.length c] ∧ ObAt wr b1 9 cs1 ∧ wr.ownsRow w.heap.size 75 3 (.slice a m.length c) m.length (clus m) ∧ Below w.heap.size w wr ∧ w.heap.size < g
theorem MqI.keep {w : World} {t : Int} {g b1 : Nat} {cs1 : Array Value} {m : List Cl} {a : Option Addr} {c : Nat} {wr w2 : World} (h : MqI w t g b1 cs1 m a c wr) (hb : Below wr.heap.size wr w2) : MqI w t g b1 cs1 m a c w2 :=
  ⟨h.1.keep hb, h.2.1.keep hb, h.2.2.1.keep hb, owns_below h.2.2.2.1 hb, h.2.2.2.2.1.trans (hb.mono h.2.2.2.2.1.size), h.2.2.2.2.2⟩
theorem MqI.pq {w : World} {t : Int} {g b1 : Nat} {cs1 : Array Value} {m : List Cl} {a : Option Addr} {c : Nat} {wr : World} (h : MqI w t g b1 cs1 m a c wr) : PqS w t g a m c wr := ⟨h.1, h.2.1, h.2.2.2.1, h.2.2.2.2.1⟩
/-- Behind the append: the puzzle still holds the old row. -/
def MqA (w : World) (t : Int) (g b1 : Nat) (cs1 : Array Value) (v : Value) (m : List Cl) (a : Option Addr) (c : Nat) (wr : World) : Prop :=
  ObAt wr w.heap.size 24 #[.int .i64 0, .slice none 0 0] ∧ ObAt wr g 24 #[.int .i64 t, v] ∧ ObAt wr b1 9 cs1 ∧ wr.ownsRow w.heap.size 75 3 (.slice a m.length c) m.length (clus m) ∧ Below w.heap.size w wr ∧ w.heap.size < g
theorem MqI.grow {w : World} {t : Int} {g b1 : Nat} {cs1 : Array Value} {m m2 : List Cl} {a a2 : Option Addr} {c c2 : Nat} {wr w2 : World} (h : MqI w t g b1 cs1 m a c wr) (hg : wr.grownBy w2 (Value.slice a m.length c).ownBlock) (ho : w2.ownsRow w.heap.size 75 3 (.slice a2 m2.length c2) m2.length (clus m2)) : MqA w t g b1 cs1 (.slice a m.length c) m2 a2 c2 w2 :=
  ⟨h.1.grow (T' := 75) (by decide) h.2.2.2.1 hg, h.2.1.grow (T' := 75) (by decide) h.2.2.2.1 hg, h.2.2.1.grow (T' := 75) (by decide) h.2.2.2.1 hg, ho, h.2.2.2.2.1.grown hg h.2.2.2.2.1.size (fun b e => (owns_ge h.2.2.2.1 e).1), h.2.2.2.2.2⟩
theorem MqA.put {w : World} {t : Int} {g b1 : Nat} {cs1 : Array Value} {v : Value} {m : List Cl} {a : Option Addr} {c : Nat} {wr : World} (h : MqA w t g b1 cs1 v m a c wr) : MqI w t g b1 cs1 m a c (wr.setCell ⟨g, 1, none⟩ (.slice a m.length c)) := by
  obtain ⟨h1, h2, h3, h4, h5, h6⟩ := h
  refine ⟨h1.other (by omega) _, h2.put 1 _, h3.other (ob_ne h3 h2 (by decide)) _, owns_heap h4 (fun b e => ?_), h5.setCell (p := ⟨g, 1, none⟩) (by simp only; omega) _, h6⟩
  have hne : b ≠ g := by
    intro e2
    subst e2
    exact owns_apart (T := 24) (fr := (0, 0)) h2 (by decide) h4 e
  rw [Below.heap_setCell _ _ _ _ hne]
theorem allC_step {p : List UInt8} {r : Cl} {ps : List (List UInt8)} {xs : List Cl} (h : clM p = some r) : (allC (p :: ps)).map (fun rs => xs ++ rs) = (allC ps).map (fun rs => (xs ++ [r]) ++ rs) := by
  rw [allC, h]
  simp only
  cases allC ps <;> simp
theorem allC_bad {p : List UInt8} {ps : List (List UInt8)} (h : clM p = none) : allC (p :: ps) = none := by rw [allC, h]
theorem clM_not {l : List UInt8} (h : (cutL 46 l).length ≠ 3) : clM l = none := by
  unfold clM
  split
  · rename_i e; rw [e] at h; exact absurd rfl h
  · rfl
theorem one_cellsQ {w : World} {g : Nat} {T : TypeId} {x y z : Int} (h : ObAt w g T #[.int .i64 x, .int .i64 y, .int .i64 z]) : ∀ j u, (clus [(x, y, z)])[j]? = some u → w.cell? ((⟨g, 0, none⟩ : Addr).add j) = some u := by
  intro j u hj
  have e : (⟨g, 0, none⟩ : Addr).add j = ⟨g, 0 + j, none⟩ := by unfold Addr.add; split <;> simp_all
  rw [e, Nat.zero_add, h.cell j]
  simpa [clus, flatC, ints] using hj
theorem wp_append_oneQ {w : World} {o : Oper} {a : Act} {K : Act → World → Prop} {Q : Exit → Act → World → Prop} (s x : Operand)
    (ho : o.op = .call { callee := .builtin .append, args := #[s, x], argTypes := #[22, 22] })
    (B : Nat) (v : Value) (m : List Cl) (y : Cl) (ad : Addr) (c : Nat) (hs : a.eval s = v) (hx : a.eval x = .slice (some ad) 1 c)
    (hown : w.ownsRow B 75 3 v m.length (clus m)) (hy : ∀ j u, (clus [y])[j]? = some u → w.cell? (ad.add j) = some u) (hB : B ≤ w.heap.size) (hsz : m.length ≤ 1000)
    (h : ∀ v' w', w'.ownsRow B 75 3 v' (m.length + 1) (clus (m ++ [y])) → w.grownBy w' v.ownBlock → K (a.put o.dst v') w') :
    o.wp Tryd.prog a w K Q := by
  obtain ⟨i0, hi, hz0, hz1, hz2⟩ := info_parts infoClue
  obtain ⟨v', w', hrun, h2, h3, h4, h5⟩ := run_append_own_at (P := Tryd.prog) w B 22 o.type 75 i0 (.agg #[.int .i64 0, .int .i64 0, .int .i64 0]) 3 24 Tryd.underlying22 hi hz0 hz1 hz2 rfl (by decide) v m.length (clus m) hown ad 1 c (clus [y]) (by rw [clus_len]; simp) hy clus_one (by unfold maxLen; omega) (by omega) hB
  exact Lib.wp_append_run w s x _ _ ho v _ hs hx v' w' hrun (h v' w' (by rw [clus_append]; exact h2) h3)

set_option maxHeartbeats 6400000 in
set_option maxRecDepth 100000 in
theorem pzParse_rows (s p q : ByteArray) (t : Int) (V : Int × List Cl) (o : Bool) (hz : s.size ≤ 60) (hp : p.size ≤ s.size) (hqs : q.size ≤ s.size) (hq : q.data.toList ≠ []) (ht : readL p.data.toList = t) (hnone : clsM q.data.toList = none → V = (0, []) ∧ o = false)
    (hsome : ∀ m, clsM q.data.toList = some m → (goodP t m = false → V = (t, m) ∧ o = false) ∧ (goodP t m = true → (pzTL t m = s.data.toList → V = (t, m) ∧ o = true) ∧ (¬ pzTL t m = s.data.toList → V = (t, m) ∧ o = false))) (hsp : ∀ w : World, Calls Tryd.prog 88 #[.string s, .int .u8 112] w fun e w' => ∃ v, e = .returned v ∧ w'.ownsRow w.heap.size 9 1 v 2 (strS [p, q]) ∧ Below w.heap.size w w') (w : World) :
    Calls Tryd.prog 69 #[.string s] w fun e w' => PzR V.1 V.2 o w e w' := by
  have HSP := Lib.hid hsp; clear hsp
  have htw := fun W => l1Read_any p (by omega) W
  rw [ht] at htw
  have HTW := Lib.hid htw; clear htw ht
  have HP0 := Lib.hid (And.intro (ObAt.new w 24 #[.int .i64 0, .slice none 0 0]) (Below.ofNew (w := w) (.cells #[.int .i64 0, .slice none 0 0] 24)))
  have d6 : ¬ (60 : Int) < (s.size : Int) := by omega
  have hs2 := fun W => l1Split_any q 44 (by omega) W
  rw [show (((44 : UInt8).toNat : Nat) : Int) = 44 from rfl] at hs2
  have hpl := cutS_len q 44 q.size 0
  have hps := fun x (hx : x ∈ cutS q 44 q.size 0) => cutS_size q 44 q.size 0 x hx
  have hrm : clsM q.data.toList = allC ((cutS q 44 q.size 0).map fun x => x.data.toList) := by unfold clsM; rw [if_neg hq, pcsL]
  have hpne : 0 < (cutS q 44 q.size 0).length := by
    rcases Nat.eq_zero_or_pos (cutS q 44 q.size 0).length with h | h
    · have h2 := pcsL q 44
      rw [List.eq_nil_of_length_eq_zero h] at h2
      exact absurd h2.symm (cutL_ne _ _)
    · exact h
  rw [hrm] at hnone hsome
  clear hrm
  have hq1 : 0 < q.size := by
    rcases Nat.eq_zero_or_pos q.size with h | h
    · exfalso; apply hq; apply List.eq_nil_of_length_eq_zero; simpa using h
    · exact h
  have hq2 : (0 : Int) < (q.size : Int) := by omega
  generalize cutS q 44 q.size 0 = ps at *
  have HS2 := Lib.hid hs2; clear hs2
  generalize hR : allC (ps.map fun x => x.data.toList) = R at *
  have HRR : Hid ((allC ((ps.drop 0).map fun x => x.data.toList)).map (fun rs => [] ++ rs) = R) := by
    rw [List.drop_zero, hR]; cases R <;> simp [Lib.hid]
  have HNS := Lib.hid (And.intro hnone hsome); clear hnone hsome hR
  have hpn : ps.length ≤ 61 := by omega
  have HSZ := Lib.hid (fun x hx => Nat.le_trans (hps x hx) (Nat.le_trans hqs hz))
  have HPN := Lib.hid hpne
  clear hz hp hq hqs hps hpl hpne
  go_enter Tryd.func69, Tryd.ntmps69
  go_wp2_with fail
  refine (HSP.out _).mono ?_; rintro e w1 ⟨v, rfl, hown, hbel⟩
  obtain ⟨b0, cap0, cs0, rfl, -, hob, hcs⟩ := row_ob hown (by decide)
  have HP1 := Lib.hid (And.intro (HP0.out.1.keep hbel) (And.intro (HP0.out.2.trans (hbel.mono HP0.out.2.size)) hob))
  have HC0 := Lib.hid (And.intro (hcs 0 p rfl) (hcs 1 q rfl))
  have k0 : w1.cell? ⟨b0, 0, none⟩ = some (.string p) := (hob.cell 0).trans HC0.out.1
  clear hown hbel HP0 HSP hob hcs
  go_wp2_with fail
  refine (HTW.out _).mono ?_; rintro e w2 ⟨rfl, rfl⟩
  clear k0
  have bn := Below.ofNew (w := w1) (.cells #[.int .i64 t, .slice none 0 0] 24)
  have HP2 : Hid (ObAt (w1.alloc (.cells #[.int .i64 t, .slice none 0 0] 24)) w.heap.size 24 #[.int .i64 0, .slice none 0 0] ∧ ObAt (w1.alloc (.cells #[.int .i64 t, .slice none 0 0] 24)) w1.heap.size 24 #[.int .i64 t, .slice none 0 0] ∧ ObAt (w1.alloc (.cells #[.int .i64 t, .slice none 0 0] 24)) b0 9 cs0 ∧ w.heap.size < w1.heap.size ∧ Below w.heap.size w (w1.alloc (.cells #[.int .i64 t, .slice none 0 0] 24))) :=
    ⟨HP1.out.1.keep bn, ObAt.new _ _ _, HP1.out.2.2.keep bn, HP1.out.1.lt, HP1.out.2.1.trans (bn.mono HP1.out.2.1.size)⟩
  clear bn HP1 HTW
  have k1 : (w1.alloc (.cells #[.int .i64 t, .slice none 0 0] 24)).cell? ⟨b0, 1, none⟩ = some (.string q) := (HP2.out.2.2.1.cell 1).trans HC0.out.2
  go_wp2_with fail
  refine (HS2.out _).mono ?_; rintro e w4 ⟨v4, rfl, hown, hbel⟩
  obtain ⟨b1, cap1, cs1, rfl, -, hob, hcs⟩ := row_ob hown HPN.out
  have H0 : Hid (MqI w t w1.heap.size b1 cs1 [] none 0 w4) :=
    ⟨HP2.out.1.keep hbel, HP2.out.2.1.keep hbel, hob, owns_nil3 _ _ _, HP2.out.2.2.2.2.trans (hbel.mono HP2.out.2.2.2.2.size), HP2.out.2.2.2.1⟩
  have HCS := Lib.hid hcs
  clear hown hbel HP2 HS2 k1 hob hcs HC0 HPN
  generalize w1.heap.size = g at *
  go_wp2_with fail
  go_loopw [35] (fun i wr => ∃ (k : Nat) (xs : List Cl) (a : Option Addr) (c : Nat), i = .int .i64 k ∧ k ≤ ps.length ∧ Hid (xs.length = k ∧ (allC ((ps.drop k).map fun x => x.data.toList)).map (fun rs => xs ++ rs) = R) ∧ Hid (MqI w t g b1 cs1 xs a c wr)) (fun i _ => ps.length - (intOf i).toNat)
  case atStart => exact ⟨0, [], none, 0, rfl, Nat.zero_le _, ⟨rfl, HRR.out⟩, H0⟩
  case round =>
    clear H0 HRR
    obtain ⟨k, xs, a, c, rfl, hk, hX, hP⟩ := hrel
    by_cases hlt : k < ps.length
    · have b1' : (k : Int) < (ps.length : Int) := by omega
      have c0 : wr.cell? ⟨b1, k, none⟩ = some (.string ps[k]) := (hP.out.2.2.1.cell k).trans (HCS.out k _ (List.getElem?_eq_getElem hlt))
      have hmem : ps[k] ∈ ps := List.getElem_mem hlt
      have hsz := HSZ.out _ hmem
      have HXL := Lib.hid (show xs.length ≤ 1000 by have := hX.out.1; omega)
      have hxl := hX.out.1
      have hd := hX.out.2
      rw [List.drop_eq_getElem_cons hlt, List.map_cons] at hd
      clear hX hmem
      generalize ps[k] = pk at *
      have hs6 := fun W => l1Split_any pk 46 (by omega) W
      rw [show (((46 : UInt8).toNat : Nat) : Int) = 46 from rfl] at hs6
      have hqz := fun x (hx : x ∈ cutS pk 46 pk.size 0) => cutS_size pk 46 pk.size 0 x hx
      have hpc := pcsL pk 46
      generalize cutS pk 46 pk.size 0 = qs at *
      have HS6 := Lib.hid hs6; clear hs6
      by_cases hq3 : qs.length = 3
      · match qs, hq3 with
        | [x, y, z], _ =>
          have hrs : clM pk.data.toList = some (readL x.data.toList, readL y.data.toList, readL z.data.toList) := by unfold clM; rw [← hpc]; rfl
          rw [allC_step hrs] at hd
          have hx6 := hqz x (by simp)
          have hy6 := hqz y (by simp)
          have hz6 := hqz z (by simp)
          have h5 := fun W => l1Read_any x (by omega) W
          have h9 := fun W => l1Read_any y (by omega) W
          have h13 := fun W => l1Read_any z (by omega) W
          clear hrs hpc hqz hx6 hy6 hz6 hsz
          generalize readL x.data.toList = r0 at *
          generalize readL y.data.toList = r1 at *
          generalize readL z.data.toList = r2 at *
          have HR5 := Lib.hid h5; clear h5
          have HR9 := Lib.hid h9; clear h9
          have HR13 := Lib.hid h13; clear h13
          have HX1 : Hid ((xs ++ [(r0, r1, r2)]).length = k + 1 ∧ (allC ((ps.drop (k + 1)).map fun x => x.data.toList)).map (fun rs => (xs ++ [(r0, r1, r2)]) ++ rs) = R) := ⟨by simp [hxl], hd⟩
          clear hd hxl
          go_wp2_with fail
          refine (HS6.out _).mono ?_; rintro e w6 ⟨v6, rfl, hown, hbel⟩
          obtain ⟨b8, cap8, cs8, rfl, -, hob, hcs⟩ := row_ob hown (by simp)
          have HSF : Hid (∀ X : World, ObAt X b8 9 cs8 → X.cell? ⟨b8, 0, none⟩ = some (.string x) ∧ X.cell? ⟨b8, 1, none⟩ = some (.string y) ∧ X.cell? ⟨b8, 2, none⟩ = some (.string z)) := fun X h => ⟨(h.cell 0).trans (hcs 0 x rfl), (h.cell 1).trans (hcs 1 y rfl), (h.cell 2).trans (hcs 2 z rfl)⟩
          have KP := Lib.hid ((hP.out.keep hbel).keep (Below.drew (Below.refl _ _)))
          have KB : Hid (ObAt w6.drew b8 9 cs8) := hob
          clear hown hbel hP hob hcs c0 HS6
          go_wp2_with fail
          refine wp_region_held_drew (S := fun wi => wi.cell? ⟨b8, 0, none⟩ = some (.string x) ∧ wi.cell? ⟨b8, 1, none⟩ = some (.string y) ∧ wi.cell? ⟨b8, 2, none⟩ = some (.string z)) (by kernel_rfl) (HSF.out _ KB.out) (fun hHeld => ?_)
          (refine wpAnyH_take (i := 0) (v := ?_) rfl (by kernel_rfl) (by kernel_rfl) (by kernel_rfl) (fun _ _ _ h => h) (Or.inl ⟨by kernel_rfl, ?_⟩) (by assumption) ?_; rotate_left; focus (intro w hSw; (try dsimp only at hSw); go_simp; try with_reducible rfl); (try simp only [List.getElem_toArray, List.getElem_cons_succ, List.getElem_cons_zero, Act.put, List.setIfInBounds_toArray, List.set_cons_zero, List.set_cons_succ])); (refine wpAnyH_take (i := 2) (v := ?_) rfl (by kernel_rfl) (by kernel_rfl) (by kernel_rfl) (fun _ _ _ h => h) (Or.inl ⟨by kernel_rfl, ?_⟩) (by assumption) ?_; rotate_left; focus (intro w hSw; (try dsimp only at hSw); go_simp; try with_reducible rfl); (try simp only [List.getElem_toArray, List.getElem_cons_succ, List.getElem_cons_zero, Act.put, List.setIfInBounds_toArray, List.set_cons_zero, List.set_cons_succ])); (refine wpAnyH_take (i := 3) (v := ?_) rfl (by kernel_rfl) (by kernel_rfl) (by kernel_rfl) (fun _ _ _ h => h) (Or.inl ⟨by kernel_rfl, ?_⟩) (by assumption) ?_; rotate_left; focus (intro w hSw; (try dsimp only at hSw); go_simp; try with_reducible rfl); (try simp only [List.getElem_toArray, List.getElem_cons_succ, List.getElem_cons_zero, Act.put, List.setIfInBounds_toArray, List.set_cons_zero, List.set_cons_succ])); (refine wpAnyH_take (i := 4) (v := ?_) rfl (by kernel_rfl) (by kernel_rfl) (by kernel_rfl) (fun _ _ _ h => h) (Or.inl ⟨by kernel_rfl, ?_⟩) (by assumption) ?_; rotate_left; focus (intro w hSw; (try dsimp only at hSw); go_simp; try with_reducible rfl); (try simp only [List.getElem_toArray, List.getElem_cons_succ, List.getElem_cons_zero, Act.put, List.setIfInBounds_toArray, List.set_cons_zero, List.set_cons_succ])); (refine wpAnyH_take (i := 6) (v := ?_) rfl (by kernel_rfl) (by kernel_rfl) (by kernel_rfl) (fun _ _ _ h => h) (Or.inl ⟨by kernel_rfl, ?_⟩) (by assumption) ?_; rotate_left; focus (intro w hSw; (try dsimp only at hSw); go_simp; try with_reducible rfl); (try simp only [List.getElem_toArray, List.getElem_cons_succ, List.getElem_cons_zero, Act.put, List.setIfInBounds_toArray, List.set_cons_zero, List.set_cons_succ])); (refine wpAnyH_take (i := 7) (v := ?_) rfl (by kernel_rfl) (by kernel_rfl) (by kernel_rfl) (fun _ _ _ h => h) (Or.inl ⟨by kernel_rfl, ?_⟩) (by assumption) ?_; rotate_left; focus (intro w hSw; (try dsimp only at hSw); go_simp; try with_reducible rfl); (try simp only [List.getElem_toArray, List.getElem_cons_succ, List.getElem_cons_zero, Act.put, List.setIfInBounds_toArray, List.set_cons_zero, List.set_cons_succ])); (refine wpAnyH_take (i := 8) (v := ?_) rfl (by kernel_rfl) (by kernel_rfl) (by kernel_rfl) (fun _ _ _ h => h) (Or.inl ⟨by kernel_rfl, ?_⟩) (by assumption) ?_; rotate_left; focus (intro w hSw; (try dsimp only at hSw); go_simp; try with_reducible rfl); (try simp only [List.getElem_toArray, List.getElem_cons_succ, List.getElem_cons_zero, Act.put, List.setIfInBounds_toArray, List.set_cons_zero, List.set_cons_succ])); (refine wpAnyH_take (i := 10) (v := ?_) rfl (by kernel_rfl) (by kernel_rfl) (by kernel_rfl) (fun _ _ _ h => h) (Or.inl ⟨by kernel_rfl, ?_⟩) (by assumption) ?_; rotate_left; focus (intro w hSw; (try dsimp only at hSw); go_simp; try with_reducible rfl); (try simp only [List.getElem_toArray, List.getElem_cons_succ, List.getElem_cons_zero, Act.put, List.setIfInBounds_toArray, List.set_cons_zero, List.set_cons_succ])); (refine wpAnyH_take (i := 11) (v := ?_) rfl (by kernel_rfl) (by kernel_rfl) (by kernel_rfl) (fun _ _ _ h => h) (Or.inl ⟨by kernel_rfl, ?_⟩) (by assumption) ?_; rotate_left; focus (intro w hSw; (try dsimp only at hSw); go_simp; try with_reducible rfl); (try simp only [List.getElem_toArray, List.getElem_cons_succ, List.getElem_cons_zero, Act.put, List.setIfInBounds_toArray, List.set_cons_zero, List.set_cons_succ])); (refine wpAnyH_take (i := 12) (v := ?_) rfl (by kernel_rfl) (by kernel_rfl) (by kernel_rfl) (fun _ _ _ h => h) (Or.inl ⟨by kernel_rfl, ?_⟩) (by assumption) ?_; rotate_left; focus (intro w hSw; (try dsimp only at hSw); go_simp; try with_reducible rfl); (try simp only [List.getElem_toArray, List.getElem_cons_succ, List.getElem_cons_zero, Act.put, List.setIfInBounds_toArray, List.set_cons_zero, List.set_cons_succ]))
          generalize w6.drew = X0 at *
          refine wpAnyH_ready (rs := [1, 5]) (by kernel_rfl) (by simp) (AllReadyH.cons rfl (fun K hK => ?_) (AllReadyH.cons rfl (fun K hK => ?_) AllReadyH.nil))
          · skip
            have p1 := KP.out.2.1.cell 1
            go_simp
            clear p1
            first
              | refine hK.out _ _ (HSF.out _ KB.out) (fun hHeld => ?_)
              | refine hK _ _ (HSF.out _ KB.out) (fun hHeld => ?_)
            clear hK K
            (try simp only [List.getElem_toArray, List.getElem_cons_succ, List.getElem_cons_zero, Act.put, List.setIfInBounds_toArray, List.set_cons_zero, List.set_cons_succ])
            refine wpAnyH_ready (rs := [5]) (by kernel_rfl) (by simp) ?_; refine AllReadyH.cons rfl (fun K hK => ?_) AllReadyH.nil
            go_simp
            go_at_call 89
            refine (HR5.out _).mono ?_; rintro e w' ⟨rfl, rfl⟩
            go_wp2_with fail
            first
              | refine hK.out _ _ (HSF.out _ KB.out) (fun hHeld => ?_)
              | refine hK _ _ (HSF.out _ KB.out) (fun hHeld => ?_)
            clear hK K
            (try simp only [List.getElem_toArray, List.getElem_cons_succ, List.getElem_cons_zero, Act.put, List.setIfInBounds_toArray, List.set_cons_zero, List.set_cons_succ])
            refine wpAnyH_ready (rs := [9]) (by kernel_rfl) (by simp) ?_; refine AllReadyH.cons rfl (fun K hK => ?_) AllReadyH.nil
            go_simp
            go_at_call 89
            refine (HR9.out _).mono ?_; rintro e w' ⟨rfl, rfl⟩
            go_wp2_with fail
            first
              | refine hK.out _ _ (HSF.out _ KB.out) (fun hHeld => ?_)
              | refine hK _ _ (HSF.out _ KB.out) (fun hHeld => ?_)
            clear hK K
            (try simp only [List.getElem_toArray, List.getElem_cons_succ, List.getElem_cons_zero, Act.put, List.setIfInBounds_toArray, List.set_cons_zero, List.set_cons_succ])
            refine wpAnyH_ready (rs := [13]) (by kernel_rfl) (by simp) ?_; refine AllReadyH.cons rfl (fun K hK => ?_) AllReadyH.nil
            go_simp
            go_at_call 89
            refine (HR13.out _).mono ?_; rintro e w' ⟨rfl, rfl⟩
            go_wp2_with fail
            first
              | refine hK.out _ _ (HSF.out _ KB.out) (fun hHeld => ?_)
              | refine hK _ _ (HSF.out _ KB.out) (fun hHeld => ?_)
            clear hK K
            (try simp only [List.getElem_toArray, List.getElem_cons_succ, List.getElem_cons_zero, Act.put, List.setIfInBounds_toArray, List.set_cons_zero, List.set_cons_succ])
            (refine wpAnyH_take (i := 14) (v := ?_) rfl (by kernel_rfl) (by kernel_rfl) (by kernel_rfl) (fun _ _ _ h => h) (Or.inl ⟨by kernel_rfl, ?_⟩) (by assumption) ?_; rotate_left; focus (intro w hSw; (try dsimp only at hSw); go_simp; try with_reducible rfl); (try simp only [List.getElem_toArray, List.getElem_cons_succ, List.getElem_cons_zero, Act.put, List.setIfInBounds_toArray, List.set_cons_zero, List.set_cons_succ]))
            refine wpAnyH_ready (rs := [15]) (by kernel_rfl) (by simp) ?_; refine AllReadyH.cons rfl (fun K hK => ?_) AllReadyH.nil
            have bn := Below.ofNew (w := X0) (.cells #[.int .i64 r0, .int .i64 r1, .int .i64 r2] 75)
            have K6 := Lib.hid (And.intro (KP.out.keep bn) (And.intro (one_cellsQ (ObAt.new X0 75 #[.int .i64 r0, .int .i64 r1, .int .i64 r2])) (KB.out.keep bn)))
            clear bn
            go_simp
            first
              | refine hK.out _ _ (HSF.out _ K6.out.2.2) (fun hHeld => ?_)
              | refine hK _ _ (HSF.out _ K6.out.2.2) (fun hHeld => ?_)
            clear hK K
            (try simp only [List.getElem_toArray, List.getElem_cons_succ, List.getElem_cons_zero, Act.put, List.setIfInBounds_toArray, List.set_cons_zero, List.set_cons_succ])
            refine wpAnyH_ready (rs := [16]) (by kernel_rfl) (by simp) ?_; refine AllReadyH.cons rfl (fun K hK => ?_) AllReadyH.nil
            refine wp_append_oneQ _ _ rfl w.heap.size _ xs (r0, r1, r2) ⟨X0.heap.size, 0, none⟩ 1 rfl rfl K6.out.1.2.2.2.1 K6.out.2.1 K6.out.1.2.2.2.2.1.size (by have := HXL.out; omega) ?_
            intro v' w7 h7 g7
            have K6b := Lib.hid (K6.out.2.2.grow (T' := 75) (by decide) K6.out.1.2.2.2.1 g7)
            have h7l : (xs ++ [(r0, r1, r2)]).length = xs.length + 1 := by simp
            rw [← h7l] at h7
            obtain ⟨a8, c8, rfl, -, -, -⟩ := own_cap h7
            have K7 := Lib.hid (K6.out.1.grow g7 h7)
            clear g7 h7
            first
              | refine hK.out _ _ (HSF.out _ K6b.out) (fun hHeld => ?_)
              | refine hK _ _ (HSF.out _ K6b.out) (fun hHeld => ?_)
            clear hK K
            (try simp only [List.getElem_toArray, List.getElem_cons_succ, List.getElem_cons_zero, Act.put, List.setIfInBounds_toArray, List.set_cons_zero, List.set_cons_succ])
            have k9 := K7.out.put
            rw [h7l] at k9
            have K9 := Lib.hid k9
            clear k9 h7l
            have hne8 := ob_ne K6b.out K7.out.2.1 (by decide)
            have K8b := Lib.hid (K6b.out.other (o := 1) hne8 (.slice a8 (xs.length + 1) c8))
            clear hne8
            (refine wpAnyH_take (i := 17) (v := ?_) rfl (by kernel_rfl) (by kernel_rfl) (by kernel_rfl) (fun _ _ _ h => h) (Or.inl ⟨by kernel_rfl, ?_⟩) (by assumption) ?_; rotate_left; focus (intro w hSw; (try dsimp only at hSw); go_simp; try with_reducible rfl); (try simp only [List.getElem_toArray, List.getElem_cons_succ, List.getElem_cons_zero, Act.put, List.setIfInBounds_toArray, List.set_cons_zero, List.set_cons_succ]))
            refine wpAnyH_ready (rs := [18]) (by kernel_rfl) (by simp) ?_; refine AllReadyH.cons rfl (fun K hK => ?_) AllReadyH.nil
            have z1 := K7.out.2.1.cell 1
            have f1 := K7.out.2.1.free 1
            go_simp
            clear z1 f1
            first
              | refine hK.out _ _ (HSF.out _ K8b.out) (fun hHeld => ?_)
              | refine hK _ _ (HSF.out _ K8b.out) (fun hHeld => ?_)
            clear hK K
            (try simp only [List.getElem_toArray, List.getElem_cons_succ, List.getElem_cons_zero, Act.put, List.setIfInBounds_toArray, List.set_cons_zero, List.set_cons_succ])
            clear hHeld
            refine wpAnyH_done (by kernel_rfl) ?_ _
            (try simp only [List.getElem_toArray, List.getElem_cons_succ, List.getElem_cons_zero, Act.put, List.setIfInBounds_toArray, List.set_cons_zero, List.set_cons_succ])
            go_wp2_with fail
            go_roundw
            case rel => exact ⟨k + 1, xs ++ [(r0, r1, r2)], a8, c8, by go_num, by omega, HX1, K9⟩
            case measure => simp [intOf]; omega
          · skip
            go_simp
            go_at_call 89
            refine (HR5.out _).mono ?_; rintro e w' ⟨rfl, rfl⟩
            go_wp2_with fail
            first
              | refine hK.out _ _ (HSF.out _ KB.out) (fun hHeld => ?_)
              | refine hK _ _ (HSF.out _ KB.out) (fun hHeld => ?_)
            clear hK K
            (try simp only [List.getElem_toArray, List.getElem_cons_succ, List.getElem_cons_zero, Act.put, List.setIfInBounds_toArray, List.set_cons_zero, List.set_cons_succ])
            refine wpAnyH_ready (rs := [1, 9]) (by kernel_rfl) (by simp) (AllReadyH.cons rfl (fun K hK => ?_) (AllReadyH.cons rfl (fun K hK => ?_) AllReadyH.nil))
            · skip
              have p1 := KP.out.2.1.cell 1
              go_simp
              clear p1
              first
                | refine hK.out _ _ (HSF.out _ KB.out) (fun hHeld => ?_)
                | refine hK _ _ (HSF.out _ KB.out) (fun hHeld => ?_)
              clear hK K
              (try simp only [List.getElem_toArray, List.getElem_cons_succ, List.getElem_cons_zero, Act.put, List.setIfInBounds_toArray, List.set_cons_zero, List.set_cons_succ])
              refine wpAnyH_ready (rs := [9]) (by kernel_rfl) (by simp) ?_; refine AllReadyH.cons rfl (fun K hK => ?_) AllReadyH.nil
              go_simp
              go_at_call 89
              refine (HR9.out _).mono ?_; rintro e w' ⟨rfl, rfl⟩
              go_wp2_with fail
              first
                | refine hK.out _ _ (HSF.out _ KB.out) (fun hHeld => ?_)
                | refine hK _ _ (HSF.out _ KB.out) (fun hHeld => ?_)
              clear hK K
              (try simp only [List.getElem_toArray, List.getElem_cons_succ, List.getElem_cons_zero, Act.put, List.setIfInBounds_toArray, List.set_cons_zero, List.set_cons_succ])
              refine wpAnyH_ready (rs := [13]) (by kernel_rfl) (by simp) ?_; refine AllReadyH.cons rfl (fun K hK => ?_) AllReadyH.nil
              go_simp
              go_at_call 89
              refine (HR13.out _).mono ?_; rintro e w' ⟨rfl, rfl⟩
              go_wp2_with fail
              first
                | refine hK.out _ _ (HSF.out _ KB.out) (fun hHeld => ?_)
                | refine hK _ _ (HSF.out _ KB.out) (fun hHeld => ?_)
              clear hK K
              (try simp only [List.getElem_toArray, List.getElem_cons_succ, List.getElem_cons_zero, Act.put, List.setIfInBounds_toArray, List.set_cons_zero, List.set_cons_succ])
              (refine wpAnyH_take (i := 14) (v := ?_) rfl (by kernel_rfl) (by kernel_rfl) (by kernel_rfl) (fun _ _ _ h => h) (Or.inl ⟨by kernel_rfl, ?_⟩) (by assumption) ?_; rotate_left; focus (intro w hSw; (try dsimp only at hSw); go_simp; try with_reducible rfl); (try simp only [List.getElem_toArray, List.getElem_cons_succ, List.getElem_cons_zero, Act.put, List.setIfInBounds_toArray, List.set_cons_zero, List.set_cons_succ]))
              refine wpAnyH_ready (rs := [15]) (by kernel_rfl) (by simp) ?_; refine AllReadyH.cons rfl (fun K hK => ?_) AllReadyH.nil
              have bn := Below.ofNew (w := X0) (.cells #[.int .i64 r0, .int .i64 r1, .int .i64 r2] 75)
              have K6 := Lib.hid (And.intro (KP.out.keep bn) (And.intro (one_cellsQ (ObAt.new X0 75 #[.int .i64 r0, .int .i64 r1, .int .i64 r2])) (KB.out.keep bn)))
              clear bn
              go_simp
              first
                | refine hK.out _ _ (HSF.out _ K6.out.2.2) (fun hHeld => ?_)
                | refine hK _ _ (HSF.out _ K6.out.2.2) (fun hHeld => ?_)
              clear hK K
              (try simp only [List.getElem_toArray, List.getElem_cons_succ, List.getElem_cons_zero, Act.put, List.setIfInBounds_toArray, List.set_cons_zero, List.set_cons_succ])
              refine wpAnyH_ready (rs := [16]) (by kernel_rfl) (by simp) ?_; refine AllReadyH.cons rfl (fun K hK => ?_) AllReadyH.nil
              refine wp_append_oneQ _ _ rfl w.heap.size _ xs (r0, r1, r2) ⟨X0.heap.size, 0, none⟩ 1 rfl rfl K6.out.1.2.2.2.1 K6.out.2.1 K6.out.1.2.2.2.2.1.size (by have := HXL.out; omega) ?_
              intro v' w7 h7 g7
              have K6b := Lib.hid (K6.out.2.2.grow (T' := 75) (by decide) K6.out.1.2.2.2.1 g7)
              have h7l : (xs ++ [(r0, r1, r2)]).length = xs.length + 1 := by simp
              rw [← h7l] at h7
              obtain ⟨a8, c8, rfl, -, -, -⟩ := own_cap h7
              have K7 := Lib.hid (K6.out.1.grow g7 h7)
              clear g7 h7
              first
                | refine hK.out _ _ (HSF.out _ K6b.out) (fun hHeld => ?_)
                | refine hK _ _ (HSF.out _ K6b.out) (fun hHeld => ?_)
              clear hK K
              (try simp only [List.getElem_toArray, List.getElem_cons_succ, List.getElem_cons_zero, Act.put, List.setIfInBounds_toArray, List.set_cons_zero, List.set_cons_succ])
              have k9 := K7.out.put
              rw [h7l] at k9
              have K9 := Lib.hid k9
              clear k9 h7l
              have hne8 := ob_ne K6b.out K7.out.2.1 (by decide)
              have K8b := Lib.hid (K6b.out.other (o := 1) hne8 (.slice a8 (xs.length + 1) c8))
              clear hne8
              (refine wpAnyH_take (i := 17) (v := ?_) rfl (by kernel_rfl) (by kernel_rfl) (by kernel_rfl) (fun _ _ _ h => h) (Or.inl ⟨by kernel_rfl, ?_⟩) (by assumption) ?_; rotate_left; focus (intro w hSw; (try dsimp only at hSw); go_simp; try with_reducible rfl); (try simp only [List.getElem_toArray, List.getElem_cons_succ, List.getElem_cons_zero, Act.put, List.setIfInBounds_toArray, List.set_cons_zero, List.set_cons_succ]))
              refine wpAnyH_ready (rs := [18]) (by kernel_rfl) (by simp) ?_; refine AllReadyH.cons rfl (fun K hK => ?_) AllReadyH.nil
              have z1 := K7.out.2.1.cell 1
              have f1 := K7.out.2.1.free 1
              go_simp
              clear z1 f1
              first
                | refine hK.out _ _ (HSF.out _ K8b.out) (fun hHeld => ?_)
                | refine hK _ _ (HSF.out _ K8b.out) (fun hHeld => ?_)
              clear hK K
              (try simp only [List.getElem_toArray, List.getElem_cons_succ, List.getElem_cons_zero, Act.put, List.setIfInBounds_toArray, List.set_cons_zero, List.set_cons_succ])
              clear hHeld
              refine wpAnyH_done (by kernel_rfl) ?_ _
              (try simp only [List.getElem_toArray, List.getElem_cons_succ, List.getElem_cons_zero, Act.put, List.setIfInBounds_toArray, List.set_cons_zero, List.set_cons_succ])
              go_wp2_with fail
              go_roundw
              case rel => exact ⟨k + 1, xs ++ [(r0, r1, r2)], a8, c8, by go_num, by omega, HX1, K9⟩
              case measure => simp [intOf]; omega
            · skip
              go_simp
              go_at_call 89
              refine (HR9.out _).mono ?_; rintro e w' ⟨rfl, rfl⟩
              go_wp2_with fail
              first
                | refine hK.out _ _ (HSF.out _ KB.out) (fun hHeld => ?_)
                | refine hK _ _ (HSF.out _ KB.out) (fun hHeld => ?_)
              clear hK K
              (try simp only [List.getElem_toArray, List.getElem_cons_succ, List.getElem_cons_zero, Act.put, List.setIfInBounds_toArray, List.set_cons_zero, List.set_cons_succ])
              refine wpAnyH_ready (rs := [1, 13]) (by kernel_rfl) (by simp) (AllReadyH.cons rfl (fun K hK => ?_) (AllReadyH.cons rfl (fun K hK => ?_) AllReadyH.nil))
              · skip
                have p1 := KP.out.2.1.cell 1
                go_simp
                clear p1
                first
                  | refine hK.out _ _ (HSF.out _ KB.out) (fun hHeld => ?_)
                  | refine hK _ _ (HSF.out _ KB.out) (fun hHeld => ?_)
                clear hK K
                (try simp only [List.getElem_toArray, List.getElem_cons_succ, List.getElem_cons_zero, Act.put, List.setIfInBounds_toArray, List.set_cons_zero, List.set_cons_succ])
                refine wpAnyH_ready (rs := [13]) (by kernel_rfl) (by simp) ?_; refine AllReadyH.cons rfl (fun K hK => ?_) AllReadyH.nil
                go_simp
                go_at_call 89
                refine (HR13.out _).mono ?_; rintro e w' ⟨rfl, rfl⟩
                go_wp2_with fail
                first
                  | refine hK.out _ _ (HSF.out _ KB.out) (fun hHeld => ?_)
                  | refine hK _ _ (HSF.out _ KB.out) (fun hHeld => ?_)
                clear hK K
                (try simp only [List.getElem_toArray, List.getElem_cons_succ, List.getElem_cons_zero, Act.put, List.setIfInBounds_toArray, List.set_cons_zero, List.set_cons_succ])
                (refine wpAnyH_take (i := 14) (v := ?_) rfl (by kernel_rfl) (by kernel_rfl) (by kernel_rfl) (fun _ _ _ h => h) (Or.inl ⟨by kernel_rfl, ?_⟩) (by assumption) ?_; rotate_left; focus (intro w hSw; (try dsimp only at hSw); go_simp; try with_reducible rfl); (try simp only [List.getElem_toArray, List.getElem_cons_succ, List.getElem_cons_zero, Act.put, List.setIfInBounds_toArray, List.set_cons_zero, List.set_cons_succ]))
                refine wpAnyH_ready (rs := [15]) (by kernel_rfl) (by simp) ?_; refine AllReadyH.cons rfl (fun K hK => ?_) AllReadyH.nil
                have bn := Below.ofNew (w := X0) (.cells #[.int .i64 r0, .int .i64 r1, .int .i64 r2] 75)
                have K6 := Lib.hid (And.intro (KP.out.keep bn) (And.intro (one_cellsQ (ObAt.new X0 75 #[.int .i64 r0, .int .i64 r1, .int .i64 r2])) (KB.out.keep bn)))
                clear bn
                go_simp
                first
                  | refine hK.out _ _ (HSF.out _ K6.out.2.2) (fun hHeld => ?_)
                  | refine hK _ _ (HSF.out _ K6.out.2.2) (fun hHeld => ?_)
                clear hK K
                (try simp only [List.getElem_toArray, List.getElem_cons_succ, List.getElem_cons_zero, Act.put, List.setIfInBounds_toArray, List.set_cons_zero, List.set_cons_succ])
                refine wpAnyH_ready (rs := [16]) (by kernel_rfl) (by simp) ?_; refine AllReadyH.cons rfl (fun K hK => ?_) AllReadyH.nil
                refine wp_append_oneQ _ _ rfl w.heap.size _ xs (r0, r1, r2) ⟨X0.heap.size, 0, none⟩ 1 rfl rfl K6.out.1.2.2.2.1 K6.out.2.1 K6.out.1.2.2.2.2.1.size (by have := HXL.out; omega) ?_
                intro v' w7 h7 g7
                have K6b := Lib.hid (K6.out.2.2.grow (T' := 75) (by decide) K6.out.1.2.2.2.1 g7)
                have h7l : (xs ++ [(r0, r1, r2)]).length = xs.length + 1 := by simp
                rw [← h7l] at h7
                obtain ⟨a8, c8, rfl, -, -, -⟩ := own_cap h7
                have K7 := Lib.hid (K6.out.1.grow g7 h7)
                clear g7 h7
                first
                  | refine hK.out _ _ (HSF.out _ K6b.out) (fun hHeld => ?_)
                  | refine hK _ _ (HSF.out _ K6b.out) (fun hHeld => ?_)
                clear hK K
                (try simp only [List.getElem_toArray, List.getElem_cons_succ, List.getElem_cons_zero, Act.put, List.setIfInBounds_toArray, List.set_cons_zero, List.set_cons_succ])
                have k9 := K7.out.put
                rw [h7l] at k9
                have K9 := Lib.hid k9
                clear k9 h7l
                have hne8 := ob_ne K6b.out K7.out.2.1 (by decide)
                have K8b := Lib.hid (K6b.out.other (o := 1) hne8 (.slice a8 (xs.length + 1) c8))
                clear hne8
                (refine wpAnyH_take (i := 17) (v := ?_) rfl (by kernel_rfl) (by kernel_rfl) (by kernel_rfl) (fun _ _ _ h => h) (Or.inl ⟨by kernel_rfl, ?_⟩) (by assumption) ?_; rotate_left; focus (intro w hSw; (try dsimp only at hSw); go_simp; try with_reducible rfl); (try simp only [List.getElem_toArray, List.getElem_cons_succ, List.getElem_cons_zero, Act.put, List.setIfInBounds_toArray, List.set_cons_zero, List.set_cons_succ]))
                refine wpAnyH_ready (rs := [18]) (by kernel_rfl) (by simp) ?_; refine AllReadyH.cons rfl (fun K hK => ?_) AllReadyH.nil
                have z1 := K7.out.2.1.cell 1
                have f1 := K7.out.2.1.free 1
                go_simp
                clear z1 f1
                first
                  | refine hK.out _ _ (HSF.out _ K8b.out) (fun hHeld => ?_)
                  | refine hK _ _ (HSF.out _ K8b.out) (fun hHeld => ?_)
                clear hK K
                (try simp only [List.getElem_toArray, List.getElem_cons_succ, List.getElem_cons_zero, Act.put, List.setIfInBounds_toArray, List.set_cons_zero, List.set_cons_succ])
                clear hHeld
                refine wpAnyH_done (by kernel_rfl) ?_ _
                (try simp only [List.getElem_toArray, List.getElem_cons_succ, List.getElem_cons_zero, Act.put, List.setIfInBounds_toArray, List.set_cons_zero, List.set_cons_succ])
                go_wp2_with fail
                go_roundw
                case rel => exact ⟨k + 1, xs ++ [(r0, r1, r2)], a8, c8, by go_num, by omega, HX1, K9⟩
                case measure => simp [intOf]; omega
              · skip
                go_simp
                go_at_call 89
                refine (HR13.out _).mono ?_; rintro e w' ⟨rfl, rfl⟩
                go_wp2_with fail
                first
                  | refine hK.out _ _ (HSF.out _ KB.out) (fun hHeld => ?_)
                  | refine hK _ _ (HSF.out _ KB.out) (fun hHeld => ?_)
                clear hK K
                (try simp only [List.getElem_toArray, List.getElem_cons_succ, List.getElem_cons_zero, Act.put, List.setIfInBounds_toArray, List.set_cons_zero, List.set_cons_succ])
                (refine wpAnyH_take (i := 14) (v := ?_) rfl (by kernel_rfl) (by kernel_rfl) (by kernel_rfl) (fun _ _ _ h => h) (Or.inl ⟨by kernel_rfl, ?_⟩) (by assumption) ?_; rotate_left; focus (intro w hSw; (try dsimp only at hSw); go_simp; try with_reducible rfl); (try simp only [List.getElem_toArray, List.getElem_cons_succ, List.getElem_cons_zero, Act.put, List.setIfInBounds_toArray, List.set_cons_zero, List.set_cons_succ]))
                refine wpAnyH_ready (rs := [1, 15]) (by kernel_rfl) (by simp) (AllReadyH.cons rfl (fun K hK => ?_) (AllReadyH.cons rfl (fun K hK => ?_) AllReadyH.nil))
                · skip
                  have p1 := KP.out.2.1.cell 1
                  go_simp
                  clear p1
                  first
                    | refine hK.out _ _ (HSF.out _ KB.out) (fun hHeld => ?_)
                    | refine hK _ _ (HSF.out _ KB.out) (fun hHeld => ?_)
                  clear hK K
                  (try simp only [List.getElem_toArray, List.getElem_cons_succ, List.getElem_cons_zero, Act.put, List.setIfInBounds_toArray, List.set_cons_zero, List.set_cons_succ])
                  refine wpAnyH_ready (rs := [15]) (by kernel_rfl) (by simp) ?_; refine AllReadyH.cons rfl (fun K hK => ?_) AllReadyH.nil
                  have bn := Below.ofNew (w := X0) (.cells #[.int .i64 r0, .int .i64 r1, .int .i64 r2] 75)
                  have K6 := Lib.hid (And.intro (KP.out.keep bn) (And.intro (one_cellsQ (ObAt.new X0 75 #[.int .i64 r0, .int .i64 r1, .int .i64 r2])) (KB.out.keep bn)))
                  clear bn
                  go_simp
                  first
                    | refine hK.out _ _ (HSF.out _ K6.out.2.2) (fun hHeld => ?_)
                    | refine hK _ _ (HSF.out _ K6.out.2.2) (fun hHeld => ?_)
                  clear hK K
                  (try simp only [List.getElem_toArray, List.getElem_cons_succ, List.getElem_cons_zero, Act.put, List.setIfInBounds_toArray, List.set_cons_zero, List.set_cons_succ])
                  refine wpAnyH_ready (rs := [16]) (by kernel_rfl) (by simp) ?_; refine AllReadyH.cons rfl (fun K hK => ?_) AllReadyH.nil
                  refine wp_append_oneQ _ _ rfl w.heap.size _ xs (r0, r1, r2) ⟨X0.heap.size, 0, none⟩ 1 rfl rfl K6.out.1.2.2.2.1 K6.out.2.1 K6.out.1.2.2.2.2.1.size (by have := HXL.out; omega) ?_
                  intro v' w7 h7 g7
                  have K6b := Lib.hid (K6.out.2.2.grow (T' := 75) (by decide) K6.out.1.2.2.2.1 g7)
                  have h7l : (xs ++ [(r0, r1, r2)]).length = xs.length + 1 := by simp
                  rw [← h7l] at h7
                  obtain ⟨a8, c8, rfl, -, -, -⟩ := own_cap h7
                  have K7 := Lib.hid (K6.out.1.grow g7 h7)
                  clear g7 h7
                  first
                    | refine hK.out _ _ (HSF.out _ K6b.out) (fun hHeld => ?_)
                    | refine hK _ _ (HSF.out _ K6b.out) (fun hHeld => ?_)
                  clear hK K
                  (try simp only [List.getElem_toArray, List.getElem_cons_succ, List.getElem_cons_zero, Act.put, List.setIfInBounds_toArray, List.set_cons_zero, List.set_cons_succ])
                  have k9 := K7.out.put
                  rw [h7l] at k9
                  have K9 := Lib.hid k9
                  clear k9 h7l
                  have hne8 := ob_ne K6b.out K7.out.2.1 (by decide)
                  have K8b := Lib.hid (K6b.out.other (o := 1) hne8 (.slice a8 (xs.length + 1) c8))
                  clear hne8
                  (refine wpAnyH_take (i := 17) (v := ?_) rfl (by kernel_rfl) (by kernel_rfl) (by kernel_rfl) (fun _ _ _ h => h) (Or.inl ⟨by kernel_rfl, ?_⟩) (by assumption) ?_; rotate_left; focus (intro w hSw; (try dsimp only at hSw); go_simp; try with_reducible rfl); (try simp only [List.getElem_toArray, List.getElem_cons_succ, List.getElem_cons_zero, Act.put, List.setIfInBounds_toArray, List.set_cons_zero, List.set_cons_succ]))
                  refine wpAnyH_ready (rs := [18]) (by kernel_rfl) (by simp) ?_; refine AllReadyH.cons rfl (fun K hK => ?_) AllReadyH.nil
                  have z1 := K7.out.2.1.cell 1
                  have f1 := K7.out.2.1.free 1
                  go_simp
                  clear z1 f1
                  first
                    | refine hK.out _ _ (HSF.out _ K8b.out) (fun hHeld => ?_)
                    | refine hK _ _ (HSF.out _ K8b.out) (fun hHeld => ?_)
                  clear hK K
                  (try simp only [List.getElem_toArray, List.getElem_cons_succ, List.getElem_cons_zero, Act.put, List.setIfInBounds_toArray, List.set_cons_zero, List.set_cons_succ])
                  clear hHeld
                  refine wpAnyH_done (by kernel_rfl) ?_ _
                  (try simp only [List.getElem_toArray, List.getElem_cons_succ, List.getElem_cons_zero, Act.put, List.setIfInBounds_toArray, List.set_cons_zero, List.set_cons_succ])
                  go_wp2_with fail
                  go_roundw
                  case rel => exact ⟨k + 1, xs ++ [(r0, r1, r2)], a8, c8, by go_num, by omega, HX1, K9⟩
                  case measure => simp [intOf]; omega
                · skip
                  have bn := Below.ofNew (w := X0) (.cells #[.int .i64 r0, .int .i64 r1, .int .i64 r2] 75)
                  have K6 := Lib.hid (And.intro (KP.out.keep bn) (And.intro (one_cellsQ (ObAt.new X0 75 #[.int .i64 r0, .int .i64 r1, .int .i64 r2])) (KB.out.keep bn)))
                  clear bn
                  go_simp
                  first
                    | refine hK.out _ _ (HSF.out _ K6.out.2.2) (fun hHeld => ?_)
                    | refine hK _ _ (HSF.out _ K6.out.2.2) (fun hHeld => ?_)
                  clear hK K
                  (try simp only [List.getElem_toArray, List.getElem_cons_succ, List.getElem_cons_zero, Act.put, List.setIfInBounds_toArray, List.set_cons_zero, List.set_cons_succ])
                  refine wpAnyH_ready (rs := [1]) (by kernel_rfl) (by simp) ?_; refine AllReadyH.cons rfl (fun K hK => ?_) AllReadyH.nil
                  have p1 := K6.out.1.2.1.cell 1
                  go_simp
                  clear p1
                  first
                    | refine hK.out _ _ (HSF.out _ K6.out.2.2) (fun hHeld => ?_)
                    | refine hK _ _ (HSF.out _ K6.out.2.2) (fun hHeld => ?_)
                  clear hK K
                  (try simp only [List.getElem_toArray, List.getElem_cons_succ, List.getElem_cons_zero, Act.put, List.setIfInBounds_toArray, List.set_cons_zero, List.set_cons_succ])
                  refine wpAnyH_ready (rs := [16]) (by kernel_rfl) (by simp) ?_; refine AllReadyH.cons rfl (fun K hK => ?_) AllReadyH.nil
                  refine wp_append_oneQ _ _ rfl w.heap.size _ xs (r0, r1, r2) ⟨X0.heap.size, 0, none⟩ 1 rfl rfl K6.out.1.2.2.2.1 K6.out.2.1 K6.out.1.2.2.2.2.1.size (by have := HXL.out; omega) ?_
                  intro v' w7 h7 g7
                  have K6b := Lib.hid (K6.out.2.2.grow (T' := 75) (by decide) K6.out.1.2.2.2.1 g7)
                  have h7l : (xs ++ [(r0, r1, r2)]).length = xs.length + 1 := by simp
                  rw [← h7l] at h7
                  obtain ⟨a8, c8, rfl, -, -, -⟩ := own_cap h7
                  have K7 := Lib.hid (K6.out.1.grow g7 h7)
                  clear g7 h7
                  first
                    | refine hK.out _ _ (HSF.out _ K6b.out) (fun hHeld => ?_)
                    | refine hK _ _ (HSF.out _ K6b.out) (fun hHeld => ?_)
                  clear hK K
                  (try simp only [List.getElem_toArray, List.getElem_cons_succ, List.getElem_cons_zero, Act.put, List.setIfInBounds_toArray, List.set_cons_zero, List.set_cons_succ])
                  have k9 := K7.out.put
                  rw [h7l] at k9
                  have K9 := Lib.hid k9
                  clear k9 h7l
                  have hne8 := ob_ne K6b.out K7.out.2.1 (by decide)
                  have K8b := Lib.hid (K6b.out.other (o := 1) hne8 (.slice a8 (xs.length + 1) c8))
                  clear hne8
                  (refine wpAnyH_take (i := 17) (v := ?_) rfl (by kernel_rfl) (by kernel_rfl) (by kernel_rfl) (fun _ _ _ h => h) (Or.inl ⟨by kernel_rfl, ?_⟩) (by assumption) ?_; rotate_left; focus (intro w hSw; (try dsimp only at hSw); go_simp; try with_reducible rfl); (try simp only [List.getElem_toArray, List.getElem_cons_succ, List.getElem_cons_zero, Act.put, List.setIfInBounds_toArray, List.set_cons_zero, List.set_cons_succ]))
                  refine wpAnyH_ready (rs := [18]) (by kernel_rfl) (by simp) ?_; refine AllReadyH.cons rfl (fun K hK => ?_) AllReadyH.nil
                  have z1 := K7.out.2.1.cell 1
                  have f1 := K7.out.2.1.free 1
                  go_simp
                  clear z1 f1
                  first
                    | refine hK.out _ _ (HSF.out _ K8b.out) (fun hHeld => ?_)
                    | refine hK _ _ (HSF.out _ K8b.out) (fun hHeld => ?_)
                  clear hK K
                  (try simp only [List.getElem_toArray, List.getElem_cons_succ, List.getElem_cons_zero, Act.put, List.setIfInBounds_toArray, List.set_cons_zero, List.set_cons_succ])
                  clear hHeld
                  refine wpAnyH_done (by kernel_rfl) ?_ _
                  (try simp only [List.getElem_toArray, List.getElem_cons_succ, List.getElem_cons_zero, Act.put, List.setIfInBounds_toArray, List.set_cons_zero, List.set_cons_succ])
                  go_wp2_with fail
                  go_roundw
                  case rel => exact ⟨k + 1, xs ++ [(r0, r1, r2)], a8, c8, by go_num, by omega, HX1, K9⟩
                  case measure => simp [intOf]; omega
      · have hrs := clM_not (l := pk.data.toList) (by rw [← hpc, List.length_map]; exact hq3)
        rw [allC_bad hrs] at hd
        have HF := Lib.hid (HNS.out.1 hd.symm)
        clear hd hrs hpc hqz HNS hxl
        have d1 : ((qs.length : Int) != 3) = true := by simp; omega
        have d2 : ¬ qs.length = 3 := hq3
        clear hq3
        go_wp2_with fail
        refine (HS6.out _).mono ?_; rintro e w6 ⟨v6, rfl, hown, hbel⟩
        obtain ⟨a6, c6, rfl, -, -⟩ := own_cap hown
        have HP1 := Lib.hid (And.intro (hP.out.1.keep hbel) (hP.out.2.2.2.2.1.trans (hbel.mono hP.out.2.2.2.2.1.size)))
        clear hown hbel hP c0 HS6
        obtain ⟨z0, z1, f0, f1⟩ := HP1.out.1.two
        have HB9 : Hid (∀ u0 u1 : Value, Below w.heap.size w ((w6.setCell ⟨w.heap.size, 0, none⟩ u0).setCell ⟨w.heap.size, 1, none⟩ u1)) := fun u0 u1 =>
          (HP1.out.2.setCell (p := ⟨w.heap.size, 0, none⟩) (Nat.le_refl _) u0).setCell (p := ⟨w.heap.size, 1, none⟩) (Nat.le_refl _) u1
        have HQ := Lib.hid ((HP1.out.1.put 0 (.int .i64 0)).put 1 (.slice none 0 0)).two
        go_wp2_with fail
        obtain ⟨y0, y1, -, -⟩ := HQ.out
        rw [HF.out.1, HF.out.2]
        refine bodyPost_ret (v := .tuple #[.agg #[.int .i64 0, .slice none 0 0], .bool false]) ?_ rfl ⟨none, 0, rfl, owns_nil3 _ _ _, HB9.out _ _⟩
        simp [results, Tryd.results69, go_sem, *]
    · obtain rfl : k = ps.length := by omega
      have hd := hX.out.2
      rw [List.drop_length] at hd
      have hR : R = some xs := by rw [← hd]; simp [allC]
      have HVV := Lib.hid (HNS.out.2 xs hR)
      have hml : xs.length ≤ 61 := by have := hX.out.1; omega
      clear hd hR HNS hX
      have HPQ := Lib.hid hP.out.pq
      have HNE : Hid (g ≠ w.heap.size) := Nat.ne_of_gt hP.out.2.2.2.2.2
      clear hP
      obtain ⟨m, rfl⟩ : ∃ m, m = xs := ⟨_, rfl⟩
      go_wp2_with fail
      obtain ⟨WR, rfl⟩ : ∃ WR, WR = wr := ⟨_, rfl⟩
      have hrd : Reads WR a (clus m) := by
        obtain ⟨a', c', he, -, hr, -⟩ := own_cap HPQ.out.2.2.1
        injection he with h1 h2 h3
        subst h1
        exact hr
      have HLT := Lib.hid (fun W (hb : Below WR.heap.size WR W) => pzGood_any t m a c W (by first | omega | (simp; done)) (hrd.old hb))
      have HTX := Lib.hid (fun (hg : goodP t m = true) W (hb : Below WR.heap.size WR W) => pzTextZ_any t m hg a c W (hrd.old hb))
      clear hrd
      cases hg : goodP t m
      · rw [hg] at HLT
        have HF := Lib.hid (HVV.out.1 hg)
        clear hg HVV HTX
        refine wp_region_held_drew (S := fun wi => wi.cell? ⟨g, 0, none⟩ = some (.int .i64 t) ∧ wi.cell? ⟨g, 1, none⟩ = some (.slice a m.length c)) (by kernel_rfl) ⟨HPQ.out.2.1.cell 0, HPQ.out.2.1.cell 1⟩ (fun hHeld => ?_)
        (refine wpAnyH_take (i := 0) (v := ?_) rfl (by kernel_rfl) (by kernel_rfl) (by kernel_rfl) (fun _ _ _ h => h) (Or.inl ⟨by kernel_rfl, ?_⟩) (by assumption) ?_; rotate_left; focus (intro w hSw; (try dsimp only at hSw); go_simp; try with_reducible rfl); (try simp only [List.getElem_toArray, List.getElem_cons_succ, List.getElem_cons_zero, Act.put, List.setIfInBounds_toArray, List.set_cons_zero, List.set_cons_succ])); (refine wpAnyH_take (i := 1) (v := ?_) rfl (by kernel_rfl) (by kernel_rfl) (by kernel_rfl) (fun _ _ _ h => h) (Or.inl ⟨by kernel_rfl, ?_⟩) (by assumption) ?_; rotate_left; focus (intro w hSw; (try dsimp only at hSw); go_simp; try with_reducible rfl); (try simp only [List.getElem_toArray, List.getElem_cons_succ, List.getElem_cons_zero, Act.put, List.setIfInBounds_toArray, List.set_cons_zero, List.set_cons_succ]))
        refine wpAnyH_ready (rs := [2]) (by kernel_rfl) (by simp) ?_; refine AllReadyH.cons rfl (fun K hK => ?_) AllReadyH.nil
        go_simp
        go_at_call 62
        refine (HLT.out _ (Below.drew (Below.refl _ _))).mono ?_; rintro e w9 ⟨rfl, b9⟩
        have KP := Lib.hid ((HPQ.out.keep (Below.drew (Below.refl _ _))).keep b9)
        have KS := Lib.hid (And.intro (KP.out.2.1.cell 0) (KP.out.2.1.cell 1))
        clear hHeld
        go_wp2_with fail
        first
          | refine hK.out _ _ KS.out (fun hHeld => ?_)
          | refine hK _ _ KS.out (fun hHeld => ?_)
        clear hK K
        (try simp only [List.getElem_toArray, List.getElem_cons_succ, List.getElem_cons_zero, Act.put, List.setIfInBounds_toArray, List.set_cons_zero, List.set_cons_succ])
        clear KS
        (refine wpAnyH_take (i := 3) (v := ?_) rfl (by kernel_rfl) (by kernel_rfl) (by kernel_rfl) (fun _ _ _ h => h) (Or.inl ⟨by kernel_rfl, ?_⟩) (by assumption) ?_; rotate_left; focus (intro w hSw; (try dsimp only at hSw); go_simp; try with_reducible rfl); (try simp only [List.getElem_toArray, List.getElem_cons_succ, List.getElem_cons_zero, Act.put, List.setIfInBounds_toArray, List.set_cons_zero, List.set_cons_succ]))
        (refine wpAnyH_take (i := 4) (v := undef) rfl (by kernel_rfl) (by kernel_rfl) (by kernel_rfl) (fun _ _ _ h => h) (Or.inr ⟨by kernel_rfl, rfl⟩) (by assumption) ?_; (try simp only [List.getElem_toArray, List.getElem_cons_succ, List.getElem_cons_zero, Act.put, List.setIfInBounds_toArray, List.set_cons_zero, List.set_cons_succ])); (refine wpAnyH_take (i := 5) (v := undef) rfl (by kernel_rfl) (by kernel_rfl) (by kernel_rfl) (fun _ _ _ h => h) (Or.inr ⟨by kernel_rfl, rfl⟩) (by assumption) ?_; (try simp only [List.getElem_toArray, List.getElem_cons_succ, List.getElem_cons_zero, Act.put, List.setIfInBounds_toArray, List.set_cons_zero, List.set_cons_succ])); (refine wpAnyH_take (i := 6) (v := undef) rfl (by kernel_rfl) (by kernel_rfl) (by kernel_rfl) (fun _ _ _ h => h) (Or.inr ⟨by kernel_rfl, rfl⟩) (by assumption) ?_; (try simp only [List.getElem_toArray, List.getElem_cons_succ, List.getElem_cons_zero, Act.put, List.setIfInBounds_toArray, List.set_cons_zero, List.set_cons_succ])); (refine wpAnyH_take (i := 7) (v := undef) rfl (by kernel_rfl) (by kernel_rfl) (by kernel_rfl) (fun _ _ _ h => h) (Or.inr ⟨by kernel_rfl, rfl⟩) (by assumption) ?_; (try simp only [List.getElem_toArray, List.getElem_cons_succ, List.getElem_cons_zero, Act.put, List.setIfInBounds_toArray, List.set_cons_zero, List.set_cons_succ]))
        (refine wpAnyH_take (i := 8) (v := ?_) rfl (by kernel_rfl) (by kernel_rfl) (by kernel_rfl) (fun _ _ _ h => h) (Or.inl ⟨by kernel_rfl, ?_⟩) (by assumption) ?_; rotate_left; focus (intro w hSw; (try dsimp only at hSw); go_simp; try with_reducible rfl); (try simp only [List.getElem_toArray, List.getElem_cons_succ, List.getElem_cons_zero, Act.put, List.setIfInBounds_toArray, List.set_cons_zero, List.set_cons_succ]))
        have HRS := Lib.hid (KP.out.res (.int .i64 t) (.slice a m.length c))
        obtain ⟨z0, z1, f0, f1⟩ := KP.out.1.two
        have hgw : g ≠ w.heap.size := HNE.out
        obtain ⟨e0, e1⟩ := pq_cells (u0 := .int .i64 t) (u1 := .slice a m.length c) KP.out.2.1 hgw
        have HE := Lib.hid (And.intro e0 e1); clear e0 e1 hgw
        refine wpAnyH_ready (rs := [9]) (by kernel_rfl) (by simp) ?_; refine AllReadyH.cons rfl (fun K hK => ?_) AllReadyH.nil
        go_simp
        clear z0 z1 f0 f1
        first
          | refine hK.out _ _ HE.out (fun hHeld => ?_)
          | refine hK _ _ HE.out (fun hHeld => ?_)
        clear hK K
        (try simp only [List.getElem_toArray, List.getElem_cons_succ, List.getElem_cons_zero, Act.put, List.setIfInBounds_toArray, List.set_cons_zero, List.set_cons_succ])
        (refine wpAnyH_take (i := 10) (v := ?_) rfl (by kernel_rfl) (by kernel_rfl) (by kernel_rfl) (fun _ _ _ h => h) (Or.inl ⟨by kernel_rfl, ?_⟩) (by assumption) ?_; rotate_left; focus (intro w hSw; (try dsimp only at hSw); go_simp; try with_reducible rfl); (try simp only [List.getElem_toArray, List.getElem_cons_succ, List.getElem_cons_zero, Act.put, List.setIfInBounds_toArray, List.set_cons_zero, List.set_cons_succ]))
        refine wpAnyH_done (by kernel_rfl) ?_ _
        (try simp only [List.getElem_toArray, List.getElem_cons_succ, List.getElem_cons_zero, Act.put, List.setIfInBounds_toArray, List.set_cons_zero, List.set_cons_succ])
        obtain ⟨r0, r1, -, -⟩ := HRS.out.2.2.two
        go_wp2_with fail
        rw [HF.out.1, HF.out.2]
        refine bodyPost_ret (v := .tuple #[.agg #[.int .i64 t, .slice a m.length c], .bool false]) ?_ rfl ⟨a, c, rfl, HRS.out.1, HRS.out.2.1⟩
        simp [results, Tryd.results69, go_sem, *]
      · rw [hg] at HLT
        have HT1 := Lib.hid (HTX.out hg)
        have hq := eq_listPq (pzTL t m) s
        have hv := HVV.out.2 hg
        clear hg HVV HTX
        by_cases ht : pzTL t m = s.data.toList
        · rw [decide_eq_true ht] at hq
          have HF := Lib.hid (hv.1 ht)
          generalize (⟨(pzTL t m).toArray⟩ : ByteArray) = T at *
          clear ht hv
          refine wp_region_held_drew (S := fun wi => wi.cell? ⟨g, 0, none⟩ = some (.int .i64 t) ∧ wi.cell? ⟨g, 1, none⟩ = some (.slice a m.length c)) (by kernel_rfl) ⟨HPQ.out.2.1.cell 0, HPQ.out.2.1.cell 1⟩ (fun hHeld => ?_)
          (refine wpAnyH_take (i := 0) (v := ?_) rfl (by kernel_rfl) (by kernel_rfl) (by kernel_rfl) (fun _ _ _ h => h) (Or.inl ⟨by kernel_rfl, ?_⟩) (by assumption) ?_; rotate_left; focus (intro w hSw; (try dsimp only at hSw); go_simp; try with_reducible rfl); (try simp only [List.getElem_toArray, List.getElem_cons_succ, List.getElem_cons_zero, Act.put, List.setIfInBounds_toArray, List.set_cons_zero, List.set_cons_succ])); (refine wpAnyH_take (i := 1) (v := ?_) rfl (by kernel_rfl) (by kernel_rfl) (by kernel_rfl) (fun _ _ _ h => h) (Or.inl ⟨by kernel_rfl, ?_⟩) (by assumption) ?_; rotate_left; focus (intro w hSw; (try dsimp only at hSw); go_simp; try with_reducible rfl); (try simp only [List.getElem_toArray, List.getElem_cons_succ, List.getElem_cons_zero, Act.put, List.setIfInBounds_toArray, List.set_cons_zero, List.set_cons_succ]))
          refine wpAnyH_ready (rs := [2]) (by kernel_rfl) (by simp) ?_; refine AllReadyH.cons rfl (fun K hK => ?_) AllReadyH.nil
          go_simp
          go_at_call 62
          refine (HLT.out _ (Below.drew (Below.refl _ _))).mono ?_; rintro e w9 ⟨rfl, b9⟩
          have KP := Lib.hid ((HPQ.out.keep (Below.drew (Below.refl _ _))).keep b9)
          have KS := Lib.hid (And.intro (KP.out.2.1.cell 0) (KP.out.2.1.cell 1))
          clear hHeld
          go_wp2_with fail
          first
            | refine hK.out _ _ KS.out (fun hHeld => ?_)
            | refine hK _ _ KS.out (fun hHeld => ?_)
          clear hK K
          (try simp only [List.getElem_toArray, List.getElem_cons_succ, List.getElem_cons_zero, Act.put, List.setIfInBounds_toArray, List.set_cons_zero, List.set_cons_succ])
          clear KS
          (refine wpAnyH_take (i := 3) (v := ?_) rfl (by kernel_rfl) (by kernel_rfl) (by kernel_rfl) (fun _ _ _ h => h) (Or.inl ⟨by kernel_rfl, ?_⟩) (by assumption) ?_; rotate_left; focus (intro w hSw; (try dsimp only at hSw); go_simp; try with_reducible rfl); (try simp only [List.getElem_toArray, List.getElem_cons_succ, List.getElem_cons_zero, Act.put, List.setIfInBounds_toArray, List.set_cons_zero, List.set_cons_succ]))
          (refine wpAnyH_take (i := 4) (v := ?_) rfl (by kernel_rfl) (by kernel_rfl) (by kernel_rfl) (fun _ _ _ h => h) (Or.inl ⟨by kernel_rfl, ?_⟩) (by assumption) ?_; rotate_left; focus (intro w hSw; (try dsimp only at hSw); go_simp; try with_reducible rfl); (try simp only [List.getElem_toArray, List.getElem_cons_succ, List.getElem_cons_zero, Act.put, List.setIfInBounds_toArray, List.set_cons_zero, List.set_cons_succ])); (refine wpAnyH_take (i := 6) (v := ?_) rfl (by kernel_rfl) (by kernel_rfl) (by kernel_rfl) (fun _ _ _ h => h) (Or.inl ⟨by kernel_rfl, ?_⟩) (by assumption) ?_; rotate_left; focus (intro w hSw; (try dsimp only at hSw); go_simp; try with_reducible rfl); (try simp only [List.getElem_toArray, List.getElem_cons_succ, List.getElem_cons_zero, Act.put, List.setIfInBounds_toArray, List.set_cons_zero, List.set_cons_succ]))
          refine wpAnyH_ready (rs := [5]) (by kernel_rfl) (by simp) ?_; refine AllReadyH.cons rfl (fun K hK => ?_) AllReadyH.nil
          go_simp
          go_at_call 63
          refine (HT1.out _ ((Below.drew (Below.refl _ _)).trans (b9.mono (Nat.le_refl _)))).mono ?_; rintro e w10 ⟨rfl, b10⟩
          have KP0 := KP; clear KP
          have KP := Lib.hid (KP0.out.keep b10); clear KP0
          have KS := Lib.hid (And.intro (KP.out.2.1.cell 0) (KP.out.2.1.cell 1))
          clear hHeld b9 b10
          go_wp2_with fail
          first
            | refine hK.out _ _ KS.out (fun hHeld => ?_)
            | refine hK _ _ KS.out (fun hHeld => ?_)
          clear hK K
          (try simp only [List.getElem_toArray, List.getElem_cons_succ, List.getElem_cons_zero, Act.put, List.setIfInBounds_toArray, List.set_cons_zero, List.set_cons_succ])
          clear KS
          (refine wpAnyH_take (i := 7) (v := ?_) rfl (by kernel_rfl) (by kernel_rfl) (by kernel_rfl) (fun _ _ _ h => h) (Or.inl ⟨by kernel_rfl, ?_⟩) (by assumption) ?_; rotate_left; focus (intro w hSw; (try dsimp only at hSw); go_simp; try with_reducible rfl); (try simp only [List.getElem_toArray, List.getElem_cons_succ, List.getElem_cons_zero, Act.put, List.setIfInBounds_toArray, List.set_cons_zero, List.set_cons_succ])); (refine wpAnyH_take (i := 8) (v := ?_) rfl (by kernel_rfl) (by kernel_rfl) (by kernel_rfl) (fun _ _ _ h => h) (Or.inl ⟨by kernel_rfl, ?_⟩) (by assumption) ?_; rotate_left; focus (intro w hSw; (try dsimp only at hSw); go_simp; try with_reducible rfl); (try simp only [List.getElem_toArray, List.getElem_cons_succ, List.getElem_cons_zero, Act.put, List.setIfInBounds_toArray, List.set_cons_zero, List.set_cons_succ]))
          have HRS := Lib.hid (KP.out.res (.int .i64 t) (.slice a m.length c))
          obtain ⟨z0, z1, f0, f1⟩ := KP.out.1.two
          have hgw : g ≠ w.heap.size := HNE.out
          obtain ⟨e0, e1⟩ := pq_cells (u0 := .int .i64 t) (u1 := .slice a m.length c) KP.out.2.1 hgw
          have HE := Lib.hid (And.intro e0 e1); clear e0 e1 hgw
          refine wpAnyH_ready (rs := [9]) (by kernel_rfl) (by simp) ?_; refine AllReadyH.cons rfl (fun K hK => ?_) AllReadyH.nil
          go_simp
          clear z0 z1 f0 f1
          first
            | refine hK.out _ _ HE.out (fun hHeld => ?_)
            | refine hK _ _ HE.out (fun hHeld => ?_)
          clear hK K
          (try simp only [List.getElem_toArray, List.getElem_cons_succ, List.getElem_cons_zero, Act.put, List.setIfInBounds_toArray, List.set_cons_zero, List.set_cons_succ])
          (refine wpAnyH_take (i := 10) (v := ?_) rfl (by kernel_rfl) (by kernel_rfl) (by kernel_rfl) (fun _ _ _ h => h) (Or.inl ⟨by kernel_rfl, ?_⟩) (by assumption) ?_; rotate_left; focus (intro w hSw; (try dsimp only at hSw); go_simp; try with_reducible rfl); (try simp only [List.getElem_toArray, List.getElem_cons_succ, List.getElem_cons_zero, Act.put, List.setIfInBounds_toArray, List.set_cons_zero, List.set_cons_succ]))
          refine wpAnyH_done (by kernel_rfl) ?_ _
          (try simp only [List.getElem_toArray, List.getElem_cons_succ, List.getElem_cons_zero, Act.put, List.setIfInBounds_toArray, List.set_cons_zero, List.set_cons_succ])
          obtain ⟨r0, r1, -, -⟩ := HRS.out.2.2.two
          go_wp2_with fail
          rw [HF.out.1, HF.out.2]
          refine bodyPost_ret (v := .tuple #[.agg #[.int .i64 t, .slice a m.length c], .bool true]) ?_ rfl ⟨a, c, rfl, HRS.out.1, HRS.out.2.1⟩
          simp [results, Tryd.results69, go_sem, *]
        · rw [decide_eq_false ht] at hq
          have HF := Lib.hid (hv.2 ht)
          generalize (⟨(pzTL t m).toArray⟩ : ByteArray) = T at *
          clear ht hv
          refine wp_region_held_drew (S := fun wi => wi.cell? ⟨g, 0, none⟩ = some (.int .i64 t) ∧ wi.cell? ⟨g, 1, none⟩ = some (.slice a m.length c)) (by kernel_rfl) ⟨HPQ.out.2.1.cell 0, HPQ.out.2.1.cell 1⟩ (fun hHeld => ?_)
          (refine wpAnyH_take (i := 0) (v := ?_) rfl (by kernel_rfl) (by kernel_rfl) (by kernel_rfl) (fun _ _ _ h => h) (Or.inl ⟨by kernel_rfl, ?_⟩) (by assumption) ?_; rotate_left; focus (intro w hSw; (try dsimp only at hSw); go_simp; try with_reducible rfl); (try simp only [List.getElem_toArray, List.getElem_cons_succ, List.getElem_cons_zero, Act.put, List.setIfInBounds_toArray, List.set_cons_zero, List.set_cons_succ])); (refine wpAnyH_take (i := 1) (v := ?_) rfl (by kernel_rfl) (by kernel_rfl) (by kernel_rfl) (fun _ _ _ h => h) (Or.inl ⟨by kernel_rfl, ?_⟩) (by assumption) ?_; rotate_left; focus (intro w hSw; (try dsimp only at hSw); go_simp; try with_reducible rfl); (try simp only [List.getElem_toArray, List.getElem_cons_succ, List.getElem_cons_zero, Act.put, List.setIfInBounds_toArray, List.set_cons_zero, List.set_cons_succ]))
          refine wpAnyH_ready (rs := [2]) (by kernel_rfl) (by simp) ?_; refine AllReadyH.cons rfl (fun K hK => ?_) AllReadyH.nil
          go_simp
          go_at_call 62
          refine (HLT.out _ (Below.drew (Below.refl _ _))).mono ?_; rintro e w9 ⟨rfl, b9⟩
          have KP := Lib.hid ((HPQ.out.keep (Below.drew (Below.refl _ _))).keep b9)
          have KS := Lib.hid (And.intro (KP.out.2.1.cell 0) (KP.out.2.1.cell 1))
          clear hHeld
          go_wp2_with fail
          first
            | refine hK.out _ _ KS.out (fun hHeld => ?_)
            | refine hK _ _ KS.out (fun hHeld => ?_)
          clear hK K
          (try simp only [List.getElem_toArray, List.getElem_cons_succ, List.getElem_cons_zero, Act.put, List.setIfInBounds_toArray, List.set_cons_zero, List.set_cons_succ])
          clear KS
          (refine wpAnyH_take (i := 3) (v := ?_) rfl (by kernel_rfl) (by kernel_rfl) (by kernel_rfl) (fun _ _ _ h => h) (Or.inl ⟨by kernel_rfl, ?_⟩) (by assumption) ?_; rotate_left; focus (intro w hSw; (try dsimp only at hSw); go_simp; try with_reducible rfl); (try simp only [List.getElem_toArray, List.getElem_cons_succ, List.getElem_cons_zero, Act.put, List.setIfInBounds_toArray, List.set_cons_zero, List.set_cons_succ]))
          (refine wpAnyH_take (i := 4) (v := ?_) rfl (by kernel_rfl) (by kernel_rfl) (by kernel_rfl) (fun _ _ _ h => h) (Or.inl ⟨by kernel_rfl, ?_⟩) (by assumption) ?_; rotate_left; focus (intro w hSw; (try dsimp only at hSw); go_simp; try with_reducible rfl); (try simp only [List.getElem_toArray, List.getElem_cons_succ, List.getElem_cons_zero, Act.put, List.setIfInBounds_toArray, List.set_cons_zero, List.set_cons_succ])); (refine wpAnyH_take (i := 6) (v := ?_) rfl (by kernel_rfl) (by kernel_rfl) (by kernel_rfl) (fun _ _ _ h => h) (Or.inl ⟨by kernel_rfl, ?_⟩) (by assumption) ?_; rotate_left; focus (intro w hSw; (try dsimp only at hSw); go_simp; try with_reducible rfl); (try simp only [List.getElem_toArray, List.getElem_cons_succ, List.getElem_cons_zero, Act.put, List.setIfInBounds_toArray, List.set_cons_zero, List.set_cons_succ]))
          refine wpAnyH_ready (rs := [5]) (by kernel_rfl) (by simp) ?_; refine AllReadyH.cons rfl (fun K hK => ?_) AllReadyH.nil
          go_simp
          go_at_call 63
          refine (HT1.out _ ((Below.drew (Below.refl _ _)).trans (b9.mono (Nat.le_refl _)))).mono ?_; rintro e w10 ⟨rfl, b10⟩
          have KP0 := KP; clear KP
          have KP := Lib.hid (KP0.out.keep b10); clear KP0
          have KS := Lib.hid (And.intro (KP.out.2.1.cell 0) (KP.out.2.1.cell 1))
          clear hHeld b9 b10
          go_wp2_with fail
          first
            | refine hK.out _ _ KS.out (fun hHeld => ?_)
            | refine hK _ _ KS.out (fun hHeld => ?_)
          clear hK K
          (try simp only [List.getElem_toArray, List.getElem_cons_succ, List.getElem_cons_zero, Act.put, List.setIfInBounds_toArray, List.set_cons_zero, List.set_cons_succ])
          clear KS
          (refine wpAnyH_take (i := 7) (v := ?_) rfl (by kernel_rfl) (by kernel_rfl) (by kernel_rfl) (fun _ _ _ h => h) (Or.inl ⟨by kernel_rfl, ?_⟩) (by assumption) ?_; rotate_left; focus (intro w hSw; (try dsimp only at hSw); go_simp; try with_reducible rfl); (try simp only [List.getElem_toArray, List.getElem_cons_succ, List.getElem_cons_zero, Act.put, List.setIfInBounds_toArray, List.set_cons_zero, List.set_cons_succ])); (refine wpAnyH_take (i := 8) (v := ?_) rfl (by kernel_rfl) (by kernel_rfl) (by kernel_rfl) (fun _ _ _ h => h) (Or.inl ⟨by kernel_rfl, ?_⟩) (by assumption) ?_; rotate_left; focus (intro w hSw; (try dsimp only at hSw); go_simp; try with_reducible rfl); (try simp only [List.getElem_toArray, List.getElem_cons_succ, List.getElem_cons_zero, Act.put, List.setIfInBounds_toArray, List.set_cons_zero, List.set_cons_succ]))
          have HRS := Lib.hid (KP.out.res (.int .i64 t) (.slice a m.length c))
          obtain ⟨z0, z1, f0, f1⟩ := KP.out.1.two
          have hgw : g ≠ w.heap.size := HNE.out
          obtain ⟨e0, e1⟩ := pq_cells (u0 := .int .i64 t) (u1 := .slice a m.length c) KP.out.2.1 hgw
          have HE := Lib.hid (And.intro e0 e1); clear e0 e1 hgw
          refine wpAnyH_ready (rs := [9]) (by kernel_rfl) (by simp) ?_; refine AllReadyH.cons rfl (fun K hK => ?_) AllReadyH.nil
          go_simp
          clear z0 z1 f0 f1
          first
            | refine hK.out _ _ HE.out (fun hHeld => ?_)
            | refine hK _ _ HE.out (fun hHeld => ?_)
          clear hK K
          (try simp only [List.getElem_toArray, List.getElem_cons_succ, List.getElem_cons_zero, Act.put, List.setIfInBounds_toArray, List.set_cons_zero, List.set_cons_succ])
          (refine wpAnyH_take (i := 10) (v := ?_) rfl (by kernel_rfl) (by kernel_rfl) (by kernel_rfl) (fun _ _ _ h => h) (Or.inl ⟨by kernel_rfl, ?_⟩) (by assumption) ?_; rotate_left; focus (intro w hSw; (try dsimp only at hSw); go_simp; try with_reducible rfl); (try simp only [List.getElem_toArray, List.getElem_cons_succ, List.getElem_cons_zero, Act.put, List.setIfInBounds_toArray, List.set_cons_zero, List.set_cons_succ]))
          refine wpAnyH_done (by kernel_rfl) ?_ _
          (try simp only [List.getElem_toArray, List.getElem_cons_succ, List.getElem_cons_zero, Act.put, List.setIfInBounds_toArray, List.set_cons_zero, List.set_cons_succ])
          obtain ⟨r0, r1, -, -⟩ := HRS.out.2.2.two
          go_wp2_with fail
          rw [HF.out.1, HF.out.2]
          refine bodyPost_ret (v := .tuple #[.agg #[.int .i64 t, .slice a m.length c], .bool false]) ?_ rfl ⟨a, c, rfl, HRS.out.1, HRS.out.2.1⟩
          simp [results, Tryd.results69, go_sem, *]
end Go.Proofs.YtbgdngfjeikheaaDoor
