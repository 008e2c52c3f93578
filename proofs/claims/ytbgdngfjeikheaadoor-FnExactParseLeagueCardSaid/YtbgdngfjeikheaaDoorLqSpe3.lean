/-
  Leagues out of texts: the model: the results.
-/
import Derived.Test.YtbgdngfjeikheaaDoorLqSpec
import Derived.OwnWalk
namespace Go.Proofs.YtbgdngfjeikheaaDoor
open Go.RowKit
set_option linter.unusedVariables false
set_option linter.unusedSimpArgs false

theorem ob_ne {w : World} {g g' : Nat} {T T' : TypeId} {cs cs' : Array Value} (h : ObAt w g T cs) (h' : ObAt w g' T' cs') (hT : T ≠ T') : g ≠ g' := by
  intro e
  subst e
  unfold ObAt at h h'
  rw [h] at h'
  injection h' with h'
  injection h' with h1 h2 h3
  exact hT h2
theorem row_ob {w : World} {B n : Nat} {v : Value} {ps : List ByteArray} (h : w.ownsRow B 9 1 v n (strS ps)) (hn : 0 < n) :
    ∃ b cap cs, v = .slice (some ⟨b, 0, none⟩) n cap ∧ B ≤ b ∧ ObAt w b 9 cs ∧ ∀ (j : Nat) p, ps[j]? = some p → cs[j]? = some (.string p) := by
  obtain ⟨hl, ⟨-, h0⟩ | ⟨g, cap, cur, hv, hg, hh, hn', hc, hs, ht⟩⟩ := h
  · omega
  · refine ⟨g, cap, cur, hv, hg, hh, fun j p hj => ?_⟩
    have hlen : (strS ps).length = ps.length := by simp [strS]
    have hj1 : j < ps.length := (List.getElem?_eq_some_iff.1 hj).1
    have h2 : (strS ps)[j]? = some (.string p) := by simp [strS, hj]
    rw [← ht, List.getElem?_take, if_pos (by omega)] at h2
    rw [← h2]; simp
theorem allO_step {p : List UInt8} {ps : List (List UInt8)} {r : Rs} {xs : List Rs} (h : resM p = some r) : (allO (p :: ps)).map (fun rs => xs ++ rs) = (allO ps).map (fun rs => (xs ++ [r]) ++ rs) := by
  rw [allO, h]
  simp only
  cases allO ps <;> simp
theorem allO_bad {p : List UInt8} {ps : List (List UInt8)} (h : resM p = none) : allO (p :: ps) = none := by rw [allO, h]
theorem resM_not {l : List UInt8} (h : (cutL 61 l).length ≠ 2) : resM l = none := by
  unfold resM
  split
  · rename_i e; rw [e] at h; exact absurd rfl h
  · rfl
/-- Where the loop stands: the result's block, the league's, the pieces, the results. -/
def MlI (w : World) (t wn : Int) (g b1 : Nat) (cs1 : Array Value) (m : List Rs) (a : Option Addr) (c : Nat) (wr : World) : Prop :=
  ObAt wr w.heap.size 42 #[.int .i64 0, .int .i64 0, .slice none 0 0] ∧ ObAt wr g 42 #[.int .i64 t, .int .i64 wn, .slice a m.length c] ∧ ObAt wr b1 9 cs1 ∧ wr.ownsRow w.heap.size 97 4 (.slice a m.length c) m.length (ress m) ∧ Below w.heap.size w wr ∧ w.heap.size < g
theorem MlI.keep {w : World} {t wn : Int} {g b1 : Nat} {cs1 : Array Value} {m : List Rs} {a : Option Addr} {c : Nat} {wr w2 : World} (h : MlI w t wn g b1 cs1 m a c wr) (hb : Below wr.heap.size wr w2) : MlI w t wn g b1 cs1 m a c w2 :=
  ⟨h.1.keep hb, h.2.1.keep hb, h.2.2.1.keep hb, owns_below h.2.2.2.1 hb, h.2.2.2.2.1.trans (hb.mono h.2.2.2.2.1.size), h.2.2.2.2.2⟩
theorem MlI.pl {w : World} {t wn : Int} {g b1 : Nat} {cs1 : Array Value} {m : List Rs} {a : Option Addr} {c : Nat} {wr : World} (h : MlI w t wn g b1 cs1 m a c wr) : PlS w t wn g a m c wr := ⟨h.1, h.2.1, h.2.2.2.1, h.2.2.2.2.1⟩
def MlA (w : World) (t wn : Int) (g b1 : Nat) (cs1 : Array Value) (v : Value) (m : List Rs) (a : Option Addr) (c : Nat) (wr : World) : Prop :=
  ObAt wr w.heap.size 42 #[.int .i64 0, .int .i64 0, .slice none 0 0] ∧ ObAt wr g 42 #[.int .i64 t, .int .i64 wn, v] ∧ ObAt wr b1 9 cs1 ∧ wr.ownsRow w.heap.size 97 4 (.slice a m.length c) m.length (ress m) ∧ Below w.heap.size w wr ∧ w.heap.size < g
theorem MlI.grow {w : World} {t wn : Int} {g b1 : Nat} {cs1 : Array Value} {m m2 : List Rs} {a a2 : Option Addr} {c c2 : Nat} {wr w2 : World} (h : MlI w t wn g b1 cs1 m a c wr) (hg : wr.grownBy w2 (Value.slice a m.length c).ownBlock) (ho : w2.ownsRow w.heap.size 97 4 (.slice a2 m2.length c2) m2.length (ress m2)) : MlA w t wn g b1 cs1 (.slice a m.length c) m2 a2 c2 w2 :=
  ⟨h.1.grow (T' := 97) (by decide) h.2.2.2.1 hg, h.2.1.grow (T' := 97) (by decide) h.2.2.2.1 hg, h.2.2.1.grow (T' := 97) (by decide) h.2.2.2.1 hg, ho, h.2.2.2.2.1.grown hg h.2.2.2.2.1.size (fun b e => (owns_ge h.2.2.2.1 e).1), h.2.2.2.2.2⟩
theorem MlA.put {w : World} {t wn : Int} {g b1 : Nat} {cs1 : Array Value} {v : Value} {m : List Rs} {a : Option Addr} {c : Nat} {wr : World} (h : MlA w t wn g b1 cs1 v m a c wr) : MlI w t wn g b1 cs1 m a c (wr.setCell ⟨g, 2, none⟩ (.slice a m.length c)) := by
  obtain ⟨h1, h2, h3, h4, h5, h6⟩ := h
  refine ⟨h1.other (by omega) _, h2.put 2 _, h3.other (ob_ne h3 h2 (by decide)) _, owns_heap h4 (fun b e => ?_), h5.setCell (p := ⟨g, 2, none⟩) (by simp only; omega) _, h6⟩
  have hne : b ≠ g := by
    intro e2
    subst e2
    exact owns_apart (T := 42) (fr := (0, 0)) h2 (by decide) h4 e
  rw [Below.heap_setCell _ _ _ _ hne]
theorem ress_app1 (m : List Rs) (r0 r1 r2 r3 : Int) : ress m ++ [.int .i64 r0, .int .i64 r1, .int .i64 r2, .int .i64 r3] = ress (m ++ [(r0, r1, r2, r3)]) := by simp [ress, flatR, ints]

set_option maxHeartbeats 1600000 in
set_option maxRecDepth 100000 in
theorem lgParse_rows (s p q : ByteArray) (t wn : Int) (V : Int × Int × List Rs) (o : Bool) (hz : s.size ≤ 600) (hp : p.size ≤ s.size) (hqs : q.size ≤ s.size) (hq : q.data.toList ≠ []) (ht : twoM 119 p.data.toList = (t, wn)) (hnone : rowsM q.data.toList = none → V = (0, 0, []) ∧ o = false)
    (hsome : ∀ rs, rowsM q.data.toList = some rs → (goodL t wn rs = false ∧ V = (0, 0, []) ∧ o = false) ∨ (goodL t wn rs = true ∧ V = (t, wn, rs) ∧ o = true)) (hsp : ∀ w : World, Calls Tryd.prog 88 #[.string s, .int .u8 124] w fun e w' => ∃ v, e = .returned v ∧ w'.ownsRow w.heap.size 9 1 v 2 (strS [p, q]) ∧ Below w.heap.size w w') (w : World) :
    Calls Tryd.prog 74 #[.string s] w fun e w' => LgR V.1 V.2.1 V.2.2 o w e w' := by
  have HSP := Lib.hid hsp; clear hsp
  have htw := fun W => lgTwo_any p 119 (by omega) W
  rw [ht, show (((119 : UInt8).toNat : Nat) : Int) = 119 from rfl] at htw
  have HTW := Lib.hid htw; clear htw ht
  have HP0 := Lib.hid (And.intro (ObAt.new w 42 #[.int .i64 0, .int .i64 0, .slice none 0 0]) (Below.ofNew (w := w) (.cells #[.int .i64 0, .int .i64 0, .slice none 0 0] 42)))
  have d6 : ¬ (600 : Int) < (s.size : Int) := by omega
  have hs2 := fun W => l1Split_any q 44 (by omega) W
  rw [show (((44 : UInt8).toNat : Nat) : Int) = 44 from rfl] at hs2
  have hpl := cutS_len q 44 q.size 0
  have hps := fun x (hx : x ∈ cutS q 44 q.size 0) => cutS_size q 44 q.size 0 x hx
  have hrm : rowsM q.data.toList = allO ((cutS q 44 q.size 0).map fun x => x.data.toList) := by unfold rowsM; rw [if_neg hq, pcsL]
  have hpne : 0 < (cutS q 44 q.size 0).length := by
    rcases Nat.eq_zero_or_pos (cutS q 44 q.size 0).length with h | h
    · have h2 := pcsL q 44
      rw [List.eq_nil_of_length_eq_zero h] at h2
      exact absurd h2.symm (cutL_ne _ _)
    · exact h
  rw [hrm] at hnone hsome
  clear hrm
  have hq2 : q.toList.isEmpty = false := by rw [ByteArray.toList_eq]; simpa using hq
  generalize cutS q 44 q.size 0 = ps at *
  have HS2 := Lib.hid hs2; clear hs2
  generalize hR : allO (ps.map fun x => x.data.toList) = R at *
  have HRR : Hid ((allO ((ps.drop 0).map fun x => x.data.toList)).map (fun rs => [] ++ rs) = R) := by
    rw [List.drop_zero, hR]; cases R <;> simp [Lib.hid]
  have HNS := Lib.hid (And.intro hnone hsome); clear hnone hsome hR
  have hpn : ps.length ≤ 601 := by omega
  have HSZ := Lib.hid (fun x hx => Nat.le_trans (hps x hx) (Nat.le_trans hqs hz))
  have HPN := Lib.hid hpne
  clear hz hp hq hqs hps hpl hpne
  obtain ⟨i0, hi, hz0, hz1, hz2⟩ := info_parts infoResult
  have HI := Lib.hid (And.intro hi (And.intro hz0 (And.intro hz1 hz2))); clear hi hz0 hz1 hz2
  go_enter Tryd.func74, Tryd.ntmps74
  go_wp2_with fail
  refine (HSP.out _).mono ?_; rintro e w1 ⟨v, rfl, hown, hbel⟩
  obtain ⟨b0, cap0, cs0, rfl, -, hob, hcs⟩ := row_ob hown (by decide)
  have HP1 := Lib.hid (And.intro (HP0.out.1.keep hbel) (And.intro (HP0.out.2.trans (hbel.mono HP0.out.2.size)) hob))
  have HC0 := Lib.hid (And.intro (hcs 0 p rfl) (hcs 1 q rfl))
  have k0 : w1.cell? ⟨b0, 0, none⟩ = some (.string p) := (hob.cell 0).trans HC0.out.1
  clear hown hbel HP0 HSP hob hcs
  go_wp2_with fail
  refine (HTW.out _).mono ?_; rintro e w2 ⟨rfl, b2⟩
  clear k0
  have bn := Below.ofNew (w := w2) (.cells #[.int .i64 t, .int .i64 wn, .slice none 0 0] 42)
  have bb := b2.trans (bn.mono b2.size)
  have hlt2 := HP1.out.1.lt
  have hsz2 := b2.size
  have HP2 : Hid (ObAt (w2.alloc (.cells #[.int .i64 t, .int .i64 wn, .slice none 0 0] 42)) w.heap.size 42 #[.int .i64 0, .int .i64 0, .slice none 0 0] ∧ ObAt (w2.alloc (.cells #[.int .i64 t, .int .i64 wn, .slice none 0 0] 42)) w2.heap.size 42 #[.int .i64 t, .int .i64 wn, .slice none 0 0] ∧ ObAt (w2.alloc (.cells #[.int .i64 t, .int .i64 wn, .slice none 0 0] 42)) b0 9 cs0 ∧ w.heap.size < w2.heap.size ∧ Below w.heap.size w (w2.alloc (.cells #[.int .i64 t, .int .i64 wn, .slice none 0 0] 42))) :=
    ⟨HP1.out.1.keep bb, ObAt.new _ _ _, HP1.out.2.2.keep bb, by omega, HP1.out.2.1.trans (bb.mono HP1.out.2.1.size)⟩
  clear bn bb HP1 HTW b2 hlt2 hsz2
  have k1 : (w2.alloc (.cells #[.int .i64 t, .int .i64 wn, .slice none 0 0] 42)).cell? ⟨b0, 1, none⟩ = some (.string q) := (HP2.out.2.2.1.cell 1).trans HC0.out.2
  go_wp2_with fail
  refine (HS2.out _).mono ?_; rintro e w4 ⟨v4, rfl, hown, hbel⟩
  obtain ⟨b1, cap1, cs1, rfl, -, hob, hcs⟩ := row_ob hown HPN.out
  have H0 : Hid (MlI w t wn w2.heap.size b1 cs1 [] none 0 w4) :=
    ⟨HP2.out.1.keep hbel, HP2.out.2.1.keep hbel, hob, owns_nil4 _ _ _, HP2.out.2.2.2.2.trans (hbel.mono HP2.out.2.2.2.2.size), HP2.out.2.2.2.1⟩
  have HCS := Lib.hid hcs
  clear hown hbel HP2 HS2 k1 hob hcs HC0 HPN
  generalize w2.heap.size = g at *
  go_wp2_with fail
  go_loopw [45] (fun i wr => ∃ (k : Nat) (xs : List Rs) (a : Option Addr) (c : Nat), i = .int .i64 k ∧ k ≤ ps.length ∧ Hid (xs.length = k ∧ (allO ((ps.drop k).map fun x => x.data.toList)).map (fun rs => xs ++ rs) = R) ∧ Hid (MlI w t wn g b1 cs1 xs a c wr)) (fun i _ => ps.length - (intOf i).toNat)
  case atStart => exact ⟨0, [], none, 0, rfl, Nat.zero_le _, ⟨rfl, HRR.out⟩, H0⟩
  case round =>
    clear H0 HRR
    obtain ⟨k, xs, a, c, rfl, hk, hX, hP⟩ := hrel
    by_cases hlt : k < ps.length
    · have b1' : (k : Int) < (ps.length : Int) := by omega
      have c0 : wr.cell? ⟨b1, k, none⟩ = some (.string ps[k]) := (hP.out.2.2.1.cell k).trans (HCS.out k _ (List.getElem?_eq_getElem hlt))
      have hmem : ps[k] ∈ ps := List.getElem_mem hlt
      have hsz := HSZ.out _ hmem
      have HXL := Lib.hid (show xs.length ≤ 1000 by have := hX.out.1; omega)
      have hxl := hX.out.1
      have hd := hX.out.2
      rw [List.drop_eq_getElem_cons hlt, List.map_cons] at hd
      clear hX hmem
      generalize ps[k] = pk at *
      have hs6 := fun W => l1Split_any pk 61 (by omega) W
      rw [show (((61 : UInt8).toNat : Nat) : Int) = 61 from rfl] at hs6
      have hqz := fun x (hx : x ∈ cutS pk 61 pk.size 0) => cutS_size pk 61 pk.size 0 x hx
      have hpc := pcsL pk 61
      generalize cutS pk 61 pk.size 0 = qs at *
      have HS6 := Lib.hid hs6; clear hs6
      by_cases hq3 : qs.length = 2
      · match qs, hq3 with
        | [x, y], _ =>
          have hrs : resM pk.data.toList = some ((twoM 45 x.data.toList).1, (twoM 45 x.data.toList).2, (twoM 58 y.data.toList).1, (twoM 58 y.data.toList).2) := by unfold resM; rw [← hpc]; rfl
          rw [allO_step hrs] at hd
          have hx6 := hqz x (by simp)
          have hy6 := hqz y (by simp)
          have htx := fun W => lgTwo_any x 45 (by omega) W
          have hty := fun W => lgTwo_any y 58 (by omega) W
          rw [show (((45 : UInt8).toNat : Nat) : Int) = 45 from rfl] at htx
          rw [show (((58 : UInt8).toNat : Nat) : Int) = 58 from rfl] at hty
          clear hrs hpc hqz hx6 hy6 hsz
          generalize (twoM 45 x.data.toList).1 = r0 at *
          generalize (twoM 45 x.data.toList).2 = r1 at *
          generalize (twoM 58 y.data.toList).1 = r2 at *
          generalize (twoM 58 y.data.toList).2 = r3 at *
          have HTX := Lib.hid htx; clear htx
          have HTY := Lib.hid hty; clear hty
          have HX1 : Hid ((xs ++ [(r0, r1, r2, r3)]).length = k + 1 ∧ (allO ((ps.drop (k + 1)).map fun x => x.data.toList)).map (fun rs => (xs ++ [(r0, r1, r2, r3)]) ++ rs) = R) := ⟨by simp [hxl], hd⟩
          clear hd hxl
          go_wp2_with fail
          refine (HS6.out _).mono ?_; rintro e w6 ⟨v6, rfl, hown, hbel⟩
          obtain ⟨b8, cap8, cs8, rfl, -, hob, hcs⟩ := row_ob hown (by simp)
          have HC8 := Lib.hid (And.intro (hcs 0 x rfl) (hcs 1 y rfl))
          have KP := Lib.hid (And.intro (hP.out.keep hbel) hob)
          have m0 : w6.cell? ⟨b8, 0, none⟩ = some (.string x) := (hob.cell 0).trans HC8.out.1
          clear hown hbel hP hob hcs c0 HS6
          go_wp2_with fail
          refine (HTX.out _).mono ?_; rintro e w7 ⟨rfl, b7⟩
          have KP7 := Lib.hid (And.intro (KP.out.1.keep b7) (KP.out.2.keep b7))
          have m1 : w7.cell? ⟨b8, 1, none⟩ = some (.string y) := (KP7.out.2.cell 1).trans HC8.out.2
          clear b7 KP m0 HTX
          go_wp2_with fail
          refine (HTY.out _).mono ?_; rintro e w8 ⟨rfl, b8'⟩
          have KP8 := Lib.hid (KP7.out.1.keep b8'); clear b8' KP7 m1 HTY HC8
          have bn := Below.ofNew (w := w8) (.cells #[.int .i64 r0, .int .i64 r1, .int .i64 r2, .int .i64 r3] 97)
          have KA := Lib.hid (And.intro (KP8.out.keep bn) (cells_four_new w8 (.int .i64 r0) (.int .i64 r1) (.int .i64 r2) (.int .i64 r3) 97)); clear bn
          have o2 := KP8.out.2.1.cell 2
          have hbs := KP8.out.2.2.2.2.1.size
          have hxl := HXL.out
          go_wp2_with (at_builtin; refine wpList_append_own_at _ rfl _ _ 40 rfl w.heap.size 97 i0 (.agg #[.int .i64 0, .int .i64 0, .int .i64 0, .int .i64 0]) 4 32 Tryd.underlying40 HI.out.1 HI.out.2.1 HI.out.2.2.1 HI.out.2.2.2 rfl (by decide) _ _ _ rfl KA.out.1.2.2.2.1 ⟨w8.heap.size, 0, none⟩ 1 1 [.int .i64 r0, .int .i64 r1, .int .i64 r2, .int .i64 r3] rfl rfl KA.out.2 ?_ ?_ ?_ ?_ ?_)
          · intro u hu; simp at hu; rcases hu with rfl | rfl | rfl | rfl <;> rfl
          · unfold maxLen; omega
          · omega
          · first | omega | (simp; omega)
          intro v' w9 hown9 hgrow _ _
          rw [ress_app1] at hown9
          have h9l : (xs ++ [(r0, r1, r2, r3)]).length = xs.length + 1 := by simp
          rw [← h9l] at hown9
          obtain ⟨a9, c9, rfl, -⟩ := own_cap hown9
          have K7 := Lib.hid (KA.out.1.grow hgrow hown9)
          have k9 := K7.out.put
          rw [h9l] at k9
          have K9 := Lib.hid k9
          have z2 := K7.out.2.1.cell 2
          have f2 := K7.out.2.1.free 2
          clear hown9 hgrow KA KP8 o2 k9 h9l hbs hxl
          go_wp2_with fail
          go_roundw
          case rel => exact ⟨k + 1, xs ++ [(r0, r1, r2, r3)], a9, c9, by go_num, by omega, HX1, K9⟩
          case measure => simp [intOf]; omega
      · have hrs := resM_not (l := pk.data.toList) (by rw [← hpc, List.length_map]; exact hq3)
        rw [allO_bad hrs] at hd
        have HF := Lib.hid (HNS.out.1 hd.symm)
        clear hd hrs hpc hqz HNS hxl
        have d1 : ((qs.length : Int) != 2) = true := by simp; omega
        have d2 : ¬ qs.length = 2 := hq3
        clear hq3
        go_wp2_with fail
        refine (HS6.out _).mono ?_; rintro e w6 ⟨v6, rfl, hown, hbel⟩
        obtain ⟨a6, c6, rfl, -, -⟩ := own_cap hown
        have HP1 := Lib.hid (And.intro (hP.out.1.keep hbel) (hP.out.2.2.2.2.1.trans (hbel.mono hP.out.2.2.2.2.1.size)))
        clear hown hbel hP c0 HS6
        obtain ⟨z0, z1, z2, f0, f1, f2⟩ := HP1.out.1.three
        have HB9 : Hid (∀ u0 u1 u2 : Value, Below w.heap.size w (((w6.setCell ⟨w.heap.size, 0, none⟩ u0).setCell ⟨w.heap.size, 1, none⟩ u1).setCell ⟨w.heap.size, 2, none⟩ u2)) := fun u0 u1 u2 =>
          ((HP1.out.2.setCell (p := ⟨w.heap.size, 0, none⟩) (Nat.le_refl _) u0).setCell (p := ⟨w.heap.size, 1, none⟩) (Nat.le_refl _) u1).setCell (p := ⟨w.heap.size, 2, none⟩) (Nat.le_refl _) u2
        have HQ := Lib.hid (((HP1.out.1.put 0 (.int .i64 0)).put 1 (.int .i64 0)).put 2 (.slice none 0 0)).three
        go_wp2_with fail
        obtain ⟨y0, y1, y2, -, -, -⟩ := HQ.out
        rw [HF.out.1, HF.out.2]
        refine bodyPost_ret (v := .tuple #[.agg #[.int .i64 0, .int .i64 0, .slice none 0 0], .bool false]) (by simp [results, Tryd.results74, go_sem, y0, y1, y2]) rfl ⟨none, 0, rfl, owns_nil4 _ _ _, HB9.out _ _ _⟩
    · obtain rfl : k = ps.length := by omega
      have hd := hX.out.2
      rw [List.drop_length] at hd
      have hR : R = some xs := by rw [← hd]; simp [allO]
      have HVV := Lib.hid (HNS.out.2 xs hR)
      have hml : xs.length ≤ 601 := by have := hX.out.1; omega
      clear hd hR HNS hX
      have HPL := Lib.hid hP.out.pl
      clear hP
      obtain ⟨a', c', he, hac, hrd, -⟩ := own_cap HPL.out.2.2.1
      injection he with e1 e2 e3
      subst e1 e3
      clear e2
      have HLT := Lib.hid (lgGood_any t wn xs a c wr (by omega) hac hrd)
      clear hac hrd
      obtain ⟨p0, p1, p2, -, -, -⟩ := HPL.out.2.1.three
      rcases HVV.out with ⟨hg, hV, ho⟩ | ⟨hg, hV, ho⟩
      · rw [hg] at HLT
        have HF := Lib.hid (And.intro hV ho)
        clear hg hV ho HVV
        go_wp2_with fail
        refine HLT.out.mono ?_; rintro e w9 ⟨rfl, b9⟩
        have HP1 := Lib.hid (And.intro (HPL.out.1.keep b9) (HPL.out.2.2.2.trans (b9.mono HPL.out.2.2.2.size))); clear b9 HPL HLT p0 p1 p2
        obtain ⟨z0, z1, z2, f0, f1, f2⟩ := HP1.out.1.three
        have HB9 : Hid (∀ u0 u1 u2 : Value, Below w.heap.size w (((w9.setCell ⟨w.heap.size, 0, none⟩ u0).setCell ⟨w.heap.size, 1, none⟩ u1).setCell ⟨w.heap.size, 2, none⟩ u2)) := fun u0 u1 u2 =>
          ((HP1.out.2.setCell (p := ⟨w.heap.size, 0, none⟩) (Nat.le_refl _) u0).setCell (p := ⟨w.heap.size, 1, none⟩) (Nat.le_refl _) u1).setCell (p := ⟨w.heap.size, 2, none⟩) (Nat.le_refl _) u2
        have HQ := Lib.hid (((HP1.out.1.put 0 (.int .i64 0)).put 1 (.int .i64 0)).put 2 (.slice none 0 0)).three
        go_wp2_with fail
        obtain ⟨y0, y1, y2, -, -, -⟩ := HQ.out
        rw [HF.out.1, HF.out.2]
        refine bodyPost_ret (v := .tuple #[.agg #[.int .i64 0, .int .i64 0, .slice none 0 0], .bool false]) (by simp [results, Tryd.results74, go_sem, y0, y1, y2]) rfl ⟨none, 0, rfl, owns_nil4 _ _ _, HB9.out _ _ _⟩
      · rw [hg] at HLT
        have HF := Lib.hid (And.intro hV ho)
        clear hg hV ho HVV
        go_wp2_with fail
        refine HLT.out.mono ?_; rintro e w9 ⟨rfl, b9⟩
        have HP5 := Lib.hid (HPL.out.keep b9); clear b9 HPL HLT p0 p1 p2
        obtain ⟨p0, p1, p2, -, -, -⟩ := HP5.out.2.1.three
        obtain ⟨q0, q1, q2, f0, f1, f2⟩ := HP5.out.1.three
        have HR := Lib.hid (HP5.out.res (.int .i64 t) (.int .i64 wn) (.slice a xs.length c))
        obtain ⟨r0, r1, r2, -, -, -⟩ := HR.out.2.2.three
        go_wp2_with fail
        rw [HF.out.1, HF.out.2]
        refine bodyPost_ret (v := .tuple #[.agg #[.int .i64 t, .int .i64 wn, .slice a xs.length c], .bool true]) ?_ rfl ⟨a, c, rfl, HR.out.1, HR.out.2.1⟩
        simp [results, Tryd.results74, go_sem, *]
end Go.Proofs.YtbgdngfjeikheaaDoor
