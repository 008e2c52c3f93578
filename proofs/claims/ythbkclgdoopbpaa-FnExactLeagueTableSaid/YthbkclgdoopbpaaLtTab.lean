/-
  Leagues: the program's table: a map of standings, emptied from the first one on.
-/
import Derived.Test.YthbkclgdoopbpaaLtFirst
import Derived.Test.YthbkclgdoopbpaaLgDir
import Derived.Maps.AppendAt
namespace Go.Proofs.Ythbkclgdoopbpaa
open Go.RowKit Go.Maps
set_option linter.unusedVariables false
set_option linter.unusedSimpArgs false

theorem keyT {t : Int} (h : 0 ≤ t ∧ t ≤ 100) : keyOf Try.prog 3 (.int .i64 t) = some (.int .i64 t) := keyOf_int_mk Try.underlying3 (WalkArith.wf_i64 (by omega))
theorem litNe {t u : Int} (h : t ≠ u) : (Lit.int .i64 t) ≠ .int .i64 u := fun e => by injection e with _ e; exact h e
theorem MapS.nil (o : Ord3) : MapS (.map []) o [] := ⟨fun kl h => by simp [has] at h, fun t ht => absurd ht (by simp), rfl⟩
theorem MapS.put {D : DataW Value} {o : Ord3} {S : List Int} (h : MapS D o S) (hT : Tidy D) {t : Int} (ht : 0 ≤ t ∧ t ≤ 100) (hn : t ∉ S) : MapS (D.put (.int .i64 t) (.held (stV o t))) o (S ++ [t]) := by
  obtain ⟨h1, h2, h3⟩ := h
  have hk := keysInt.key (keyT ht)
  have hno : has D (.int .i64 t) = false := by
    cases e : has D (.int .i64 t) with
    | false => rfl
    | true =>
      obtain ⟨u, hu, eu⟩ := h1 _ e
      injection eu with _ eu
      exact absurd (eu ▸ hu) hn
  refine ⟨fun kl hkl => ?_, fun u hu => ?_, ?_⟩
  · by_cases e : kl = .int .i64 t
    · exact ⟨t, by simp, e⟩
    · rw [has_put_other e] at hkl
      obtain ⟨u, hu, eu⟩ := h1 kl hkl
      exact ⟨u, by simp [hu], eu⟩
  · by_cases e : u = t
    · subst e
      exact ⟨has_put_same hT.isMap hk _, fun z => atKey_put_same hT.isMap hk _ _⟩
    · have hu2 : u ∈ S := by simpa [e] using hu
      rw [has_put_other (litNe e)]
      exact ⟨(h2 u hu2).1, fun z => by rw [atKey_put_other (litNe e)]; exact (h2 u hu2).2 z⟩
  · rw [size_put hT, hno, h3]; simp
theorem MapS.del {D : DataW Value} {o : Ord3} {h : Int} {r : List Int} (hm : MapS D o (h :: r)) (hT : Tidy D) (hn : h ∉ r) : MapS (D.del (.int .i64 h)) o r := by
  obtain ⟨h1, h2, h3⟩ := hm
  refine ⟨fun kl hkl => ?_, fun u hu => ?_, ?_⟩
  · by_cases e : kl = .int .i64 h
    · subst e; rw [has_del_same] at hkl; cases hkl
    · rw [has_del_other e] at hkl
      obtain ⟨u, hu, eu⟩ := h1 kl hkl
      rcases List.mem_cons.1 hu with e2 | e2
      · exact absurd (e2 ▸ eu) e
      · exact ⟨u, e2, eu⟩
  · have e : u ≠ h := fun e => hn (e ▸ hu)
    rw [has_del_other (litNe e)]
    exact ⟨(h2 u (by simp [hu])).1, fun z => by rw [atKey_del_other (litNe e)]; exact (h2 u (by simp [hu])).2 z⟩
  · have := size_del hT (k := .int .i64 h)
    rw [(h2 h (by simp)).1, h3] at this
    simp at this; omega
theorem MapS.same {D : DataW Value} {o : Ord3} {S S' : List Int} (h : MapS D o S) (hm : ∀ t, t ∈ S ↔ t ∈ S') (hl : S.length = S'.length) : MapS D o S' :=
  ⟨fun kl hk => by obtain ⟨t, ht, e⟩ := h.1 kl hk; exact ⟨t, (hm t).1 ht, e⟩, fun t ht => h.2.1 t ((hm t).2 ht), h.2.2.trans hl⟩
def upS (k : Nat) : List Int := (List.range k).map fun (i : Nat) => (i : Int)
theorem upS_succ (k : Nat) : upS (k + 1) = upS k ++ [(k : Int)] := by simp [upS, List.range_succ]
theorem upS_mem (k : Nat) (t : Int) : t ∈ upS k ↔ 0 ≤ t ∧ t < k := by
  simp only [upS, List.mem_map, List.mem_range]
  constructor
  · rintro ⟨i, hi, rfl⟩; omega
  · rintro ⟨h1, h2⟩; exact ⟨t.toNat, by omega, by omega⟩
theorem owns_map {w w' : World} {b n : Nat} {D : DataW Value} (h : w.ownsMap Try.prog 3 heldR b n D) (e : w'.heap[b]? = w.heap[b]?) : w'.ownsMap Try.prog 3 heldR b n D := by
  obtain ⟨es, clock, hb, F, hs, hD⟩ := h
  exact ⟨es, clock, e.trans hb, F, hs, hD⟩
/-- A row does not lie in the map's block. -/
theorem map_apart {w : World} {b n : Nat} {D : DataW Value} (h : w.ownsMap Try.prog 3 heldR b n D) {T base m size : Nat} {v : Value} {xs : List Value} (ho : w.ownsRow base T size v m xs) : v.ownBlock ≠ some b := by
  obtain ⟨es, clock, hb, -⟩ := h
  obtain ⟨-, ⟨rfl, -⟩ | ⟨g, cap, cur, rfl, -, hh, -⟩⟩ := ho
  · simp [Value.ownBlock]
  · intro e
    simp [Value.ownBlock] at e
    subst e
    rw [hb] at hh; cases hh

/-- While the map is filled: the league's box, the map. -/
def FlAt (w : World) (t wn : Int) (lv : Value) (o : Ord3) (b k : Nat) (wr : World) : Prop :=
  BoxS w t wn lv wr ∧ (∃ D, wr.ownsMap Try.prog 3 heldR b k D ∧ MapS D o (upS k)) ∧ w.heap.size < b
/-- While the map is emptied. -/
def TbAt (w : World) (o : Ord3) (T b k : Nat) (v : Value) (wr : World) : Prop :=
  (∃ D, wr.ownsMap Try.prog 3 heldR b T D ∧ MapS D o ((o.tab T).drop k)) ∧ w.heap.size < b ∧ wr.ownsRow w.heap.size 3 1 v k (ints ((o.tab T).take k)) ∧ Below w.heap.size w wr
theorem BoxS.block {w : World} {t wn : Int} {lv : Value} {Y Z : World} (h : BoxS w t wn lv Y) {b : Nat} (hb : w.heap.size < b) (hg : Y.grownBy Z (some b)) : BoxS w t wn lv Z := by
  refine ⟨?_, h.2.grown hg h.2.size (fun g e => by cases e; omega)⟩
  have := h.1
  unfold ObAt at this ⊢
  rw [hg.block _ (Array.getElem?_eq_some_iff.1 this).1 (by simp; omega)]; exact this

def tabV (t wn : Int) (l : List Rs) : List Int := if goodL t wn l then (ordL wn l).tab t.toNat else []
theorem tabV_len (t wn : Int) (l : List Rs) : (tabV t wn l).length ≤ 8 := by
  unfold tabV
  by_cases h : goodL t wn l = true
  · rw [if_pos h, Ord3.tab_len]; have := goodL_bd h; omega
  · rw [if_neg h]; simp
theorem goals_bd {t wn : Int} {l : List Rs} (h : goodL t wn l = true) (team : Int) : (0 ≤ forL (gamesL l team) ∧ forL (gamesL l team) ≤ 100000) ∧ (0 ≤ agL (gamesL l team) ∧ agL (gamesL l team) ≤ 100000) := by
  have hlen := gamesL_len l team
  obtain ⟨-, -, -, -, h56⟩ := goodL_bd h
  have key : ∀ gs : List Gm, (∀ g ∈ gs, goodG t g) → (0 ≤ forL gs ∧ forL gs ≤ 20 * gs.length) ∧ (0 ≤ agL gs ∧ agL gs ≤ 20 * gs.length) := by
    intro gs
    induction gs with
    | nil => simp [forL, agL]
    | cons g gs ih =>
      intro hg
      have h1 := ih (fun x hx => hg x (by simp [hx]))
      obtain ⟨-, h2, h3⟩ := hg g (by simp)
      have e1 : forL (g :: gs) = g.2.1 + forL gs := by simp [forL]
      have e2 : agL (g :: gs) = g.2.2 + agL gs := by simp [agL]
      rw [e1, e2]
      simp only [List.length_cons]
      push_cast
      omega
  have := key (gamesL l team) (fun g hg => gamesL_good h team g hg)
  omega
theorem ordL_small {t wn : Int} {l : List Rs} (h : goodL t wn l = true) {S : List Int} (hS : ∀ x ∈ S, 0 ≤ x ∧ x ≤ 100) : SmallS (ordL wn l) S := fun x hx => by
  obtain ⟨-, -, hw2, hw3, h56⟩ := goodL_bd h
  have h1 := goals_bd h x
  have h2 := ptsL_bd ⟨hw2, hw3⟩ (gamesL l x)
  have h3 := gamesL_len l x
  refine ⟨hS x hx, h1, ?_⟩
  show 0 ≤ ptsL wn (gamesL l x) ∧ ptsL wn (gamesL l x) ≤ 100000
  omega

theorem map_grown {w0 wr w2 w3 : World} {b n B k : Nat} {D : DataW Value} {v : Value} {xs : List Value} {o : Obj} (hm : wr.ownsMap Try.prog 3 heldR b n D) (hr : wr.ownsRow B 3 1 v k xs) (b2 : Below wr.heap.size wr w2) (hg : (w2.alloc o).grownBy w3 v.ownBlock) : w3.ownsMap Try.prog 3 heldR b n D := by
  have hbl := hm.lt
  have hsz := b2.size
  have hm2 := owns_map hm (b2.block b hbl)
  exact owns_map hm2 (by rw [hg.block b (by simp; omega) (fun e => map_apart hm2 (owns_below hr b2) e.symm), Below.heap_alloc _ _ _ (by omega)])
/-- One team more: the first of those that wait is put behind the others and struck. -/
theorem TbAt.more {w wr w2 w3 w4 : World} {o : Ord3} {T b k : Nat} {v v' : Value} {D : DataW Value} {x : Int} (h : TbAt w o T b k v wr) (hk : k < T) (hx : x = (o.tab T).getD k 0) (hm : wr.ownsMap Try.prog 3 heldR b T D) (hs : MapS D o ((o.tab T).drop k)) (b2 : Below wr.heap.size wr w2)
    (hr3 : w3.ownsRow w.heap.size 3 1 v' (k + 1) (ints ((o.tab T).take k) ++ [.int .i64 x])) (hg : (w2.alloc (.cells #[.int .i64 x] 3)).grownBy w3 v.ownBlock)
    (hm4 : w4.ownsMap Try.prog 3 heldR b T (D.del (.int .i64 x))) (ht : w3.mapTurned w4 b) : TbAt w o T b (k + 1) v' w4 ∧ Maps.size (D.del (.int .i64 x)) = T - (k + 1) := by
  obtain ⟨-, hb, hr, hbel⟩ := h
  obtain ⟨r, e1, e2, hsd, hmem, hlen⟩ := o.tab_drop hk
  subst hx
  have hsz := b2.size
  have hr2 := owns_below hr b2
  have hm3 := map_grown (w0 := w) hm hr b2 hg
  have hb3 : Below w.heap.size w w3 := ((hbel.trans (b2.mono hbel.size)).alloc (by have := hbel.size; omega) _).grown hg (by have := hbel.size; simp; omega) (fun g hg => by have := (owns_ge hr2 hg).1; omega)
  have hs' : MapS (D.del (.int .i64 ((o.tab T).getD k 0))) o ((o.tab T).drop (k + 1)) := by
    rw [e2]
    rw [e1] at hs
    exact hs.del (hm3.tidy keysInt) (fun hin => by
      have := (List.pairwise_cons.1 hsd).1 _ hin
      exact Ord3.bef_ne this rfl)
  refine ⟨⟨⟨_, hm4, hs'⟩, hb, ?_, hb3.grown ht.grown hb3.size (fun g e => by cases e; omega)⟩, by rw [hs'.2.2, List.length_drop, o.tab_len]⟩
  have e3 : ints ((o.tab T).take (k + 1)) = ints ((o.tab T).take k) ++ [.int .i64 ((o.tab T).getD k 0)] := by
    rw [take_snoc 0 _ _ (by rw [o.tab_len]; exact hk)]; simp [ints]
  rw [e3]
  exact owns_heap hr3 (fun g hg2 => ht.grown.block g (owns_ge hr3 hg2).2 (fun e => by
    cases e
    exact map_apart hm3 hr3 hg2))
def lenS : Value → Nat
  | .slice _ n _ => n
  | _ => 0
theorem own_lenS {w : World} {B T n size : Nat} {v : Value} {xs : List Value} (h : w.ownsRow B T size v n xs) : lenS v = n := by
  obtain ⟨a, c, rfl, -⟩ := own_cap h
  rfl
theorem cell_one_newT (w : World) (v : Value) (t : TypeId) : ∀ j' u, ([v] : List Value)[j']? = some u → (w.alloc (.cells #[v] t)).cell? ((⟨w.heap.size, 0, none⟩ : Addr).add j') = some u := by
  intro j' u hu
  have e0 : j' = 0 := by have := (List.getElem?_eq_some_iff.1 hu).1; simp at this; omega
  subst e0
  simp at hu; subst hu
  rw [show (⟨w.heap.size, 0, none⟩ : Addr).add 0 = ⟨w.heap.size, 0, none⟩ by simp [Addr.add], (ObAt.new w t #[v]).cell 0]; rfl

set_option maxHeartbeats 6400000 in
set_option maxRecDepth 100000 in
theorem implTable_any (t wn : Int) (l : List Rs) (ad : Option Addr) (c : Nat) (w : World) (hl : (l.length : Int) ≤ 1000000000000) (hlc : l.length ≤ c) (hr : Reads w ad (ress l)) :
    Calls Try.prog 21 #[.agg #[.int .i64 t, .int .i64 wn, .slice ad l.length c]] w fun e w' => RowR (tabV t wn l) (goodL t wn l) w e w' := by
  have HB0 := Lib.hid (BoxS.new w t wn (.slice ad l.length c))
  have HG := Lib.hid (isLeague_any t wn l ad c _ hl hlc (hr.old HB0.out.2))
  have HR := Lib.hid hr; clear hr
  cases hg : goodL t wn l
  · have hv : tabV t wn l = [] := by unfold tabV; rw [hg]; rfl
    rw [hg] at HG; rw [hv]; clear hg hv
    go_enter Try.func21, Try.ntmps21
    go_wp2_with fail
    go_step3
    go_wp2_with fail
    refine HG.out.mono ?_; rintro e w1 ⟨rfl, b1⟩
    have HB1 := Lib.hid (HB0.out.2.trans (b1.mono HB0.out.2.size)); clear b1
    go_wp2_with fail
    rw [Exit.noGoto_ret]
    refine bodyPost_ret (v := .tuple #[.slice none 0 0, .bool false]) (by simp [results, Try.results21, go_sem]) rfl ⟨_, rfl, owns_nil _ _ _, HB1.out⟩
  · obtain ⟨t2, t8, hw2, hw3, h56⟩ := goodL_bd hg
    obtain ⟨T, rfl⟩ : ∃ T : Nat, t = T := ⟨t.toNat, by omega⟩
    have hv : tabV T wn l = (ordL wn l).tab T := by unfold tabV; rw [if_pos hg, Int.toNat_natCast]
    obtain ⟨i0, hi, hz0, hz1, hz2⟩ := info_parts infoInt
    have HI := Lib.hid (And.intro hi (And.intro hz0 (And.intro hz1 hz2))); clear hi hz0 hz1 hz2
    have HST := Lib.hid (fun team W (hb : Below w.heap.size w W) => standingOf_any T wn l hg ad c team W (HR.out.old hb))
    have HSM := Lib.hid (fun S hS => ordL_small (wn := wn) hg (S := S) hS)
    rw [hg] at HG; rw [hv]; clear hg hv
    go_enter Try.func21, Try.ntmps21
    go_wp2_with fail
    refine wp_scope_jumps 0 (fun a' w' => ∃ (b k : Nat) (v u5 u7 u8 u9 u10 u11 u12 u13 u14 u15 u16 u17 u18 u19 u20 u21 u22 u23 u24 u25 u26 u27 u28 u29 u30 u31 u32 u33 u34 : Value), a' = { tmps := #[.agg #[.int .i64 T, .int .i64 wn, .slice ad l.length c], .pointer (some ⟨w.heap.size, 0, none⟩), .slice none 0 0, .bool false, .map (some b), u5, v, u7, u8, u9, u10, u11, u12, u13, u14, u15, u16, u17, u18, u19, u20, u21, u22, u23, u24, u25, u26, u27, u28, u29, u30, u31, u32, u33, u34], defers := [] } ∧ k < T ∧ Hid (TbAt w (ordL wn l) T b k v w')) (fun a' _ => T - lenS (a'.tmps.getD 6 undef)) rfl ?_ ?_
    · go_wp2_with fail
      refine HG.out.mono ?_; rintro e w1 ⟨rfl, b1⟩
      have H1 := Lib.hid (HB0.out.keep b1); clear b1 HG HB0
      obtain ⟨p0, p1, p2, -, -, -⟩ := H1.out.1.three
      have H0 : Hid (FlAt w T wn (.slice ad l.length c) (ordL wn l) w1.heap.size 0 (w1.alloc (.map #[] 0))) := Lib.hid ⟨H1.out.keep (Below.ofNew _), ⟨_, World.ownsMap_made w1 Try.prog 3 heldR, MapS.nil _⟩, by have := H1.out.1.lt; omega⟩
      have hmm := @run_makeMap Try.prog
      have hlt1 := H1.out.1.lt
      have hne1 : w.heap.size ≠ w1.heap.size := by omega
      go_wp2_with fail
      clear p0 p1 p2 hmm H1 hlt1 hne1
      generalize w1.heap.size = b at *
      go_loopw [14] (fun i wr => ∃ k : Nat, i = .int .i64 k ∧ k ≤ T ∧ Hid (FlAt w T wn (.slice ad l.length c) (ordL wn l) b k wr)) (fun i _ => T - (intOf i).toNat)
      case atStart => exact ⟨0, rfl, Nat.zero_le _, H0⟩
      case round =>
        clear H0
        obtain ⟨k, rfl, hk, hH⟩ := hrel
        by_cases hlt : k < T
        · have b1 : (k : Int) < (T : Int) := by omega
          obtain ⟨p0, p1, p2, -, -, -⟩ := hH.out.1.1.three
          have hs := HST.out k wr hH.out.1.2
          rw [show (Value.agg #[.int .i64 (k : Int), .int .i64 (ptsL wn (gamesL l (k : Int))), .int .i64 (forL (gamesL l (k : Int))), .int .i64 (agL (gamesL l (k : Int)))]) = stV (ordL wn l) k from rfl] at hs
          have HS := Lib.hid hs; clear hs
          go_wp2_with fail
          refine HS.out.mono ?_; rintro e w3 ⟨rfl, b3⟩
          have HT := Lib.hid (And.intro (hH.out.1.keep b3) (And.intro hH.out.2.1 (And.intro b3 hH.out.2.2))); clear b3 HS p0 p1 p2
          obtain ⟨D, hD⟩ := HT.out.2.1
          have hD2 := owns_map hD.1 (HT.out.2.2.1.block b hD.1.lt)
          have HD := Lib.hid (And.intro hD2 hD.2); clear hD hD2 hH
          have HK := Lib.hid (keyT (t := (k : Int)) (by omega))
          go_wp2_with (at_mapUpdate; refine wpList_mapUpdate_own _ rfl _ _ _ 79 rfl 3 81 keysInt Try.underlying79 heldR b k D rfl HD.out.1 (by unfold maxLen; omega) (.int .i64 (k : Int)) (stV (ordL wn l) k) _ rfl rfl HK.out (.held (stV (ordL wn l) k)) [] rfl ?_; intro w4 hown4 hgrow4)
          have H4 : Hid (FlAt w T wn (.slice ad l.length c) (ordL wn l) b (k + 1) w4) := Lib.hid ⟨HT.out.1.block HT.out.2.2.2 hgrow4, ⟨_, hown4, by
            rw [upS_succ]
            exact HD.out.2.put (HD.out.1.tidy keysInt) (by omega) (fun hin => by have := (upS_mem k k).1 hin; omega)⟩, HT.out.2.2.2⟩
          clear hown4 hgrow4
          go_wp2_with fail
          go_roundw
          case rel => exact ⟨k + 1, by go_num, by omega, H4⟩
          case measure => simp [intOf]; omega
        · obtain rfl : T = k := by omega
          have H5 : Hid (TbAt w (ordL wn l) T b 0 (.slice none 0 0) wr) := Lib.hid ⟨by
            obtain ⟨D, h1, h2⟩ := hH.out.2.1
            exact ⟨D, h1, h2.same (fun t => by rw [List.drop_zero, upS_mem, Ord3.mem_tab]) (by rw [List.drop_zero, Ord3.tab_len]; simp [upS])⟩, hH.out.2.2, owns_nil _ _ _, hH.out.1.2⟩
          have hk : 0 < T := by omega
          clear hH hlt
          obtain ⟨k, hkz⟩ : ∃ k, k = 0 := ⟨0, rfl⟩
          rw [show TbAt w (ordL wn l) T b 0 (.slice none 0 0) wr = TbAt w (ordL wn l) T b k (.slice none 0 0) wr from by rw [hkz]] at H5
          rw [← hkz] at hk
          have HKZ := Lib.hid hkz; clear hkz
          by_cases hlast : k + 1 = T
          · have HLAST := Lib.hid hlast; clear hlast
            have HX := Lib.hid (fun (W2 W3 W4 : World) (v' : Value) (D : DataW Value) (x : Int) hx hm hs b2 hr3 hg hm4 ht => TbAt.more (w2 := W2) (w3 := W3) (w4 := W4) (v' := v') (D := D) (x := x) H5.out hk hx hm hs b2 hr3 hg hm4 ht)
            obtain ⟨r, e1, e2, hsd, hmem, hlen⟩ := (ordL wn l).tab_drop hk
            obtain ⟨D, hD⟩ := H5.out.1
            have hds := hD.2
            rw [e1] at hds
            have hfst := fun W hm => firstOf_any (ordL wn l) _ r hsd (HSM.out _ (fun y hy => by have := hmem y hy; omega)) D b T W hm hds
            obtain ⟨x, hx⟩ : ∃ x, x = ((ordL wn l).tab T).getD k 0 := ⟨_, rfl⟩
            rw [← hx] at hfst
            have HKX := Lib.hid (keyT (t := x) (by rw [hx]; have := hmem _ (List.mem_cons_self ..); omega))
            have HF := Lib.hid hfst
            have HD := Lib.hid (And.intro hD (And.intro hx hk))
            have HRW := Lib.hid H5.out.2.2
            clear hfst hD hds hx e1 e2 hsd hmem hlen
            go_wp2_with fail
            go_step3
            go_wp2_with fail
            refine (HF.out _ HD.out.1.1).mono ?_; rintro e w2 ⟨rfl, b2⟩
            have B2 := Lib.hid b2; clear b2
            go_wp2_with (at_builtin; refine wpList_append_own_at _ rfl _ _ 25 rfl w.heap.size 3 i0 (.int .i64 0) 1 8 Try.underlying25 HI.out.1 HI.out.2.1 HI.out.2.2.1 HI.out.2.2.2 rfl (by decide) _ _ _ rfl ((owns_below HRW.out.1 B2.out).alloc _) ⟨w2.heap.size, 0, none⟩ 1 1 [.int .i64 x] rfl rfl (cell_one_newT w2 _ _) ?_ ?_ ?_ ?_ ?_)
            · first | rfl | (intro u hu; simp at hu; subst hu; rfl)
            · unfold maxLen; omega
            · omega
            · have := HRW.out.2.size; have := B2.out.size; first | omega | (simp; omega)
            intro v' w3 hown3 hgrow _ _
            have HW3 := Lib.hid (And.intro hown3 hgrow); clear hown3 hgrow
            have HM3 := Lib.hid (map_grown (w0 := w) HD.out.1.1 HRW.out.1 B2.out HW3.out.2)
            have HSZ : Hid (T - (k + 1) = 0) := Lib.hid (by have := HLAST.out; omega)
            have HKT : Hid (k + 1 = T) := HLAST
            go_wp2_with (first
              | (at_delete; refine wpList_delete_own _ rfl _ _ 79 3 rfl 81 keysInt Try.underlying79 heldR b T D rfl HM3.out _ _ rfl HKX.out ?_; intro w4 hown4 hturn; have HT := Lib.hid (HX.out w2 w3 w4 v' D x HD.out.2.1 HD.out.1.1 HD.out.1.2 B2.out HW3.out.1 HW3.out.2 hown4 hturn); have hsz := HT.out.2; rw [HSZ.out] at hsz)
              | (at_len; refine wpList_len_own _ rfl _ 79 rfl 3 81 Try.underlying79 heldR b T (D.del (.int .i64 x)) rfl hown4 ?_)
              | go_in)
            simp only [Exit.jump]
            refine bodyPost_ret (v := .tuple #[v', .bool true]) (by simp [results, Try.results21, go_sem]) rfl ⟨_, rfl, ?_, HT.out.1.2.2.2⟩
            have := HT.out.1.2.2.1
            rw [HKT.out] at this
            rw [Ord3.tab_len]
            rw [List.take_of_length_le (by rw [Ord3.tab_len]; exact Nat.le_refl _)] at this
            exact this
          · have HLAST := Lib.hid hlast; clear hlast
            have HX := Lib.hid (fun (W2 W3 W4 : World) (v' : Value) (D : DataW Value) (x : Int) hx hm hs b2 hr3 hg hm4 ht => TbAt.more (w2 := W2) (w3 := W3) (w4 := W4) (v' := v') (D := D) (x := x) H5.out hk hx hm hs b2 hr3 hg hm4 ht)
            obtain ⟨r, e1, e2, hsd, hmem, hlen⟩ := (ordL wn l).tab_drop hk
            obtain ⟨D, hD⟩ := H5.out.1
            have hds := hD.2
            rw [e1] at hds
            have hfst := fun W hm => firstOf_any (ordL wn l) _ r hsd (HSM.out _ (fun y hy => by have := hmem y hy; omega)) D b T W hm hds
            obtain ⟨x, hx⟩ : ∃ x, x = ((ordL wn l).tab T).getD k 0 := ⟨_, rfl⟩
            rw [← hx] at hfst
            have HKX := Lib.hid (keyT (t := x) (by rw [hx]; have := hmem _ (List.mem_cons_self ..); omega))
            have HF := Lib.hid hfst
            have HD := Lib.hid (And.intro hD (And.intro hx hk))
            have HRW := Lib.hid H5.out.2.2
            clear hfst hD hds hx e1 e2 hsd hmem hlen
            go_wp2_with fail
            go_step3
            go_wp2_with fail
            refine (HF.out _ HD.out.1.1).mono ?_; rintro e w2 ⟨rfl, b2⟩
            have B2 := Lib.hid b2; clear b2
            go_wp2_with (at_builtin; refine wpList_append_own_at _ rfl _ _ 25 rfl w.heap.size 3 i0 (.int .i64 0) 1 8 Try.underlying25 HI.out.1 HI.out.2.1 HI.out.2.2.1 HI.out.2.2.2 rfl (by decide) _ _ _ rfl ((owns_below HRW.out.1 B2.out).alloc _) ⟨w2.heap.size, 0, none⟩ 1 1 [.int .i64 x] rfl rfl (cell_one_newT w2 _ _) ?_ ?_ ?_ ?_ ?_)
            · first | rfl | (intro u hu; simp at hu; subst hu; rfl)
            · unfold maxLen; omega
            · omega
            · have := HRW.out.2.size; have := B2.out.size; first | omega | (simp; omega)
            intro v' w3 hown3 hgrow _ _
            have HW3 := Lib.hid (And.intro hown3 hgrow); clear hown3 hgrow
            have HM3 := Lib.hid (map_grown (w0 := w) HD.out.1.1 HRW.out.1 B2.out HW3.out.2)
            obtain ⟨m, hm⟩ : ∃ m, T - (k + 1) = m + 1 := ⟨T - (k + 1) - 1, by have := HLAST.out; omega⟩
            have HSZ := Lib.hid hm; clear hm
            have HLT : Hid (k + 1 < T) := Lib.hid (by have := HLAST.out; omega)
            go_wp2_with (first
              | (at_delete; refine wpList_delete_own _ rfl _ _ 79 3 rfl 81 keysInt Try.underlying79 heldR b T D rfl HM3.out _ _ rfl HKX.out ?_; intro w4 hown4 hturn; have HT := Lib.hid (HX.out w2 w3 w4 v' D x HD.out.2.1 HD.out.1.1 HD.out.1.2 B2.out HW3.out.1 HW3.out.2 hown4 hturn); have hsz := HT.out.2; rw [HSZ.out] at hsz)
              | (at_len; refine wpList_len_own _ rfl _ 79 rfl 3 81 Try.underlying79 heldR b T (D.del (.int .i64 x)) rfl hown4 ?_)
              | go_in)
            go_step3
            exact ⟨rfl, b, k + 1, v', _, _, _, _, _, _, _, _, _, _, _, _, _, _, _, _, _, _, _, _, _, _, _, _, _, _, _, _, _, rfl, HLT.out, HT.out.1⟩
    · rintro a' wr ⟨b, k, v, u5, u7, u8, u9, u10, u11, u12, u13, u14, u15, u16, u17, u18, u19, u20, u21, u22, u23, u24, u25, u26, u27, u28, u29, u30, u31, u32, u33, u34, rfl, hk, H5⟩
      by_cases hlast : k + 1 = T
      · have HLAST := Lib.hid hlast; clear hlast
        have HX := Lib.hid (fun (W2 W3 W4 : World) (v' : Value) (D : DataW Value) (x : Int) hx hm hs b2 hr3 hg hm4 ht => TbAt.more (w2 := W2) (w3 := W3) (w4 := W4) (v' := v') (D := D) (x := x) H5.out hk hx hm hs b2 hr3 hg hm4 ht)
        obtain ⟨r, e1, e2, hsd, hmem, hlen⟩ := (ordL wn l).tab_drop hk
        obtain ⟨D, hD⟩ := H5.out.1
        have hds := hD.2
        rw [e1] at hds
        have hfst := fun W hm => firstOf_any (ordL wn l) _ r hsd (HSM.out _ (fun y hy => by have := hmem y hy; omega)) D b T W hm hds
        obtain ⟨x, hx⟩ : ∃ x, x = ((ordL wn l).tab T).getD k 0 := ⟨_, rfl⟩
        rw [← hx] at hfst
        have HKX := Lib.hid (keyT (t := x) (by rw [hx]; have := hmem _ (List.mem_cons_self ..); omega))
        have HF := Lib.hid hfst
        have HD := Lib.hid (And.intro hD (And.intro hx hk))
        have HRW := Lib.hid H5.out.2.2
        clear hfst hD hds hx e1 e2 hsd hmem hlen
        go_wp2_with fail
        refine (HF.out _ HD.out.1.1).mono ?_; rintro e w2 ⟨rfl, b2⟩
        have B2 := Lib.hid b2; clear b2
        go_wp2_with (at_builtin; refine wpList_append_own_at _ rfl _ _ 25 rfl w.heap.size 3 i0 (.int .i64 0) 1 8 Try.underlying25 HI.out.1 HI.out.2.1 HI.out.2.2.1 HI.out.2.2.2 rfl (by decide) _ _ _ rfl ((owns_below HRW.out.1 B2.out).alloc _) ⟨w2.heap.size, 0, none⟩ 1 1 [.int .i64 x] rfl rfl (cell_one_newT w2 _ _) ?_ ?_ ?_ ?_ ?_)
        · first | rfl | (intro u hu; simp at hu; subst hu; rfl)
        · unfold maxLen; omega
        · omega
        · have := HRW.out.2.size; have := B2.out.size; first | omega | (simp; omega)
        intro v' w3 hown3 hgrow _ _
        have HW3 := Lib.hid (And.intro hown3 hgrow); clear hown3 hgrow
        have HM3 := Lib.hid (map_grown (w0 := w) HD.out.1.1 HRW.out.1 B2.out HW3.out.2)
        have HSZ : Hid (T - (k + 1) = 0) := Lib.hid (by have := HLAST.out; omega)
        have HKT : Hid (k + 1 = T) := HLAST
        go_wp2_with (first
          | (at_delete; refine wpList_delete_own _ rfl _ _ 79 3 rfl 81 keysInt Try.underlying79 heldR b T D rfl HM3.out _ _ rfl HKX.out ?_; intro w4 hown4 hturn; have HT := Lib.hid (HX.out w2 w3 w4 v' D x HD.out.2.1 HD.out.1.1 HD.out.1.2 B2.out HW3.out.1 HW3.out.2 hown4 hturn); have hsz := HT.out.2; rw [HSZ.out] at hsz)
          | (at_len; refine wpList_len_own _ rfl _ 79 rfl 3 81 Try.underlying79 heldR b T (D.del (.int .i64 x)) rfl hown4 ?_)
          | go_in)
        simp only [Exit.jump]
        refine bodyPost_ret (v := .tuple #[v', .bool true]) (by simp [results, Try.results21, go_sem]) rfl ⟨_, rfl, ?_, HT.out.1.2.2.2⟩
        have := HT.out.1.2.2.1
        rw [HKT.out] at this
        rw [Ord3.tab_len]
        rw [List.take_of_length_le (by rw [Ord3.tab_len]; exact Nat.le_refl _)] at this
        exact this
      · have HLAST := Lib.hid hlast; clear hlast
        have HX := Lib.hid (fun (W2 W3 W4 : World) (v' : Value) (D : DataW Value) (x : Int) hx hm hs b2 hr3 hg hm4 ht => TbAt.more (w2 := W2) (w3 := W3) (w4 := W4) (v' := v') (D := D) (x := x) H5.out hk hx hm hs b2 hr3 hg hm4 ht)
        obtain ⟨r, e1, e2, hsd, hmem, hlen⟩ := (ordL wn l).tab_drop hk
        obtain ⟨D, hD⟩ := H5.out.1
        have hds := hD.2
        rw [e1] at hds
        have hfst := fun W hm => firstOf_any (ordL wn l) _ r hsd (HSM.out _ (fun y hy => by have := hmem y hy; omega)) D b T W hm hds
        obtain ⟨x, hx⟩ : ∃ x, x = ((ordL wn l).tab T).getD k 0 := ⟨_, rfl⟩
        rw [← hx] at hfst
        have HKX := Lib.hid (keyT (t := x) (by rw [hx]; have := hmem _ (List.mem_cons_self ..); omega))
        have HF := Lib.hid hfst
        have HD := Lib.hid (And.intro hD (And.intro hx hk))
        have HRW := Lib.hid H5.out.2.2
        clear hfst hD hds hx e1 e2 hsd hmem hlen
        go_wp2_with fail
        refine (HF.out _ HD.out.1.1).mono ?_; rintro e w2 ⟨rfl, b2⟩
        have B2 := Lib.hid b2; clear b2
        go_wp2_with (at_builtin; refine wpList_append_own_at _ rfl _ _ 25 rfl w.heap.size 3 i0 (.int .i64 0) 1 8 Try.underlying25 HI.out.1 HI.out.2.1 HI.out.2.2.1 HI.out.2.2.2 rfl (by decide) _ _ _ rfl ((owns_below HRW.out.1 B2.out).alloc _) ⟨w2.heap.size, 0, none⟩ 1 1 [.int .i64 x] rfl rfl (cell_one_newT w2 _ _) ?_ ?_ ?_ ?_ ?_)
        · first | rfl | (intro u hu; simp at hu; subst hu; rfl)
        · unfold maxLen; omega
        · omega
        · have := HRW.out.2.size; have := B2.out.size; first | omega | (simp; omega)
        intro v' w3 hown3 hgrow _ _
        have HW3 := Lib.hid (And.intro hown3 hgrow); clear hown3 hgrow
        have HM3 := Lib.hid (map_grown (w0 := w) HD.out.1.1 HRW.out.1 B2.out HW3.out.2)
        obtain ⟨m, hm⟩ : ∃ m, T - (k + 1) = m + 1 := ⟨T - (k + 1) - 1, by have := HLAST.out; omega⟩
        have HSZ := Lib.hid hm; clear hm
        have HLT : Hid (k + 1 < T) := Lib.hid (by have := HLAST.out; omega)
        go_wp2_with (first
          | (at_delete; refine wpList_delete_own _ rfl _ _ 79 3 rfl 81 keysInt Try.underlying79 heldR b T D rfl HM3.out _ _ rfl HKX.out ?_; intro w4 hown4 hturn; have HT := Lib.hid (HX.out w2 w3 w4 v' D x HD.out.2.1 HD.out.1.1 HD.out.1.2 B2.out HW3.out.1 HW3.out.2 hown4 hturn); have hsz := HT.out.2; rw [HSZ.out] at hsz)
          | (at_len; refine wpList_len_own _ rfl _ 79 rfl 3 81 Try.underlying79 heldR b T (D.del (.int .i64 x)) rfl hown4 ?_)
          | go_in)
        go_step3
        refine ⟨rfl, ⟨b, k + 1, v', _, _, _, _, _, _, _, _, _, _, _, _, _, _, _, _, _, _, _, _, _, _, _, _, _, _, _, _, _, rfl, HLT.out, HT.out.1⟩, ?_⟩
        have h1 := own_lenS HT.out.1.2.2.1
        have h2 := own_lenS HRW.out.1
        have h3 := HLT.out
        show T - lenS v' < T - lenS v
        rw [h1, h2]
        omega

end Go.Proofs.Ythbkclgdoopbpaa
