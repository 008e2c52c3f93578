/-
  Kinds out of a text: what is read, and the program.
-/
import Derived.Test.YtbgdngfjeikheaaDoorRtPieces
import Derived.Test.YtbgdngfjeikheaaDoorGoLawS
import Derived.Test.YtbgdngfjeikheaaDoorObAt
import Derived.Test.YtbgdngfjeikheaaDoorShelf
import Derived.Test.YtbgdngfjeikheaaDoorShelf2
namespace Go.Proofs.YtbgdngfjeikheaaDoor
open Go.RowKit
set_option linter.unusedVariables false
set_option linter.unusedSimpArgs false

/-- What strconv.Atoi hands back, whatever the text. -/
def atoiV (l : List UInt8) : Int := match Lib.atoiAll l with
  | .ok v => v
  | .«syntax» => 0
  | .range => Lib.atoiSat l
/-- What the library's variables hold. -/
structure Door (w : World) : Prop where
  m : ∃ m, w.cell? ⟨0, 0, none⟩ = some (.int .i64 m)
  s : ∃ ev, w.cell? ⟨4, 0, none⟩ = some ev ∧ (ev = .nilIface ∨ ∃ te pe, ev = .iface te pe)
  r : ∃ ev, w.cell? ⟨5, 0, none⟩ = some ev ∧ (ev = .nilIface ∨ ∃ te pe, ev = .iface te pe)
theorem Door.keep {w w' : World} (h : Door w) (hb : Below w.heap.size w w') : Door w' := by
  obtain ⟨⟨m, hm⟩, ⟨s, hs, hs2⟩, ⟨r, hr, hr2⟩⟩ := h
  exact ⟨⟨m, (hb.cell (Lib.lt_of_cell hm)).trans hm⟩, ⟨s, (hb.cell (Lib.lt_of_cell hs)).trans hs, hs2⟩, ⟨r, (hb.cell (Lib.lt_of_cell hr)).trans hr, hr2⟩⟩
theorem atoi_any (s : ByteArray) (hs : s.size ≤ 1048576) (w : World) (hd : Door w) :
    Calls Tryd.prog 119 #[.string s] w fun e w' => ∃ ev, e = .returned (.tuple #[.int .i64 (atoiV s.data.toList), ev]) ∧ Below w.heap.size w w' := by
  obtain ⟨_, ⟨es, hes, hes2⟩, ⟨er, her, her2⟩⟩ := hd
  cases h : Lib.atoiAll s.data.toList with
  | ok v =>
    have hv : atoiV s.data.toList = v := by simp [atoiV, h]
    rw [hv]
    refine (Tryd.strconv_Atoi_ok s (by omega) v h w).mono ?_
    rintro e w1 ⟨rfl, hw⟩
    refine ⟨_, rfl, ?_⟩
    rcases hw with rfl | ⟨t, rfl⟩
    · exact Below.refl _ _
    · exact Lib.bytesWorld_below _ _ _
  | «syntax» =>
    have hv : atoiV s.data.toList = 0 := by simp [atoiV, h]
    rw [hv]
    refine (Tryd.strconv_Atoi_syntax s (by omega) h es w hes hes2).mono ?_
    rintro e w1 ⟨N, rfl, -, -, hb⟩
    exact ⟨_, rfl, hb⟩
  | range =>
    have hv : atoiV s.data.toList = Lib.atoiSat s.data.toList := by simp [atoiV, h]
    rw [hv]
    refine (Tryd.strconv_Atoi_range s (by omega) h er w her her2).mono ?_
    rintro e w1 ⟨N, rfl, -, -, hb⟩
    exact ⟨_, rfl, hb⟩

/-! Plain: what both read, and when it leads back. -/
def pcs (s : ByteArray) : List ByteArray := cutS s 45 s.size 0
def ksP (s : ByteArray) : List Int := (pcs s).map fun p => atoiV p.data.toList
def ksM (s : ByteArray) : List Int := (pcs s).map fun p => readL p.data.toList
def okPk (s : ByteArray) : Bool := goodK (ksP s) && decide (textsK (ksP s) = s.data.toList)
def okMk (s : ByteArray) : Bool := decide (s.size ≤ 20) && (goodK (ksM s) && decide (textsK (ksM s) = s.data.toList))
def valPk (s : ByteArray) : List Int := if okPk s then ksP s else []
def valMk (s : ByteArray) : List Int := if okMk s then ksM s else []

theorem tx_facts : ∀ p : Nat, p ≤ 20 → 1 ≤ p → (45 : UInt8) ∉ numF 1 p ∧ atoiV (numF 1 p) = p ∧ readL (numF 1 p) = p := by decide +kernel
theorem txK_facts {p : Int} (h1 : 1 ≤ p) (h2 : p ≤ 20) : (45 : UInt8) ∉ txK p ∧ atoiV (txK p) = p ∧ readL (txK p) = p := by
  obtain ⟨n, rfl⟩ : ∃ n : Nat, p = n := ⟨p.toNat, by omega⟩
  exact tx_facts n (by omega) (by omega)
theorem cutL_join : ∀ (ps : List (List UInt8)), ps ≠ [] → (∀ p ∈ ps, (45 : UInt8) ∉ p) → cutL 45 (Lib.join ps [45]) = ps
  | [], h, _ => absurd rfl h
  | [p], _, h => by rw [Lib.join_one]; exact cutL_one p (h p (List.mem_cons_self ..))
  | p :: q :: r, _, h => by
    have ih := cutL_join (q :: r) (by simp) (fun x hx => h x (List.mem_cons_of_mem _ hx))
    have e : Lib.join (p :: q :: r) [45] = p ++ 45 :: Lib.join (q :: r) [45] := by
      rw [Lib.join_cons, Lib.join_cons]; simp [Lib.joinTail]
    rw [e, cutL_app p _ (h p (List.mem_cons_self ..)), ih]
theorem pcs_data (s : ByteArray) : (pcs s).map (fun p => p.data.toList) = cutL 45 s.data.toList := by
  have h := cutS_cutL s 45 s.size 0 (Nat.le_refl _) (by omega) (by simp)
  rw [List.drop_zero] at h; exact h
theorem both_read {s : ByteArray} {ks : List Int} (hg : goodK ks = true) (ht : s.data.toList = textsK ks) : ksP s = ks ∧ ksM s = ks := by
  have hm := good_mem hg
  have hl := good_len hg
  have hd := pcs_data s
  rw [ht, textsK, cutL_join _ (by intro e; have := congrArg List.length e; simp at this; rw [this] at hl; simp at hl) (fun p hp => by
    obtain ⟨x, hx, rfl⟩ := List.mem_map.1 hp
    exact (txK_facts (hm x hx).1 (hm x hx).2).1)] at hd
  have e1 : ksP s = ((pcs s).map (fun p => p.data.toList)).map atoiV := by unfold ksP; rw [List.map_map]; rfl
  have e2 : ksM s = ((pcs s).map (fun p => p.data.toList)).map readL := by unfold ksM; rw [List.map_map]; rfl
  rw [e1, e2, hd, List.map_map, List.map_map]
  constructor
  · conv => rhs; rw [← List.map_id ks]
    exact List.map_congr_left fun x hx => (txK_facts (hm x hx).1 (hm x hx).2).2.1
  · conv => rhs; rw [← List.map_id ks]
    exact List.map_congr_left fun x hx => (txK_facts (hm x hx).1 (hm x hx).2).2.2
theorem ways_pk (s : ByteArray) : okMk s = okPk s ∧ valMk s = valPk s := by
  have key : (okMk s = true ∨ okPk s = true) → okMk s = true ∧ okPk s = true ∧ ksM s = ksP s := by
    intro h
    obtain ⟨ks, hg, ht⟩ : ∃ ks, goodK ks = true ∧ s.data.toList = textsK ks := by
      rcases h with h | h
      · simp only [okMk, Bool.and_eq_true, decide_eq_true_eq] at h
        exact ⟨_, h.2.1, h.2.2.symm⟩
      · simp only [okPk, Bool.and_eq_true, decide_eq_true_eq] at h
        exact ⟨_, h.1, h.2.symm⟩
    obtain ⟨e1, e2⟩ := both_read hg ht
    have hsz : s.size ≤ 20 := by
      have h1 := textsK_len (l := ks) ks.length (Nat.le_refl _)
      rw [List.take_length, ← ht] at h1
      have h2 := (good_len hg).2
      have h3 : s.data.toList.length = s.size := by simp
      omega
    exact ⟨by simp [okMk, e2, hg, ht, hsz], by simp [okPk, e1, hg, ht], by rw [e1, e2]⟩
  by_cases h : okMk s = true ∨ okPk s = true
  · obtain ⟨h1, h2, h3⟩ := key h
    exact ⟨by rw [h1, h2], by unfold valMk valPk; rw [h1, h2, h3]⟩
  · have h1 : okMk s = false := by cases e : okMk s <;> simp_all
    have h2 : okPk s = false := by cases e : okPk s <;> simp_all
    exact ⟨by rw [h1, h2], by unfold valMk valPk; rw [h1, h2]; rfl⟩
theorem valPk_len (s : ByteArray) : (valPk s).length ≤ 5 := by
  unfold valPk
  cases h : okPk s
  · simp
  · rw [if_pos rfl]
    simp only [okPk, Bool.and_eq_true, decide_eq_true_eq] at h
    exact (good_len h.1).2

theorem pk_snoc (l : List Int) (x : Int) : ints l ++ [.int .i64 x] = ints (l ++ [x]) := by simp [ints]
theorem pk_grown {B : Nat} {w w2 w3 : World} {T : TypeId} {v : Value} {n : Nat} {xs : List Value} {x : Value} (h : w2.ownsRow B T 1 v n xs) (hb : B ≤ w2.heap.size) (hbel : Below B w w2) (t : TypeId) (hg : (w2.alloc (.cells #[x] t)).grownBy w3 v.ownBlock) : Below B w w3 :=
  (hbel.alloc hb _).grown hg (by simp; omega) (fun g hg => by
    obtain ⟨_, h | ⟨g', cap, cur, hv, hb', _⟩⟩ := h
    · rw [h.1] at hg; cases hg
    · rw [hv] at hg; simp [Value.ownBlock] at hg; omega)
theorem pk_base {B C : Nat} {e : TypeId} {k : Nat} {v : Value} {n : Nat} {xs : List Value} {w : World} (h : w.ownsRow B e k v n xs) (hb : C ≤ B) : w.ownsRow C e k v n xs := by
  obtain ⟨h1, h2⟩ := h
  refine ⟨h1, ?_⟩
  rcases h2 with h2 | ⟨g, cap, cur, hv, hg, hh, r⟩
  · exact Or.inl h2
  · exact Or.inr ⟨g, cap, cur, hv, Nat.le_trans hb hg, hh, r⟩
/-- The numbers of the first k pieces. -/
def PkAt (B : Nat) (w : World) (f : ByteArray → Int) (ps : List ByteArray) (k : Nat) (v : Value) (wr : World) : Prop := wr.ownsRow B 3 1 v k (ints ((ps.take k).map f)) ∧ Below B w wr
theorem pk_step (f : ByteArray → Int) (ps : List ByteArray) (k : Nat) (h : k < ps.length) : (ps.take (k + 1)).map f = (ps.take k).map f ++ [f ps[k]] := by
  rw [List.take_succ_eq_append_getElem h, List.map_append]; rfl
theorem eq_listPk (T : List UInt8) (s : ByteArray) : ((⟨T.toArray⟩ : ByteArray).toList == s.toList) = decide (T = s.data.toList) := by
  rw [Bool.eq_iff_iff]; simp only [beq_iff_eq, decide_eq_true_eq]
  have e1 : ∀ b : ByteArray, b.toList = b.data.toList := fun b => ByteArray.toList_eq b
  rw [e1, e1]
theorem cutP_size (s : ByteArray) (b : UInt8) : ∀ n f, ∀ p ∈ cutS s b n f, p.size ≤ s.size
  | 0, f, p, hp => by
    simp only [cutS, List.mem_singleton] at hp; subst hp; rw [ByteArray.size_extract]; omega
  | n + 1, f, p, hp => by
    unfold cutS at hp
    split at hp
    · rcases List.mem_cons.1 hp with rfl | h
      · rw [ByteArray.size_extract]; omega
      · exact cutP_size s b n _ p h
    · exact cutP_size s b n _ p hp
theorem cutP_len (s : ByteArray) (b : UInt8) : ∀ n f, (cutS s b n f).length ≤ n + 1
  | 0, f => by simp [cutS]
  | n + 1, f => by
    unfold cutS
    split
    · have := cutP_len s b n (s.size - (n + 1) + 1); simp; omega
    · have := cutP_len s b n f; omega

set_option maxHeartbeats 800000 in
theorem readNumK_any (s : ByteArray) (hs : s.size ≤ 1048576) (w : World) (hd : Door w) :
    Calls Tryd.prog 71 #[.string s] w fun e w' => e = .returned (.int .i64 (atoiV s.data.toList)) ∧ Below w.heap.size w w' := by
  have HC := Lib.hid (atoi_any s hs w hd); clear hd
  generalize atoiV s.data.toList = x at *
  go_enter Tryd.func71, Tryd.ntmps71
  go_wp2_with fail
  refine HC.out.mono ?_; rintro e w1 ⟨ev, rfl, hb⟩
  have HB := Lib.hid hb; clear hb HC
  go_wp2_with fail
  go_ret
  exact ⟨rfl, HB.out⟩

/-- What the program reads: none from no text. -/
def ksI (s : ByteArray) : List Int := if s.size = 0 then [] else ksP s
set_option maxHeartbeats 1600000 in
set_option maxRecDepth 100000 in
theorem readInts_any (s : ByteArray) (hs : s.size ≤ 1048576) (w : World) (hd : Door w) :
    Calls Tryd.prog 92 #[.string s, .string ⟨#[45]⟩, .func (.func 71) #[] #[]] w fun e w' => ∃ a c, e = .returned (.slice a (ksI s).length c) ∧ w'.ownsRow w.heap.size 3 1 (.slice a (ksI s).length c) (ksI s).length (ints (ksI s)) ∧ Below w.heap.size w w' := by
  by_cases hz : s.size = 0
  · have e1 : ksI s = [] := by unfold ksI; rw [if_pos hz]
    rw [e1]
    have hY : s.toList.isEmpty = true := by
      rw [ByteArray.toList_eq]
      have : s.data.toList.length = 0 := by simpa using hz
      rw [List.eq_nil_of_length_eq_zero this]; rfl
    clear hz e1
    go_enter Tryd.func92, Tryd.ntmps92
    go_wp2_with fail
    go_ret
    exact ⟨none, 0, rfl, owns_nil _ _ _, Below.refl _ _⟩
  · have hY : s.toList.isEmpty = false := by
      rw [ByteArray.toList_eq]
      cases h : s.data.toList with
      | nil => exfalso; apply hz; have := congrArg List.length h; simpa using this
      | cons c r => rfl
    obtain ⟨m, hm⟩ := hd.m
    have hsp := Tryd.strings_Split s ⟨#[45]⟩ m w (by omega) hm (by decide)
    have hcnt : (Lib.splitB ⟨#[45]⟩ 0 (Lib.countB s ⟨#[45]⟩) s).length = Lib.countB s ⟨#[45]⟩ + 1 := Lib.splitB_all ⟨#[45]⟩ (by decide) 0 _ s rfl
    rw [← hcnt, pieces_same s 45] at hsp
    have hps := fun p (hp : p ∈ pcs s) => cutP_size s 45 s.size 0 p hp
    have hpl := cutP_len s 45 s.size 0
    change (pcs s).length ≤ _ at hpl
    change Calls _ _ _ _ (fun e w' => e = .returned (.slice (some ⟨w.heap.size, 0, none⟩) (pcs s).length (pcs s).length) ∧ w' = w.alloc (.cells ((pcs s).map Value.string).toArray _)) at hsp
    have hks : ksI s = (pcs s).map fun p => atoiV p.data.toList := by unfold ksI; rw [if_neg hz]; rfl
    rw [hks]
    generalize pcs s = ps at *
    have HAT := Lib.hid (fun p (hp : p ∈ ps) w hd => readNumK_any p (by have := hps p hp; omega) w hd)
    have HSP := Lib.hid hsp
    have HDD := Lib.hid (hd.keep (Below.ofNew (w := w) (.cells (ps.map Value.string).toArray 9)))
    have HC := Lib.hid (And.intro (ObAt.new w 9 (ps.map Value.string).toArray) (Below.ofNew (w := w) (.cells (ps.map Value.string).toArray 9)))
    have hpn : (ps.length : Int) ≤ 1048577 := by omega
    clear hsp hks hd hm hps hpl hcnt hz
    obtain ⟨i0, hi, hz0, hz1, hz2⟩ := info_parts infoInt
    have HI := Lib.hid (And.intro hi (And.intro hz0 (And.intro hz1 hz2))); clear hi hz0 hz1 hz2
    go_enter Tryd.func92, Tryd.ntmps92
    go_wp2_with fail
    refine HSP.out.mono ?_; rintro e w1 ⟨rfl, hw1⟩
    rw [← hw1] at HDD HC
    clear hw1 HSP
    have hbW := HC.out.2.size
    have H0 : Hid (PkAt w1.heap.size w1 (fun p => atoiV p.data.toList) ps 0 (.slice none 0 0) w1) := ⟨⟨rfl, .inl ⟨rfl, rfl⟩⟩, Below.refl _ _⟩
    go_wp2_with fail
    clear hY
    go_loopw [7, 16] (fun v i wr => ∃ k : Nat, i = .int .i64 k ∧ k ≤ ps.length ∧ Hid (PkAt w1.heap.size w1 (fun p => atoiV p.data.toList) ps k v wr)) (fun _ i _ => ps.length - (intOf i).toNat)
    case atStart => exact ⟨0, rfl, Nat.zero_le _, H0⟩
    case round =>
      clear H0
      obtain ⟨k, rfl, hk, hH⟩ := hrel
      by_cases hlt : k < ps.length
      · have hb : (k : Int) < (ps.length : Int) := by omega
        have c0 := (HC.out.1.keep hH.out.2).cell k
        rw [show (ps.map Value.string).toArray[k]? = some (.string ps[k]) from by simp [hlt]] at c0
        have hst : (ps.take (k + 1)).map (fun p => atoiV p.data.toList) = (ps.take k).map (fun p => atoiV p.data.toList) ++ [atoiV (ps[k]).data.toList] := pk_step (fun p => atoiV p.data.toList) ps k hlt
        have HS := Lib.hid hst; clear hst
        have hat := fun w hd => HAT.out ps[k] (List.getElem_mem hlt) w hd
        generalize ps[k] = p at *
        have HA := Lib.hid hat; clear hat
        have HDr := Lib.hid (HDD.out.keep hH.out.2)
        generalize atoiV p.data.toList = x at *
        go_wp2_with fail
        refine (HA.out _ HDr.out).mono ?_; rintro e w2 ⟨rfl, b2⟩
        have hO := Lib.hid (And.intro (owns_below hH.out.1 b2) (hH.out.2.trans (b2.mono hH.out.2.size)))
        have hbs := hO.out.2.size
        have HN := Lib.hid (cell_one_new w2 (.int .i64 x) 3)
        clear b2 c0 hH HDr
        go_wp2_with (at_builtin; refine wpList_append_own_at _ rfl _ _ 54 rfl w1.heap.size 3 i0 (.int .i64 0) 1 8 Tryd.underlying54 HI.out.1 HI.out.2.1 HI.out.2.2.1 HI.out.2.2.2 rfl (by decide) _ _ _ rfl (hO.out.1.alloc _) ⟨w2.heap.size, 0, none⟩ 1 1 [.int .i64 x] rfl rfl HN.out ?_ ?_ ?_ ?_ ?_)
        · intro u hu; simp at hu; subst hu; rfl
        · unfold maxLen; omega
        · omega
        · simp; omega
        intro v' w3 hown3 hgrow _ _
        have hbel3 := pk_grown hO.out.1 hbs hO.out.2 _ hgrow
        rw [pk_snoc] at hown3
        have H3 : Hid (PkAt w1.heap.size w1 (fun p => atoiV p.data.toList) ps (k + 1) v' w3) := ⟨by rw [HS.out]; first | exact hown3 | (rw [List.map_take]; exact hown3), hbel3⟩
        clear hown3 hgrow hbel3
        go_wp2_with fail
        go_roundw
        case rel => exact ⟨k + 1, by go_num, by omega, H3⟩
        case measure => simp [intOf]; omega
      · obtain rfl : k = ps.length := by omega
        have ho := hH.out.1
        have hob := hH.out.2
        rw [List.take_length] at ho
        have hl : (ps.map fun p => atoiV p.data.toList).length = ps.length := by simp
        rw [← hl] at ho
        obtain ⟨a, c, rfl, hrd, -, -, -⟩ := Reads.own ho
        have HO := Lib.hid (And.intro (pk_base ho hbW) (HC.out.2.trans (hob.mono hbW))); clear ho hob hH hrd
        go_wp2_with fail
        go_ret
        exact ⟨a, c, rfl, HO.out⟩

theorem ways_pkI (s : ByteArray) (hs : s.size ≤ 1048576) : okPk s = (goodK (ksI s) && decide (textsK (ksI s) = s.data.toList)) ∧ valPk s = if okPk s then ksI s else [] := by
  unfold ksI
  by_cases hz : s.size = 0
  · rw [if_pos hz]
    have hs0 : s = ⟨#[]⟩ := by
      have h2 : s.data.toList.length = 0 := by simpa using hz
      have h3 := List.eq_nil_of_length_eq_zero h2
      obtain ⟨d⟩ := s
      obtain ⟨l⟩ := d
      simp at h3; subst h3; rfl
    subst hs0
    have h1 : okPk ⟨#[]⟩ = false := by decide +kernel
    unfold valPk
    rw [h1]; exact ⟨rfl, rfl⟩
  · rw [if_neg hz]; exact ⟨rfl, rfl⟩

set_option maxHeartbeats 1600000 in
set_option maxRecDepth 100000 in
theorem implParseKinds_any (s : ByteArray) (hs : s.size ≤ 1048576) (w : World) (hd : Door w) :
    Calls Tryd.prog 34 #[.string s] w fun e w' => RowR (valPk s) (okPk s) w e w' := by
  obtain ⟨hok, hv⟩ := ways_pkI s hs
  have HR0 := Lib.hid (readInts_any s hs w hd); clear hd
  have hlen : ((ksI s).length : Int) ≤ 1048577 := by
    unfold ksI; split
    · simp
    · have := cutP_len s 45 s.size 0
      unfold ksP; rw [List.length_map]; unfold pcs; omega
  generalize okPk s = o at *
  generalize valPk s = V at *
  generalize ksI s = ks at *
  have HKT := Lib.hid (fun a c w h => implKT_any ks a c w (by omega) h)
  have HVO := Lib.hid (And.intro hv hok)
  clear hv hok
  go_enter Tryd.func34, Tryd.ntmps34
  go_wp2_with fail
  refine HR0.out.mono ?_; rintro e wr ⟨a, c, rfl, ho, hob⟩
  obtain ⟨a', c', ev, hrd, -, -, -⟩ := Reads.own ho
  injection ev with ev1 ev2 ev3
  subst ev1 ev3
  clear ev2
  have HO := Lib.hid (And.intro ho hob); clear ho hob HR0
  have HR := Lib.hid hrd; clear hrd
  have hbs := HO.out.2.size
  have hkt := fun w h => HKT.out a c w h
  cases hg : goodK ks
  · have e1 : textKV ks = ⟨#[]⟩ := by simp [textKV, hg]
    rw [hg, e1] at hkt
    have HT := Lib.hid hkt
    have HF : Hid (V = [] ∧ o = false) := by
      have ho : o = false := by rw [HVO.out.2, hg]; rfl
      exact ⟨by rw [HVO.out.1, ho]; rfl, ho⟩
    clear hkt hg e1
    go_wp2_with fail
    refine (HT.out _ HR.out).mono ?_; rintro e w4 ⟨rfl, b4⟩
    have HB4 := Lib.hid (HO.out.2.trans (b4.mono hbs)); clear b4
    go_wp2_with fail
    refine bodyPost_ret (v := .tuple #[.slice none 0 0, .bool false]) (by simp [results, Tryd.results34, go_sem]) rfl ?_
    rw [HF.out.1, HF.out.2]
    exact ⟨_, rfl, owns_nil _ _ _, HB4.out⟩
  · have e1 : textKV ks = ⟨(textsK ks).toArray⟩ := by simp [textKV, hg]
    rw [hg, e1] at hkt
    have hq := eq_listPk (textsK ks) s
    by_cases ht : textsK ks = s.data.toList
    · rw [decide_eq_true ht] at hq
      have HF : Hid (V = ks ∧ o = true) := by
        have ho : o = true := by rw [HVO.out.2, hg, ht]; simp
        exact ⟨by rw [HVO.out.1, ho]; rfl, ho⟩
      generalize (⟨(textsK ks).toArray⟩ : ByteArray) = T at *
      have HT := Lib.hid hkt
      clear hkt hg e1 ht
      go_wp2_with fail
      refine (HT.out _ HR.out).mono ?_; rintro e w4 ⟨rfl, b4⟩
      have HB4 := Lib.hid (And.intro (HO.out.2.trans (b4.mono hbs)) (owns_below HO.out.1 b4)); clear b4
      go_wp2_with fail
      refine bodyPost_ret (v := .tuple #[.slice a ks.length c, .bool true]) (by simp [results, Tryd.results34, go_sem]) rfl ?_
      rw [HF.out.1, HF.out.2]
      exact ⟨_, rfl, HB4.out.2, HB4.out.1⟩
    · rw [decide_eq_false ht] at hq
      have HF : Hid (V = [] ∧ o = false) := by
        have ho : o = false := by rw [HVO.out.2, hg, decide_eq_false ht]; rfl
        exact ⟨by rw [HVO.out.1, ho]; rfl, ho⟩
      generalize (⟨(textsK ks).toArray⟩ : ByteArray) = T at *
      have HT := Lib.hid hkt
      clear hkt hg e1 ht
      go_wp2_with fail
      refine (HT.out _ HR.out).mono ?_; rintro e w4 ⟨rfl, b4⟩
      have HB4 := Lib.hid (HO.out.2.trans (b4.mono hbs)); clear b4
      go_wp2_with fail
      refine bodyPost_ret (v := .tuple #[.slice none 0 0, .bool false]) (by simp [results, Tryd.results34, go_sem]) rfl ?_
      rw [HF.out.1, HF.out.2]
      exact ⟨_, rfl, owns_nil _ _ _, HB4.out⟩
end Go.Proofs.YtbgdngfjeikheaaDoor
