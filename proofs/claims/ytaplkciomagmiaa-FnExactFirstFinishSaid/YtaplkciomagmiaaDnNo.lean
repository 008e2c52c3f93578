/-
  Darts: NoFinishes: both sides.
-/
import Derived.Test.YtaplkciomagmiaaDnCan
namespace Go.Proofs.Ytaplkciomagmiaa
open Go.RowKit
set_option linter.unusedVariables false
set_option linter.unusedSimpArgs false

theorem ints_snoc (l : List Int) (x : Int) : ints l ++ [.int .i64 x] = ints (l ++ [x]) := by simp [ints]
theorem add_zero_addr (b : Nat) (j : Nat) : (⟨b, 0, none⟩ : Addr).add j = ⟨b, j, none⟩ := by unfold Addr.add; split <;> simp_all
theorem owns_base {w : World} {B B' T n size : Nat} {v : Value} {xs : List Value} (h : w.ownsRow B' T size v n xs) (hb : B ≤ B') : w.ownsRow B T size v n xs := by
  obtain ⟨hl, ⟨rfl, h2⟩ | ⟨g', cap, cur, rfl, hbb, r⟩⟩ := h
  · exact ⟨hl, .inl ⟨rfl, h2⟩⟩
  · exact ⟨hl, .inr ⟨g', cap, cur, rfl, Nat.le_trans hb hbb, r⟩⟩
/-- What a function hands back whose results are a row of its own and a bool. -/
def RowR (L : List Int) (o : Bool) (w : World) (e : Ending) (w' : World) : Prop :=
  ∃ v, e = .returned (.tuple #[v, .bool o]) ∧ w'.ownsRow w.heap.size 3 1 v L.length (ints L) ∧ Below w.heap.size w w'
theorem owns_nil (w : World) (B : Nat) (T : TypeId) : w.ownsRow B T 1 (.slice none 0 0) 0 (ints []) := ⟨rfl, .inl ⟨rfl, rfl⟩⟩
/-- No finish with at most d darts: of 2 up to k + 1. -/
def noL (d : Nat) : Nat → List Int
  | 0 => []
  | k + 1 => noL d k ++ if canB ((k + 2 : Nat) : Int) d = true then [] else [((k + 2 : Nat) : Int)]
theorem noL_at (d : Nat) {p : Nat} (h : 2 ≤ p) : noL d (p + 1 - 2) = noL d (p - 2) ++ if canB (p : Int) d = true then [] else [(p : Int)] := by
  obtain ⟨k, rfl⟩ : ∃ k, p = k + 2 := ⟨p - 2, by omega⟩
  rw [show k + 2 + 1 - 2 = k + 1 by omega, show k + 2 - 2 = k by omega]
  rfl
theorem noL_len (d : Nat) : ∀ k, (noL d k).length ≤ k
  | 0 => Nat.le_refl _
  | k + 1 => by
    have := noL_len d k
    unfold noL
    rw [List.length_append]
    split <;> simp <;> omega
def noR (a b : Int) : List Int := if askB a b = true then noL b.toNat (a.toNat - 1) else []
theorem noR_len (a b : Int) : (noR a b).length ≤ 1001 := by
  unfold noR
  split
  · rename_i h
    obtain ⟨n, d, rfl, rfl, hn, _, _⟩ := askB_nat h
    have := noL_len (d : Int).toNat ((n : Int).toNat - 1)
    omega
  · simp
def NoW (W : World) (L : List Int) (v : Value) (wr : World) : Prop := wr.ownsRow W.heap.size 3 1 v L.length (ints L) ∧ Below W.heap.size W wr
/-- The program's table under a name. -/
def fewLs0 : { l : List Int // l = fewT 1002 } := ⟨_, rfl⟩
def fewLs : List Int := fewLs0.1
theorem fewLs_is : fewLs = fewT 1002 := fewLs0.2
theorem fewLs_len : fewLs.length = 1002 := by rw [fewLs_is, fewT_len]
theorem fewLs_get {n : Nat} (h : n ≤ 1001) : fewLs.getD n 0 = fewN n := by rw [fewLs_is, fewT_at 1002 n (by omega)]
theorem fewA_list : fewA = (ints fewLs).toArray := by rw [fewA_is, fewLs_is]
theorem canB_not {n d : Nat} (hn : 2 ≤ n) : canB n d = decide (fewN n ≤ d) := by
  rw [canB_few, decide_eq_true (fewN_pos n hn), Bool.true_and]

/-- A block of values of its own. -/
def ValsAt (w : World) (g : Nat) (e : TypeId) (vs : List Value) : Prop := w.heap[g]? = some (.cells vs.toArray e (0, 0))
theorem ValsAt.lt {w : World} {g : Nat} {e : TypeId} {vs : List Value} (h : ValsAt w g e vs) : g < w.heap.size := (Array.getElem?_eq_some_iff.1 h).1
theorem ValsAt.free {w : World} {g : Nat} {e : TypeId} {vs : List Value} (h : ValsAt w g e vs) (j : Nat) : w.frozen? ⟨g, j, none⟩ = false := frozen_of_row w g j _ e h
theorem ValsAt.put {w : World} {g : Nat} {e : TypeId} {vs : List Value} (h : ValsAt w g e vs) (j : Nat) (x : Value) : ValsAt (w.setCell ⟨g, j, none⟩ x) g e (vs.set j x) := by
  unfold ValsAt at h ⊢
  have hs : g < w.heap.size := (Array.getElem?_eq_some_iff.1 h).1
  have hv : w.heap[g] = .cells vs.toArray e (0, 0) := (Array.getElem?_eq_some_iff.1 h).2
  simp only [World.setCell]
  rw [Array.getElem?_eq_getElem (by simpa using hs), Array.getElem_modify_self, hv]
  simp
theorem ValsAt.keep {w w' : World} {g : Nat} {e : TypeId} {vs : List Value} (h : ValsAt w g e vs) (hb : Below w.heap.size w w') : ValsAt w' g e vs := by
  have hl := h.lt
  unfold ValsAt at h ⊢
  rw [hb.block g hl]; exact h
theorem ValsAt.old {w w' : World} {g B : Nat} {e : TypeId} {vs : List Value} (h : ValsAt w g e vs) (hb : Below B w w') (hg : g < B) : ValsAt w' g e vs := by
  unfold ValsAt at h ⊢
  rw [hb.block g hg]; exact h
theorem RowAt.old2 {w w' : World} {g B : Nat} {e : TypeId} {cs : List Int} (h : RowAt w g e cs) (hb : Below B w w') (hg : g < B) : RowAt w' g e cs := by
  unfold RowAt at h ⊢
  rw [hb.block g hg]; exact h
theorem ValsAt.made {w : World} {g base n : Nat} {e : TypeId} {z : Value} (h : w.ownsRow base e 1 (.slice (some ⟨g, 0, none⟩) n n) n (madeCells #[z] n).toList) : ValsAt w g e (List.replicate n z) ∧ base ≤ g := by
  obtain ⟨hl, h | ⟨g', cap, cur, hv, hg, hh, hn, hcap, hcs, htk⟩⟩ := h
  · exact absurd h.1 (by simp)
  · cases hv
    refine ⟨?_, hg⟩
    unfold ValsAt
    rw [hh]
    rw [toList_madeCells_one, List.take_of_length_le (by simp [hcs])] at htk
    have : cur = (List.replicate n z).toArray := by
      apply Array.toList_inj.1
      rw [htk]
    rw [this]
/-- Bools by their number. -/
def boolL (f : Nat → Bool) : List Value := (List.range 1002).map fun i => .bool (f i)
theorem boolL_get (f : Nat → Bool) {i : Nat} (h : i < 1002) : (boolL f)[i]? = some (.bool (f i)) := by simp [boolL, h]
theorem boolL_set {f h : Nat → Bool} {c : Nat} (x : Bool) (hc : c < 1002) (hx : h c = x) (ho : ∀ i, i ≠ c → h i = f i) : (boolL f).set c (.bool x) = boolL h := by
  apply List.ext_getElem
  · simp [boolL]
  · intro i h1 h2
    rw [List.getElem_set]
    simp only [boolL, List.getElem_map, List.getElem_range]
    by_cases q : c = i
    · subst q; rw [if_pos rfl, hx]
    · rw [if_neg q, ho i (fun e => q e.symm)]
theorem boolL_none : List.replicate 1002 (Value.bool false) = boolL fun _ => false := by
  apply List.ext_getElem
  · simp only [List.length_replicate, boolL, List.length_map, List.length_range]
  · intro i h1 h2; simp only [List.getElem_replicate, boolL, List.getElem_map]
theorem ValsAt.bool {w : World} {g i : Nat} {f : Nat → Bool} (h : ValsAt w g 4 (boolL f)) (hi : i < 1002) : w.cell? ⟨g, i, none⟩ = some (.bool (f i)) := by
  rw [cell_of_row w g i _ _ _ h, List.getElem?_toArray, boolL_get f hi]
theorem infoBool : (Try.prog.info? 4).map (fun i => (i.zero, i.size, i.bytes)) = some (some (.bool false), 1, 1) := by kernel_rfl

set_option maxRecDepth 10000 in
set_option maxHeartbeats 6400000 in
theorem implNoFinishes_any (a b : Int) (w : World) :
    Calls Try.prog 18 #[.int .i64 a, .int .i64 b] w fun e w' => RowR (noR a b) (askB a b) w e w' := by
  cases h1 : inR a 0 1001
  · have e2 : askB a b = false := by simp [askB, h1]
    have e1 : noR a b = [] := by simp [noR, e2]
    rw [e1, e2]
    have H1 := Lib.hid h1; clear h1 e1 e2
    go_enter Try.func18, Try.ntmps18
    go_wp2_with fail
    refine (isLeft_any _ _).mono ?_; rintro e w1 ⟨rfl, rfl⟩
    rw [H1.out]
    go_wp2_with fail
    go_ret2
    exact ⟨_, rfl, owns_nil _ _ _, Below.refl _ _⟩
  · cases h2 : inR b 1 3
    · have e2 : askB a b = false := by simp [askB, h2]
      have e1 : noR a b = [] := by simp [noR, e2]
      rw [e1, e2]
      have H1 := Lib.hid h1; clear h1 e1 e2
      have H2 := Lib.hid h2; clear h2
      go_enter Try.func18, Try.ntmps18
      go_wp2_with fail
      refine (isLeft_any _ _).mono ?_; rintro e w1 ⟨rfl, rfl⟩
      rw [H1.out]
      go_wp2_with fail
      refine (isDartCount_any _ _).mono ?_; rintro e w1 ⟨rfl, rfl⟩
      rw [H2.out]
      go_wp2_with fail
      go_ret2
      exact ⟨_, rfl, owns_nil _ _ _, Below.refl _ _⟩
    · have e2 : askB a b = true := by simp [askB, h1, h2]
      obtain ⟨n, d, rfl, rfl, hn, hd1, hd3⟩ := askB_nat e2
      obtain ⟨R, hR⟩ : ∃ R, R = noL d (n - 1) := ⟨_, rfl⟩
      have e1 : noR n d = R := by rw [hR]; simp [noR, e2]
      rw [e1, e2]
      have H1 := Lib.hid h1; clear h1 e1 e2
      have H2 := Lib.hid h2; clear h2
      have HR := Lib.hid hR; clear hR
      obtain ⟨i0, hi, hz0, hz1, hz2⟩ := info_parts infoInt
      have HI := Lib.hid (And.intro hi (And.intro hz0 (And.intro hz1 hz2))); clear hi hz0 hz1 hz2
      have HZ : Hid (Try.zeroCells47.size = fewA.size ∧ (Try.prog.info? 47).map (·.size) = some fewA.size ∧ fewA.all (·.oneCell') = true) := Lib.hid ⟨by rw [fewA_size]; exact Try.zeroCells47_size, by rw [fewA_size]; exact info1002, by rw [fewA_is]; exact ints_flat _⟩
      have hfew := Lib.hid fewest_all
      go_enter Try.func18, Try.ntmps18
      go_wp2_with fail
      refine (isLeft_any _ _).mono ?_; rintro e w1 ⟨rfl, rfl⟩
      rw [H1.out]
      go_wp2_with fail
      refine (isDartCount_any _ _).mono ?_; rintro e w1 ⟨rfl, rfl⟩
      rw [H2.out]
      go_wp2_with fail
      refine (hfew.out _).mono ?_; rintro e w1 ⟨rfl, b1⟩
      go_wp2_with (refine wpList_store_row rfl 47 _ _ rfl _ fewA rfl rfl _ _ (heap_alloc_last _ _) HZ.out.2.1 HZ.out.1 HZ.out.2.2 ?_; rw [World.setRow_alloc_new])
      have HB1 : Hid (Below w.heap.size w (w1.alloc (.cells fewA 47))) := Lib.hid (b1.trans ((below_new w1 _).mono b1.size))
      have HKP : Hid (RowAt (w1.alloc (.cells fewA 47)) w1.heap.size 47 fewLs ∧ w1.heap.size < (w1.alloc (.cells fewA 47)).heap.size) := Lib.hid ⟨by unfold RowAt; rw [← fewA_list]; exact heap_alloc_last _ _, by simp⟩
      clear b1
      generalize w1.alloc (.cells fewA 47) = W1 at *
      generalize w1.heap.size = g6 at *
      go_loopw [7, 8] (fun v s wr => ∃ (p : Nat) (t : Value), t = v ∧ s = .int .i64 (p : Int) ∧ 2 ≤ p ∧ (p ≤ n + 1 ∨ p = 2) ∧ Hid (NoW W1 (noL d (p - 2)) t wr) ∧ Hid (RowAt wr g6 47 fewLs ∧ g6 < W1.heap.size)) (fun _ s _ => n + 2 - (intOf s).toNat)
      case atStart => exact ⟨2, _, rfl, rfl, by omega, .inr rfl, Lib.hid ⟨owns_nil _ _ _, Below.refl _ _⟩, HKP⟩
      case round =>
        clear HKP
        obtain ⟨p, t, rfl, rfl, hp2, hk, hN, hK⟩ := hrel
        by_cases hlt : p ≤ n
        · have b1 : (p : Int) ≤ (n : Int) := by omega
          have hb2 : (p : Int) < 1002 := by omega
          have hstep : noL d (p + 1 - 2) = noL d (p - 2) ++ if canB (p : Int) d = true then [] else [(p : Int)] := noL_at d hp2
          have c0 := hK.out.1.cell (j := p) (by rw [fewLs_len]; omega)
          rw [fewLs_get (by omega)] at c0
          have hcn : canB (p : Int) d = decide (fewN p ≤ d) := canB_not hp2
          generalize fewN p = v0 at *
          cases hq : canB (p : Int) d
          · rw [hq, if_neg (by simp)] at hstep
            have q1 : ¬ v0 ≤ (d : Int) := by rw [hcn] at hq; simpa using hq
            clear hcn
            have hlen := noL_len d (p - 2)
            have HL := Lib.hid hlen; clear hlen
            have hnews : ∀ j' u, ([.int .i64 (p : Int)] : List Value)[j']? = some u → (wr.alloc (.cells #[.int .i64 (p : Int)] 3)).cell? ((⟨wr.heap.size, 0, none⟩ : Addr).add j') = some u := by
              intro j' u hu
              have e0 : j' = 0 := by have := (List.getElem?_eq_some_iff.1 hu).1; simp at this; omega
              subst e0
              simp at hu; subst hu
              rw [add_zero_addr]
              exact cell_of_row _ _ 0 _ _ _ (heap_alloc_last wr _)
            have HNw := Lib.hid hnews; clear hnews
            have hsz1 := hN.out.2.size
            have HSt := Lib.hid hstep; clear hstep hq
            go_wp2_with (at_builtin; refine wpList_append_own_at _ rfl _ _ 28 rfl W1.heap.size 3 i0 (.int .i64 0) 1 8 Try.underlying28 HI.out.1 HI.out.2.1 HI.out.2.2.1 HI.out.2.2.2 rfl (by decide) _ _ _ rfl (hN.out.1.alloc _) ⟨wr.heap.size, 0, none⟩ 1 1 [.int .i64 (p : Int)] rfl rfl HNw.out ?_ ?_ ?_ ?_ ?_)
            · first | rfl | (intro u hu; simp at hu; subst hu; rfl)
            · have := HL.out; unfold maxLen; omega
            · have := HL.out; omega
            · first | omega | (simp; omega)
            intro v' w3 hown3 hgrow _ _
            have hbel3 : Below W1.heap.size W1 w3 := (hN.out.2.alloc hsz1 _).grown hgrow (by simp; omega) (fun g hg => by
              obtain ⟨_, h | ⟨g', cap, cur, hv, hb', _⟩⟩ := hN.out.1
              · rw [h.1] at hg; cases hg
              · rw [hv] at hg; simp [Value.ownBlock] at hg; omega)
            have hkb : Below W1.heap.size (wr.alloc (.cells #[.int .i64 (p : Int)] 3)) w3 := (Below.refl _ _).grown hgrow (by simp; omega) (fun g hg => by
              obtain ⟨_, h | ⟨g', cap, cur, hv, hb', _⟩⟩ := hN.out.1
              · rw [h.1] at hg; cases hg
              · rw [hv] at hg; simp [Value.ownBlock] at hg; omega)
            rw [ints_snoc] at hown3
            have H3 : Hid (NoW W1 (noL d (p + 1 - 2)) v' w3) := Lib.hid ⟨by rw [HSt.out, List.length_append]; exact hown3, hbel3⟩
            have HK3 : Hid (RowAt w3 g6 47 fewLs ∧ g6 < W1.heap.size) := Lib.hid (⟨(hK.out.1.keep (below_new wr _)).old2 hkb hK.out.2, hK.out.2⟩)
            clear hown3 hgrow hbel3 hkb HSt HL HNw hsz1
            go_wp2_with fail
            go_roundw
            case rel => exact ⟨p + 1, _, rfl, by go_num, by omega, by omega, H3, HK3⟩
            case measure => simp [intOf]; omega
          · rw [hq, if_pos rfl, List.append_nil] at hstep
            have q1 : v0 ≤ (d : Int) := by rw [hcn] at hq; simpa using hq
            clear hcn
            have HN2 : Hid (NoW W1 (noL d (p + 1 - 2)) t wr) := Lib.hid (by rw [hstep]; exact hN.out)
            clear hstep hN hq
            go_wp2_with fail
            go_roundw
            case rel => exact ⟨p + 1, _, rfl, by go_num, by omega, by omega, HN2, hK⟩
            case measure => simp [intOf]; omega
        · have hfin : noL d (p - 2) = R := by
            rw [HR.out]
            congr 1; omega
          have b1 : ¬ (p : Int) ≤ (n : Int) := by omega
          have HN2 := Lib.hid (And.intro hN.out hfin); clear hfin
          go_wp2_with fail
          go_ret2
          exact ⟨t, rfl, by rw [← HN2.out.2]; exact owns_base HN2.out.1.1 HB1.out.size, HB1.out.trans (HN2.out.1.2.mono HB1.out.size)⟩

set_option maxRecDepth 10000 in
set_option maxHeartbeats 6400000 in
theorem specNoFinishes_any (a b : Int) (w : World) :
    Calls Try.prog 17 #[.int .i64 a, .int .i64 b] w fun e w' => RowR (noR a b) (askB a b) w e w' := by
  cases h1 : inR a 0 1001
  · have e2 : askB a b = false := by simp [askB, h1]
    have e1 : noR a b = [] := by simp [noR, e2]
    rw [e1, e2]
    have H1 := Lib.hid h1; clear h1 e1 e2
    go_enter Try.func17, Try.ntmps17
    go_wp2_with fail
    refine (daLeft_any _ _).mono ?_; rintro e w1 ⟨rfl, rfl⟩
    rw [H1.out]
    go_wp2_with fail
    go_ret2
    exact ⟨_, rfl, owns_nil _ _ _, Below.refl _ _⟩
  · cases h2 : inR b 1 3
    · have e2 : askB a b = false := by simp [askB, h2]
      have e1 : noR a b = [] := by simp [noR, e2]
      rw [e1, e2]
      have H1 := Lib.hid h1; clear h1 e1 e2
      have H2 := Lib.hid h2; clear h2
      go_enter Try.func17, Try.ntmps17
      go_wp2_with fail
      refine (daLeft_any _ _).mono ?_; rintro e w1 ⟨rfl, rfl⟩
      rw [H1.out]
      go_wp2_with fail
      refine (daDarts_any _ _).mono ?_; rintro e w1 ⟨rfl, rfl⟩
      rw [H2.out]
      go_wp2_with fail
      go_ret2
      exact ⟨_, rfl, owns_nil _ _ _, Below.refl _ _⟩
    · have e2 : askB a b = true := by simp [askB, h1, h2]
      obtain ⟨n, d, rfl, rfl, hn, hd1, hd3⟩ := askB_nat e2
      obtain ⟨R, hR⟩ : ∃ R, R = noL d (n - 1) := ⟨_, rfl⟩
      have e1 : noR n d = R := by rw [hR]; simp [noR, e2]
      rw [e1, e2]
      have H1 := Lib.hid h1; clear h1 e1 e2
      have H2 := Lib.hid h2; clear h2
      have HR := Lib.hid hR; clear hR
      obtain ⟨i0, hi, hz0, hz1, hz2⟩ := info_parts infoInt
      have HI := Lib.hid (And.intro hi (And.intro hz0 (And.intro hz1 hz2))); clear hi hz0 hz1 hz2
      obtain ⟨j0, hj, hy0, hy1, hy2⟩ := info_parts infoBool
      have HJ := Lib.hid (And.intro hj (And.intro hy0 (And.intro hy1 hy2))); clear hj hy0 hy1 hy2
      go_enter Try.func17, Try.ntmps17
      go_wp2_with fail
      refine (daLeft_any _ _).mono ?_; rintro e w1 ⟨rfl, rfl⟩
      rw [H1.out]
      go_wp2_with fail
      refine (daDarts_any _ _).mono ?_; rintro e w1 ⟨rfl, rfl⟩
      rw [H2.out]
      go_wp2_with (at_make; refine wpList_make_full _ rfl _ _ _ rfl w.heap.size _ j0 _ 1 Try.underlying49 HJ.out.1 HJ.out.2.1 HJ.out.2.2.1 .i64 .i64 _ _ 1002 rfl rfl rfl rfl ?_ ?_ (Nat.le_refl _) ?_)
      · rw [HJ.out.2.2.2]; omega
      · unfold maxLen; omega
      intro w2 hown hgrow
      have HS : Hid (ValsAt w2 w.heap.size 4 (boolL fun i => decide (i ≤ n) && canB (i : Nat) 0) ∧ Below w.heap.size w w2) := by
        have h1 := (ValsAt.made hown).1
        rw [boolL_none] at h1
        refine Lib.hid ⟨?_, (Below.refl _ _).grown hgrow (Nat.le_refl _) (fun k hk => by cases hk)⟩
        rw [show (fun i : Nat => decide (i ≤ n) && canB (i : Nat) 0) = fun _ => false from funext fun i => by simp [canB]]
        exact h1
      clear hown hgrow
      obtain ⟨g0, hg0⟩ : ∃ g0, g0 = w.heap.size := ⟨_, rfl⟩
      go_wp2_with fail
      rw [← hg0]
      have HS : Hid (ValsAt w2 g0 4 (boolL fun i => decide (i ≤ n) && canB (i : Nat) 0) ∧ Below w.heap.size w w2) := Lib.hid ⟨by rw [hg0]; exact HS.out.1, HS.out.2⟩
      have HG0 := Lib.hid hg0; clear hg0
      go_loopw [7] (fun i wr => ∃ k : Nat, i = .int .i64 ((k : Int) + 1) ∧ k ≤ d ∧ Hid (ValsAt wr g0 4 (boolL fun i => decide (i ≤ n) && canB (i : Nat) k) ∧ Below w.heap.size w wr)) (fun i _ => d + 1 - (intOf i).toNat)
      case atStart => exact ⟨0, rfl, by omega, HS⟩
      case round =>
        clear HS
        obtain ⟨k, rfl, hk, hV⟩ := hrel
        by_cases hlt : k < d
        · have b1 : (k : Int) + 1 ≤ (d : Int) := by omega
          have HQ := Lib.hid (daCount_any (k + 1) n (by omega) hn true)
          rw [show ((k + 1 : Nat) : Int) = (k : Int) + 1 from rfl] at HQ
          have hcv : ∀ i, cntV true (k + 1) (k + 1) i = finW (k + 1) i := fun i => by unfold cntV; rw [if_pos ⟨rfl, by omega, rfl⟩]
          have HCV := Lib.hid hcv; clear hcv
          go_wp2_with fail
          refine (HQ.out _).mono ?_; rintro e w3 ⟨gc, rfl, hgc, hr, b3⟩
          have HW3 : Hid (ValsAt w3 g0 4 (boolL fun i => if i < 0 then decide (i ≤ n) && canB (i : Nat) (k + 1) else decide (i ≤ n) && canB (i : Nat) k) ∧ RowAt w3 gc 3 (rowW (n + 1) (cntV true (k + 1) (k + 1))) ∧ Below w.heap.size w w3) := by
            refine Lib.hid ⟨?_, hr, hV.out.2.trans (b3.mono hV.out.2.size)⟩
            have := hV.out.1.keep b3
            rw [show (fun i : Nat => if i < 0 then decide (i ≤ n) && canB (i : Nat) (k + 1) else decide (i ≤ n) && canB (i : Nat) k) = fun i => decide (i ≤ n) && canB (i : Nat) k from funext fun i => if_neg (by omega)]
            exact this
          have hne : Hid (gc ≠ g0) := Lib.hid (by have := hV.out.1.lt; omega)
          clear hr b3 hV hgc
          go_wp2_with fail
          go_loopw [30] (fun i wr => ∃ c : Nat, i = .int .i64 c ∧ c ≤ n + 1 ∧ Hid (ValsAt wr g0 4 (boolL fun i => if i < c then decide (i ≤ n) && canB (i : Nat) (k + 1) else decide (i ≤ n) && canB (i : Nat) k) ∧ RowAt wr gc 3 (rowW (n + 1) (cntV true (k + 1) (k + 1))) ∧ Below w.heap.size w wr)) (fun i _ => n + 1 - (intOf i).toNat)
          case atStart => exact ⟨0, rfl, by omega, HW3⟩
          case round =>
            clear HW3
            obtain ⟨c, rfl, hc, hW⟩ := hrel
            by_cases hcn : c ≤ n
            · have b2 : (c : Int) < (n : Int) + 1 := by omega
              have b4 : (c : Int) < 1002 := by omega
              have c0 := hW.out.1.bool (i := c) (by omega)
              rw [if_neg (by omega), decide_eq_true hcn, Bool.true_and] at c0
              have f0 := hW.out.1.free c
              have c1 := hW.out.2.1.cell (j := c) (by rw [rowW_len]; omega)
              rw [rowW_get _ (by omega), HCV.out, wrap64_fin (by omega)] at c1
              have hor : canB (c : Nat) (k + 1) = (canB (c : Nat) k || finB (k + 1) (c : Nat)) := rfl
              have hfin := finW_fin k (c : Int)
              have hset := fun (x : Bool) (hx : x = canB (c : Nat) (k + 1)) => hW.out.1.put c (.bool x)
              have hnew : ∀ x : Bool, x = canB (c : Nat) (k + 1) → ValsAt (wr.setCell ⟨g0, c, none⟩ (.bool x)) g0 4 (boolL fun i => if i < c + 1 then decide (i ≤ n) && canB (i : Nat) (k + 1) else decide (i ≤ n) && canB (i : Nat) k) ∧ RowAt (wr.setCell ⟨g0, c, none⟩ (.bool x)) gc 3 (rowW (n + 1) (cntV true (k + 1) (k + 1))) ∧ Below w.heap.size w (wr.setCell ⟨g0, c, none⟩ (.bool x)) := fun x hx => by
                refine ⟨?_, hW.out.2.1.other ⟨g0, c, none⟩ _ hne.out, hW.out.2.2.setCell (p := ⟨g0, c, none⟩) (Nat.le_of_eq HG0.out.symm) _⟩
                have hp := hW.out.1.put c (.bool x)
                rw [boolL_set x (by omega) (h := fun i => if i < c + 1 then decide (i ≤ n) && canB (i : Nat) (k + 1) else decide (i ≤ n) && canB (i : Nat) k) (by rw [if_pos (by omega), decide_eq_true hcn, Bool.true_and, hx]) (fun i hi => by
                  by_cases q : i < c
                  · rw [if_pos q, if_pos (by omega)]
                  · rw [if_neg q, if_neg (by omega)])] at hp
                exact hp
              have HNw := Lib.hid hnew; clear hnew hset hW
              cases hb : canB (c : Nat) k
              · rw [hb] at c0 hor
                rw [Bool.false_or] at hor
                by_cases q : 0 < finW (k + 1) (c : Int)
                · have HX := Lib.hid (HNw.out true (by rw [hor, hfin.1 q])); clear hor hfin hb HNw
                  generalize finW (k + 1) (c : Int) = y at *
                  go_wp2_with fail
                  go_roundw
                  case rel => exact ⟨c + 1, by go_num, by omega, HX⟩
                  case measure => simp [intOf]; omega
                · have hff : finB (k + 1) (c : Nat) = false := by
                    cases h : finB (k + 1) (c : Nat)
                    · rfl
                    · exact absurd (hfin.2 h) q
                  have HX := Lib.hid (HNw.out false (by rw [hor, hff])); clear hor hfin hb HNw hff
                  generalize finW (k + 1) (c : Int) = y at *
                  go_wp2_with fail
                  go_roundw
                  case rel => exact ⟨c + 1, by go_num, by omega, HX⟩
                  case measure => simp [intOf]; omega
              · rw [hb] at c0 hor
                rw [Bool.true_or] at hor
                have HX := Lib.hid (HNw.out true hor.symm); clear hor hfin hb HNw
                generalize finW (k + 1) (c : Int) = y at *
                go_wp2_with fail
                go_roundw
                case rel => exact ⟨c + 1, by go_num, by omega, HX⟩
                case measure => simp [intOf]; omega
            · obtain rfl : c = n + 1 := by omega
              have HX : Hid (ValsAt wr g0 4 (boolL fun i => decide (i ≤ n) && canB (i : Nat) (k + 1)) ∧ Below w.heap.size w wr) := by
                refine Lib.hid ⟨?_, hW.out.2.2⟩
                have h := hW.out.1
                rw [show (fun i : Nat => if i < n + 1 then decide (i ≤ n) && canB (i : Nat) (k + 1) else decide (i ≤ n) && canB (i : Nat) k) = fun i => decide (i ≤ n) && canB (i : Nat) (k + 1) from funext fun i => by
                  by_cases q : i < n + 1
                  · rw [if_pos q]
                  · rw [if_neg q, decide_eq_false (by omega), Bool.false_and, Bool.false_and]] at h
                exact h
              have b2 : ¬ (((n + 1 : Nat) : Int)) < (n : Int) + 1 := by omega
              clear hW
              go_wp2_with fail
              go_roundw
              case rel => exact ⟨k + 1, by go_num, by omega, HX⟩
              case measure => simp [intOf]; omega
        · obtain rfl : d = k := by omega
          have b1 : ¬ (d : Int) + 1 ≤ (d : Int) := by omega
          have HB1 : Hid (Below w.heap.size w wr) := Lib.hid hV.out.2
          have HKP : Hid (ValsAt wr g0 4 (boolL fun i => decide (i ≤ n) && canB (i : Nat) d) ∧ g0 < wr.heap.size) := Lib.hid ⟨hV.out.1, hV.out.1.lt⟩
          clear hV
          go_wp2_with fail
          generalize wr = W1 at *
          go_loopw [10, 11] (fun v s wr => ∃ (p : Nat) (t : Value), t = v ∧ s = .int .i64 (p : Int) ∧ 2 ≤ p ∧ (p ≤ n + 1 ∨ p = 2) ∧ Hid (NoW W1 (noL d (p - 2)) t wr) ∧ Hid (ValsAt wr g0 4 (boolL fun i => decide (i ≤ n) && canB (i : Nat) d) ∧ g0 < W1.heap.size)) (fun _ s _ => n + 2 - (intOf s).toNat)
          case atStart => exact ⟨2, _, rfl, rfl, by omega, .inr rfl, Lib.hid ⟨owns_nil _ _ _, Below.refl _ _⟩, HKP⟩
          case round =>
            clear HKP
            obtain ⟨p, t, rfl, rfl, hp2, hk, hN, hK⟩ := hrel
            by_cases hlt : p ≤ n
            · have b1 : (p : Int) ≤ (n : Int) := by omega
              have hb2 : (p : Int) < 1002 := by omega
              have hstep : noL d (p + 1 - 2) = noL d (p - 2) ++ if canB (p : Int) d = true then [] else [(p : Int)] := noL_at d hp2
              have c0 := hK.out.1.bool (i := p) (by omega)
              rw [decide_eq_true hlt, Bool.true_and] at c0
              cases hq : canB (p : Int) d
              · rw [hq, if_neg (by simp)] at hstep
                rw [hq] at c0
                have hlen := noL_len d (p - 2)
                have HL := Lib.hid hlen; clear hlen
                have hnews : ∀ j' u, ([.int .i64 (p : Int)] : List Value)[j']? = some u → (wr.alloc (.cells #[.int .i64 (p : Int)] 3)).cell? ((⟨wr.heap.size, 0, none⟩ : Addr).add j') = some u := by
                  intro j' u hu
                  have e0 : j' = 0 := by have := (List.getElem?_eq_some_iff.1 hu).1; simp at this; omega
                  subst e0
                  simp at hu; subst hu
                  rw [add_zero_addr]
                  exact cell_of_row _ _ 0 _ _ _ (heap_alloc_last wr _)
                have HNw := Lib.hid hnews; clear hnews
                have hsz1 := hN.out.2.size
                have HSt := Lib.hid hstep; clear hstep hq
                go_wp2_with (at_builtin; refine wpList_append_own_at _ rfl _ _ 28 rfl W1.heap.size 3 i0 (.int .i64 0) 1 8 Try.underlying28 HI.out.1 HI.out.2.1 HI.out.2.2.1 HI.out.2.2.2 rfl (by decide) _ _ _ rfl (hN.out.1.alloc _) ⟨wr.heap.size, 0, none⟩ 1 1 [.int .i64 (p : Int)] rfl rfl HNw.out ?_ ?_ ?_ ?_ ?_)
                · first | rfl | (intro u hu; simp at hu; subst hu; rfl)
                · have := HL.out; unfold maxLen; omega
                · have := HL.out; omega
                · first | omega | (simp; omega)
                intro v' w3 hown3 hgrow _ _
                have hbel3 : Below W1.heap.size W1 w3 := (hN.out.2.alloc hsz1 _).grown hgrow (by simp; omega) (fun g hg => by
                  obtain ⟨_, h | ⟨g', cap, cur, hv, hb', _⟩⟩ := hN.out.1
                  · rw [h.1] at hg; cases hg
                  · rw [hv] at hg; simp [Value.ownBlock] at hg; omega)
                have hkb : Below W1.heap.size (wr.alloc (.cells #[.int .i64 (p : Int)] 3)) w3 := (Below.refl _ _).grown hgrow (by simp; omega) (fun g hg => by
                  obtain ⟨_, h | ⟨g', cap, cur, hv, hb', _⟩⟩ := hN.out.1
                  · rw [h.1] at hg; cases hg
                  · rw [hv] at hg; simp [Value.ownBlock] at hg; omega)
                rw [ints_snoc] at hown3
                have H3 : Hid (NoW W1 (noL d (p + 1 - 2)) v' w3) := Lib.hid ⟨by rw [HSt.out, List.length_append]; exact hown3, hbel3⟩
                have HK3 : Hid (ValsAt w3 g0 4 (boolL fun i => decide (i ≤ n) && canB (i : Nat) d) ∧ g0 < W1.heap.size) := Lib.hid (⟨(hK.out.1.keep (below_new wr _)).old hkb hK.out.2, hK.out.2⟩)
                clear hown3 hgrow hbel3 hkb HSt HL HNw hsz1
                go_wp2_with fail
                go_roundw
                case rel => exact ⟨p + 1, _, rfl, by go_num, by omega, by omega, H3, HK3⟩
                case measure => simp [intOf]; omega
              · rw [hq, if_pos rfl, List.append_nil] at hstep
                rw [hq] at c0
                have HN2 : Hid (NoW W1 (noL d (p + 1 - 2)) t wr) := Lib.hid (by rw [hstep]; exact hN.out)
                clear hstep hN hq
                go_wp2_with fail
                go_roundw
                case rel => exact ⟨p + 1, _, rfl, by go_num, by omega, by omega, HN2, hK⟩
                case measure => simp [intOf]; omega
            · have hfin : noL d (p - 2) = R := by
                rw [HR.out]
                congr 1; omega
              have b1 : ¬ (p : Int) ≤ (n : Int) := by omega
              have HN2 := Lib.hid (And.intro hN.out hfin); clear hfin
              go_wp2_with fail
              go_ret2
              exact ⟨t, rfl, by rw [← HN2.out.2]; exact owns_base HN2.out.1.1 HB1.out.size, HB1.out.trans (HN2.out.1.2.mono HB1.out.size)⟩
end Go.Proofs.Ytaplkciomagmiaa
