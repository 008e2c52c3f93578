/-
  Leagues: a result less (the program's).
-/
import Derived.Test.YtpfphjfpaoiicaaLgConc
import Derived.Deep.RegionHeld3
namespace Go.Proofs.Ytpfphjfpaoiicaa
open Go.RowKit
set_option linter.unusedVariables false
set_option linter.unusedSimpArgs false

theorem ress_take (l : List Rs) (k : Nat) (hk : k ≤ l.length) : ress (l.take k) = (ress l).take (4 * k) := by
  have h : ress l = ress (l.take k) ++ ress (l.drop k) := by rw [← ress_append, List.take_append_drop]
  have hn : (ress (l.take k)).length = 4 * k := by rw [ress_len, List.length_take]; omega
  rw [h]; exact (List.take_left' hn).symm
theorem ress_drop (l : List Rs) (k : Nat) (hk : k ≤ l.length) : ress (l.drop k) = (ress l).drop (4 * k) := by
  have h : ress l = ress (l.take k) ++ ress (l.drop k) := by rw [← ress_append, List.take_append_drop]
  have hn : (ress (l.take k)).length = 4 * k := by rw [ress_len, List.length_take]; omega
  rw [h]; exact (List.drop_left' hn).symm
theorem reads_take {w : World} {b off : Nat} {l : List Rs} (h : Reads w (some ⟨b, off, none⟩) (ress l)) (k : Nat) (hk : k ≤ l.length) : Reads w (some ⟨b, off, none⟩) (ress (l.take k)) := by
  rcases h with h | ⟨b', off', he, hlt, hc⟩
  · left; rw [ress_take l k hk, h]; simp
  · cases he
    refine .inr ⟨b, off, rfl, hlt, fun j hj => ?_⟩
    rw [ress_take l k hk] at hj ⊢
    rw [List.length_take] at hj
    rw [hc j (by omega), List.getElem?_take_of_lt (by omega)]
theorem reads_drop {w : World} {b off : Nat} {l : List Rs} (h : Reads w (some ⟨b, off, none⟩) (ress l)) (k : Nat) (hk : k ≤ l.length) : Reads w (some ⟨b, off + k * 4, none⟩) (ress (l.drop k)) := by
  rcases h with h | ⟨b', off', he, hlt, hc⟩
  · left; rw [ress_drop l k hk, h]; simp
  · cases he
    refine .inr ⟨b, off + k * 4, rfl, hlt, fun j hj => ?_⟩
    rw [ress_drop l k hk] at hj ⊢
    rw [List.length_drop] at hj
    rw [List.getElem?_drop, ← hc (4 * k + j) (by omega)]
    congr 2
    omega

theorem owns_mono {w : World} {B B' n size : Nat} {T : TypeId} {v : Value} {xs : List Value} (h : w.ownsRow B' T size v n xs) (hb : B ≤ B') : w.ownsRow B T size v n xs := by
  obtain ⟨h1, h2 | ⟨g, cap, cur, hv, hg, r⟩⟩ := h
  · exact ⟨h1, .inl h2⟩
  · exact ⟨h1, .inr ⟨g, cap, cur, hv, by omega, r⟩⟩

def okD (t wn : Int) (l : List Rs) (k : Int) : Bool := goodL t wn l && decide (0 ≤ k ∧ k < l.length)

set_option maxHeartbeats 3200000 in
set_option maxRecDepth 100000 in
theorem implDrop_any (t wn : Int) (l : List Rs) (ad : Option Addr) (c : Nat) (k : Int) (w : World) (hl : (l.length : Int) ≤ 1000000000000) (hlc : l.length ≤ c) (hr : Reads w ad (ress l)) :
    Calls Try.prog 66 #[.agg #[.int .i64 t, .int .i64 wn, .slice ad l.length c], .int .i64 k] w fun e w' => LgR (if okD t wn l k then t else 0) (if okD t wn l k then wn else 0) (if okD t wn l k then dropL l k.toNat else []) (okD t wn l k) w e w' := by
  have HB0 : Hid (∀ x y : Obj, Below w.heap.size w ((w.alloc x).alloc y)) := fun x y => by (repeat (first | exact Below.refl _ _ | exact ‹Below _ _ _› | refine Below.drew ?_ | refine Below.alloc ?_ (by first | omega | (simp; done) | (simp; omega)) _ | refine Below.setCell ?_ (by first | omega | (simp; done) | (simp; omega)) _ | refine Below.trans ?_ (Below.mono ‹Below _ _ _› (by first | omega | (simp; done) | (simp; omega)))))
  have HG := Lib.hid (fun W (hb : Below w.heap.size w W) => isLeague_any t wn l ad c W hl hlc (hr.old hb))
  have HR := Lib.hid hr; clear hr
  have A1 := Lib.hid ((ObAt.new w 29 #[.int .i64 t, .int .i64 wn, .slice ad l.length c]).old (.cells #[.int .i64 0, .int .i64 0, .slice none 0 0] 29))
  have A2 := ObAt.new (w.alloc (.cells #[.int .i64 t, .int .i64 wn, .slice ad l.length c] 29)) 29 #[.int .i64 0, .int .i64 0, .slice none 0 0]
  rw [World.size_alloc] at A2
  have A2 := Lib.hid A2
  cases hok : okD t wn l k
  · simp only [Bool.false_eq_true, if_false]
    have hcs : goodL t wn l = false ∨ (goodL t wn l = true ∧ k < 0) ∨ (goodL t wn l = true ∧ 0 ≤ k ∧ (l.length : Int) ≤ k) := by
      unfold okD at hok
      cases hg : goodL t wn l
      · exact Or.inl rfl
      · rw [hg] at hok
        by_cases h0 : k < 0
        · exact Or.inr (Or.inl ⟨rfl, h0⟩)
        · by_cases h1 : (l.length : Int) ≤ k
          · exact Or.inr (Or.inr ⟨rfl, by omega, h1⟩)
          · rw [decide_eq_true (by omega)] at hok; cases hok
    clear hok
    rcases hcs with hg | ⟨hg, k0⟩ | ⟨hg, k0, k1⟩
    all_goals
      rw [hg] at HG; clear hg
      go_enter Try.func66, Try.ntmps66
      go_wp2_with fail
      refine (HG.out _ (HB0.out _ _)).mono ?_; rintro e w1 ⟨rfl, b1⟩
      have H1 := Lib.hid (And.intro (A2.out.keep b1) (And.intro (A1.out.keep b1) ((HB0.out _ _).trans (b1.mono (HB0.out _ _).size)))); clear b1 A1 A2
      obtain ⟨q0, q1, q2, f0, f1, f2⟩ := H1.out.1.three
      obtain ⟨p0, p1, p2, -, -, -⟩ := H1.out.2.1.three
      have HF := Lib.hid (fun u0 u1 u2 : Value => ((H1.out.2.2.setCell (p := ⟨w.heap.size + 1, 0, none⟩) (by simp only; omega) u0).setCell (p := ⟨w.heap.size + 1, 1, none⟩) (by simp only; omega) u1).setCell (p := ⟨w.heap.size + 1, 2, none⟩) (by simp only; omega) u2)
      go_wp2_with fail
      refine bodyPost_ret (v := .tuple #[.agg #[.int .i64 0, .int .i64 0, .slice none 0 0], .bool false]) ?_ rfl ⟨none, 0, rfl, owns_nil4 _ _ _, HF.out _ _ _⟩
      simp [results, Try.results66, go_sem, *]
  · have hok2 := hok
    simp only [okD, Bool.and_eq_true, decide_eq_true_eq] at hok2
    obtain ⟨hg, k0, k1⟩ := hok2
    obtain ⟨kk, rfl⟩ : ∃ kk : Nat, k = kk := ⟨k.toNat, by omega⟩
    rw [Int.toNat_natCast]
    have h56 := (goodL_bd hg).2.2.2.2
    have hgt := goodL_drop hg kk
    have hdl := dropL_len l (k := kk) (by omega)
    obtain ⟨b, off, rfl, hlt, -⟩ := rcells_of_reads HR.out (by omega)
    obtain ⟨M, hM⟩ : ∃ M, M = kk + 1 := ⟨_, rfl⟩
    obtain ⟨a2, ha2⟩ : ∃ a2, a2 = (if c = M then some (⟨b, off, none⟩ : Addr) else some ⟨b, off + M * 4, none⟩) := ⟨_, rfl⟩
    have hrd2 : ∀ W, Below w.heap.size w W → Reads W a2 (ress (l.drop M)) := fun W hb => by
      by_cases q : c = M
      · left
        rw [List.drop_of_length_le (by omega)]; rfl
      · rw [ha2, if_neg q]; exact reads_drop (HR.out.old hb) M (by omega)
    have hn2 : a2 ≠ none := by rw [ha2]; split <;> simp
    have HCC : Hid (∀ g c2 W, g < W.heap.size → W.cell? ⟨g, 0, none⟩ = some (.slice (some ⟨b, off, none⟩) kk c) → W.cell? ⟨g, 1, none⟩ = some (.slice a2 (l.length - M) c2) → Below w.heap.size w W →
        Calls Try.prog 102 #[.slice (some ⟨g, 0, none⟩) 2 2] W fun e w' => ∃ v, e = .returned v ∧ w'.ownsRow W.heap.size 64 4 v (dropL l kk).length (ress (dropL l kk)) ∧ Below W.heap.size W w') := fun g c2 W h1 h2 h3 hb => by
      have e1 : (l.take kk).length = kk := by rw [List.length_take]; omega
      have e2 : (l.drop M).length = l.length - M := by rw [List.length_drop]
      have := concat_any (l.take kk) (l.drop M) (some ⟨b, off, none⟩) a2 c c2 g W (by omega) (by omega) h1 (by rw [e1]; exact h2) (by rw [e2]; exact h3) (reads_take (HR.out.old hb) kk (by omega)) (hrd2 W hb) (Or.inr ⟨by simp, hn2⟩)
      rw [hM] at this
      exact this
    have HLW := Lib.hid (fun a c' hlc' W hr' => leagueWith_any t wn (.slice (some ⟨b, off, none⟩) l.length c) (dropL l kk) hgt a c' hlc' W hr')
    rw [hg] at HG; clear hg hgt hok k0
    simp only [if_true]
    go_enter Try.func66, Try.ntmps66
    go_wp2_with fail
    refine (HG.out _ (HB0.out _ _)).mono ?_; rintro e w1 ⟨rfl, b1⟩
    have H0 := Lib.hid (And.intro (A1.out.keep b1) (And.intro (A2.out.keep b1) ((HB0.out _ _).trans (b1.mono (HB0.out _ _).size))))
    clear b1 A1 A2 HG HB0
    obtain ⟨p0, p1, p2, -, -, -⟩ := H0.out.1.three
    have K0 : ¬ ((kk : Int) < 0) := by omega
    have K1 : ¬ ((l.length : Int) ≤ (kk : Int)) := by omega
    go_wp2_with fail
    clear p0 p1 p2
    have K2 : kk ≤ c := by omega
    have K3 : M ≤ l.length := by omega
    have K4 : IntKind.i64.wrap ((kk : Int) + 1) = (M : Int) := by rw [IntKind.wrap_i64]; omega
    have HM := Lib.hid hM; clear hM
    refine wp_region_held_drew (S := fun w' => w'.cell? ⟨w.heap.size, 0, none⟩ = some (.int .i64 t) ∧ w'.cell? ⟨w.heap.size, 1, none⟩ = some (.int .i64 wn) ∧ w'.cell? ⟨w.heap.size, 2, none⟩ = some (.slice (some ⟨b, off, none⟩) l.length c) ∧ w.heap.size + 1 < w'.heap.size) (by kernel_rfl) ⟨H0.out.1.cell 0, H0.out.1.cell 1, H0.out.1.cell 2, H0.out.2.1.lt⟩ (fun hHeld => ?_)
    (refine wpAnyH_take (i := 0) (v := ?_) rfl (by kernel_rfl) (by kernel_rfl) (by kernel_rfl) (fun _ _ _ h => h) (Or.inl ⟨by kernel_rfl, ?_⟩) (by assumption) ?_; rotate_left; focus (intro w hSw; (try dsimp only at hSw); go_simp; try with_reducible rfl); (try simp only [List.getElem_toArray, List.getElem_cons_succ, List.getElem_cons_zero, Act.put, List.setIfInBounds_toArray, List.set_cons_zero, List.set_cons_succ])); (refine wpAnyH_take (i := 1) (v := ?_) rfl (by kernel_rfl) (by kernel_rfl) (by kernel_rfl) (fun _ _ _ h => h) (Or.inl ⟨by kernel_rfl, ?_⟩) (by assumption) ?_; rotate_left; focus (intro w hSw; (try dsimp only at hSw); go_simp; try with_reducible rfl); (try simp only [List.getElem_toArray, List.getElem_cons_succ, List.getElem_cons_zero, Act.put, List.setIfInBounds_toArray, List.set_cons_zero, List.set_cons_succ])); (refine wpAnyH_take (i := 2) (v := ?_) rfl (by kernel_rfl) (by kernel_rfl) (by kernel_rfl) (fun _ _ _ h => h) (Or.inl ⟨by kernel_rfl, ?_⟩) (by assumption) ?_; rotate_left; focus (intro w hSw; (try dsimp only at hSw); go_simp; try with_reducible rfl); (try simp only [List.getElem_toArray, List.getElem_cons_succ, List.getElem_cons_zero, Act.put, List.setIfInBounds_toArray, List.set_cons_zero, List.set_cons_succ])); (refine wpAnyH_take (i := 3) (v := ?_) rfl (by kernel_rfl) (by kernel_rfl) (by kernel_rfl) (fun _ _ _ h => h) (Or.inl ⟨by kernel_rfl, ?_⟩) (by assumption) ?_; rotate_left; focus (intro w hSw; (try dsimp only at hSw); go_simp; try with_reducible rfl); (try simp only [List.getElem_toArray, List.getElem_cons_succ, List.getElem_cons_zero, Act.put, List.setIfInBounds_toArray, List.set_cons_zero, List.set_cons_succ])); (refine wpAnyH_take (i := 4) (v := ?_) rfl (by kernel_rfl) (by kernel_rfl) (by kernel_rfl) (fun _ _ _ h => h) (Or.inl ⟨by kernel_rfl, ?_⟩) (by assumption) ?_; rotate_left; focus (intro w hSw; (try dsimp only at hSw); go_simp; try with_reducible rfl); (try simp only [List.getElem_toArray, List.getElem_cons_succ, List.getElem_cons_zero, Act.put, List.setIfInBounds_toArray, List.set_cons_zero, List.set_cons_succ])); (refine wpAnyH_take (i := 5) (v := ?_) rfl (by kernel_rfl) (by kernel_rfl) (by kernel_rfl) (fun _ _ _ h => h) (Or.inl ⟨by kernel_rfl, ?_⟩) (by assumption) ?_; rotate_left; focus (intro w hSw; (try dsimp only at hSw); go_simp; try with_reducible rfl); (try simp only [List.getElem_toArray, List.getElem_cons_succ, List.getElem_cons_zero, Act.put, List.setIfInBounds_toArray, List.set_cons_zero, List.set_cons_succ])); (refine wpAnyH_take (i := 6) (v := ?_) rfl (by kernel_rfl) (by kernel_rfl) (by kernel_rfl) (fun _ _ _ h => h) (Or.inl ⟨by kernel_rfl, ?_⟩) (by assumption) ?_; rotate_left; focus (intro w hSw; (try dsimp only at hSw); go_simp; try with_reducible rfl); (try simp only [List.getElem_toArray, List.getElem_cons_succ, List.getElem_cons_zero, Act.put, List.setIfInBounds_toArray, List.set_cons_zero, List.set_cons_succ])); (refine wpAnyH_take (i := 7) (v := ?_) rfl (by kernel_rfl) (by kernel_rfl) (by kernel_rfl) (fun _ _ _ h => h) (Or.inl ⟨by kernel_rfl, ?_⟩) (by assumption) ?_; rotate_left; focus (intro w hSw; (try dsimp only at hSw); go_simp; try with_reducible rfl); (try simp only [List.getElem_toArray, List.getElem_cons_succ, List.getElem_cons_zero, Act.put, List.setIfInBounds_toArray, List.set_cons_zero, List.set_cons_succ])); (refine wpAnyH_take (i := 8) (v := ?_) rfl (by kernel_rfl) (by kernel_rfl) (by kernel_rfl) (fun _ _ _ h => h) (Or.inl ⟨by kernel_rfl, ?_⟩) (by assumption) ?_; rotate_left; focus (intro w hSw; (try dsimp only at hSw); go_simp; try with_reducible rfl); (try simp only [List.getElem_toArray, List.getElem_cons_succ, List.getElem_cons_zero, Act.put, List.setIfInBounds_toArray, List.set_cons_zero, List.set_cons_succ]))
    (refine wpAnyH_take (i := 9) (v := ?_) rfl (by kernel_rfl) (by kernel_rfl) (by kernel_rfl) (fun _ _ _ h => h) (Or.inl ⟨by kernel_rfl, ?_⟩) (by assumption) ?_; rotate_left; focus (intro w hSw; (try dsimp only at hSw); go_simp; try with_reducible rfl); (try simp only [List.getElem_toArray, List.getElem_cons_succ, List.getElem_cons_zero, Act.put, List.setIfInBounds_toArray, List.set_cons_zero, List.set_cons_succ]))
    rw [← ha2]
    have HA2 := Lib.hid (And.intro ha2 hn2); clear ha2 hn2 hrd2
    have hbn := Below.ofNew (w := w1) (.cells #[.slice (some ⟨b, off, none⟩) kk c, .slice a2 (l.length - M) (c - M)] 27)
    have H2 : Hid (ObAt (w1.alloc (.cells #[.slice (some ⟨b, off, none⟩) kk c, .slice a2 (l.length - M) (c - M)] 27)).drew w.heap.size 29 #[.int .i64 t, .int .i64 wn, .slice (some ⟨b, off, none⟩) l.length c] ∧ ObAt (w1.alloc (.cells #[.slice (some ⟨b, off, none⟩) kk c, .slice a2 (l.length - M) (c - M)] 27)).drew (w.heap.size + 1) 29 #[.int .i64 0, .int .i64 0, .slice none 0 0] ∧ Below w.heap.size w (w1.alloc (.cells #[.slice (some ⟨b, off, none⟩) kk c, .slice a2 (l.length - M) (c - M)] 27)).drew ∧ ObAt (w1.alloc (.cells #[.slice (some ⟨b, off, none⟩) kk c, .slice a2 (l.length - M) (c - M)] 27)).drew w1.heap.size 27 #[.slice (some ⟨b, off, none⟩) kk c, .slice a2 (l.length - M) (c - M)]) :=
      ⟨(H0.out.1.keep hbn).drew, (H0.out.2.1.keep hbn).drew, (H0.out.2.2.trans (hbn.mono H0.out.2.2.size)).drew, (ObAt.new _ _ _).drew⟩
    clear hbn H0
    refine wpAnyH_ready (rs := [10]) (by kernel_rfl) (by simp) ?_; refine AllReadyH.cons rfl (fun K hK => ?_) AllReadyH.nil
    go_simp
    first
      | refine hK.out _ _ ⟨H2.out.1.cell 0, H2.out.1.cell 1, H2.out.1.cell 2, H2.out.2.1.lt⟩ (fun hHeld => ?_)
      | refine hK _ _ ⟨H2.out.1.cell 0, H2.out.1.cell 1, H2.out.1.cell 2, H2.out.2.1.lt⟩ (fun hHeld => ?_)
    clear hK K
    (try simp only [List.getElem_toArray, List.getElem_cons_succ, List.getElem_cons_zero, Act.put, List.setIfInBounds_toArray, List.set_cons_zero, List.set_cons_succ])
    refine wpAnyH_ready (rs := [11]) (by kernel_rfl) (by simp) ?_; refine AllReadyH.cons rfl (fun K hK => ?_) AllReadyH.nil
    go_simp
    go_at_call 102
    refine (HCC.out _ _ _ H2.out.2.2.2.lt (H2.out.2.2.2.cell 0) (H2.out.2.2.2.cell 1) H2.out.2.2.1).mono ?_; rintro e w3 ⟨v, rfl, o3, b3⟩
    have hb3 : Below w.heap.size w w3 := H2.out.2.2.1.trans (b3.mono H2.out.2.2.1.size)
    have H3 : Hid (ObAt w3 w.heap.size 29 #[.int .i64 t, .int .i64 wn, .slice (some ⟨b, off, none⟩) l.length c] ∧ ObAt w3 (w.heap.size + 1) 29 #[.int .i64 0, .int .i64 0, .slice none 0 0] ∧ Below w.heap.size w w3 ∧ w3.ownsRow w.heap.size 64 4 v (dropL l kk).length (ress (dropL l kk))) :=
      ⟨H2.out.1.keep b3, H2.out.2.1.keep b3, hb3, owns_mono o3 H2.out.2.2.1.size⟩
    clear b3 o3 hb3 H2 HCC
    obtain ⟨a3, c3, rfl, hc3, hrd3, -⟩ := own_cap H3.out.2.2.2
    have HR3 := Lib.hid hrd3; clear hrd3
    go_wp2_with fail
    first
      | refine hK.out _ _ ⟨H3.out.1.cell 0, H3.out.1.cell 1, H3.out.1.cell 2, H3.out.2.1.lt⟩ (fun hHeld => ?_)
      | refine hK _ _ ⟨H3.out.1.cell 0, H3.out.1.cell 1, H3.out.1.cell 2, H3.out.2.1.lt⟩ (fun hHeld => ?_)
    clear hK K
    (try simp only [List.getElem_toArray, List.getElem_cons_succ, List.getElem_cons_zero, Act.put, List.setIfInBounds_toArray, List.set_cons_zero, List.set_cons_succ])
    refine wpAnyH_ready (rs := [12]) (by kernel_rfl) (by simp) ?_; refine AllReadyH.cons rfl (fun K hK => ?_) AllReadyH.nil
    go_simp
    go_at_call 101
    refine (HLW.out a3 c3 hc3 _ HR3.out).mono ?_; rintro e w4 ⟨rfl, b4⟩
    have H4 := Lib.hid (And.intro (H3.out.1.keep b4) (And.intro (H3.out.2.1.keep b4) (And.intro (owns_below H3.out.2.2.2 b4) (H3.out.2.2.1.trans (b4.mono H3.out.2.2.1.size))))); clear b4 H3 HR3 HLW
    go_wp2_with fail
    first
      | refine hK.out _ _ ⟨H4.out.1.cell 0, H4.out.1.cell 1, H4.out.1.cell 2, H4.out.2.1.lt⟩ (fun hHeld => ?_)
      | refine hK _ _ ⟨H4.out.1.cell 0, H4.out.1.cell 1, H4.out.1.cell 2, H4.out.2.1.lt⟩ (fun hHeld => ?_)
    clear hK K
    (try simp only [List.getElem_toArray, List.getElem_cons_succ, List.getElem_cons_zero, Act.put, List.setIfInBounds_toArray, List.set_cons_zero, List.set_cons_succ])
    (refine wpAnyH_take (i := 13) (v := ?_) rfl (by kernel_rfl) (by kernel_rfl) (by kernel_rfl) (fun _ _ _ h => h) (Or.inl ⟨by kernel_rfl, ?_⟩) (by assumption) ?_; rotate_left; focus (intro w hSw; (try dsimp only at hSw); go_simp; try with_reducible rfl); (try simp only [List.getElem_toArray, List.getElem_cons_succ, List.getElem_cons_zero, Act.put, List.setIfInBounds_toArray, List.set_cons_zero, List.set_cons_succ])); (refine wpAnyH_take (i := 14) (v := ?_) rfl (by kernel_rfl) (by kernel_rfl) (by kernel_rfl) (fun _ _ _ h => h) (Or.inl ⟨by kernel_rfl, ?_⟩) (by assumption) ?_; rotate_left; focus (intro w hSw; (try dsimp only at hSw); go_simp; try with_reducible rfl); (try simp only [List.getElem_toArray, List.getElem_cons_succ, List.getElem_cons_zero, Act.put, List.setIfInBounds_toArray, List.set_cons_zero, List.set_cons_succ]))
    obtain ⟨q0, q1, q2, f0, f1, f2⟩ := H4.out.2.1.three
    have HF : Hid (∀ u0 u1 u2 : Value, (((w4.setCell ⟨w.heap.size + 1, 0, none⟩ u0).setCell ⟨w.heap.size + 1, 1, none⟩ u1).setCell ⟨w.heap.size + 1, 2, none⟩ u2).ownsRow w.heap.size 64 4 (.slice a3 (dropL l kk).length c3) (dropL l kk).length (ress (dropL l kk)) ∧ Below w.heap.size w (((w4.setCell ⟨w.heap.size + 1, 0, none⟩ u0).setCell ⟨w.heap.size + 1, 1, none⟩ u1).setCell ⟨w.heap.size + 1, 2, none⟩ u2) ∧ ObAt (((w4.setCell ⟨w.heap.size + 1, 0, none⟩ u0).setCell ⟨w.heap.size + 1, 1, none⟩ u1).setCell ⟨w.heap.size + 1, 2, none⟩ u2) w.heap.size 29 #[.int .i64 t, .int .i64 wn, .slice (some ⟨b, off, none⟩) l.length c] ∧ ObAt (((w4.setCell ⟨w.heap.size + 1, 0, none⟩ u0).setCell ⟨w.heap.size + 1, 1, none⟩ u1).setCell ⟨w.heap.size + 1, 2, none⟩ u2) (w.heap.size + 1) 29 #[u0, u1, u2]) := by
      intro u0 u1 u2
      refine ⟨owns_heap H4.out.2.2.1 (fun g e => ?_), ((H4.out.2.2.2.setCell (p := ⟨w.heap.size + 1, 0, none⟩) (by simp only; omega) u0).setCell (p := ⟨w.heap.size + 1, 1, none⟩) (by simp only; omega) u1).setCell (p := ⟨w.heap.size + 1, 2, none⟩) (by simp only; omega) u2, ((H4.out.1.other (by omega) u0).other (by omega) u1).other (by omega) u2, ((H4.out.2.1.put 0 u0).put 1 u1).put 2 u2⟩
      have hne : g ≠ w.heap.size + 1 := by
        intro e2
        subst e2
        exact owns_apart (g := w.heap.size + 1) (T := 29) (fr := (0, 0)) H4.out.2.1 (by decide) H4.out.2.2.1 e
      rw [Below.heap_setCell _ _ _ _ hne, Below.heap_setCell _ _ _ _ hne, Below.heap_setCell _ _ _ _ hne]
    refine wpAnyH_ready (rs := [15]) (by kernel_rfl) (by simp) ?_; refine AllReadyH.cons rfl (fun K hK => ?_) AllReadyH.nil
    go_simp
    first
      | refine hK.out _ _ ⟨(HF.out _ _ _).2.2.1.cell 0, (HF.out _ _ _).2.2.1.cell 1, (HF.out _ _ _).2.2.1.cell 2, (HF.out _ _ _).2.2.2.lt⟩ (fun hHeld => ?_)
      | refine hK _ _ ⟨(HF.out _ _ _).2.2.1.cell 0, (HF.out _ _ _).2.2.1.cell 1, (HF.out _ _ _).2.2.1.cell 2, (HF.out _ _ _).2.2.2.lt⟩ (fun hHeld => ?_)
    clear hK K
    (try simp only [List.getElem_toArray, List.getElem_cons_succ, List.getElem_cons_zero, Act.put, List.setIfInBounds_toArray, List.set_cons_zero, List.set_cons_succ])
    (refine wpAnyH_take (i := 16) (v := ?_) rfl (by kernel_rfl) (by kernel_rfl) (by kernel_rfl) (fun _ _ _ h => h) (Or.inl ⟨by kernel_rfl, ?_⟩) (by assumption) ?_; rotate_left; focus (intro w hSw; (try dsimp only at hSw); go_simp; try with_reducible rfl); (try simp only [List.getElem_toArray, List.getElem_cons_succ, List.getElem_cons_zero, Act.put, List.setIfInBounds_toArray, List.set_cons_zero, List.set_cons_succ]))
    refine wpAnyH_done (by kernel_rfl) ?_ _
    clear hHeld q0 q1 q2 f0 f1 f2
    obtain ⟨r0, r1, r2, -, -, -⟩ := (HF.out (.int .i64 t) (.int .i64 wn) (.slice a3 (dropL l kk).length c3)).2.2.2.three
    go_wp2_with fail
    refine bodyPost_ret (v := .tuple #[.agg #[.int .i64 t, .int .i64 wn, .slice a3 (dropL l kk).length c3], .bool true]) ?_ rfl ⟨a3, c3, rfl, (HF.out _ _ _).1, (HF.out _ _ _).2.1⟩
    simp [results, Try.results66, go_sem, *]
end Go.Proofs.Ytpfphjfpaoiicaa
