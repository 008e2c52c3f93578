/-
  Leagues: a result less (the model's).
-/
import Derived.Test.YtpfphjfpaoiicaaLgDropI
namespace Go.Proofs.Ytpfphjfpaoiicaa
open Go.RowKit
set_option linter.unusedVariables false
set_option linter.unusedSimpArgs false

theorem wp_append_res {w : World} {o : Oper} {a : Act} {K : Act → World → Prop} {Q : Exit → Act → World → Prop} (s x : Operand)
    (ho : o.op = .call { callee := .builtin .append, args := #[s, x], argTypes := #[27, 27] })
    (B : Nat) (w0 : World) (v : Value) (n : Nat) (xs ys : List Rs) (ad : Option Addr) (m c : Nat) (hs : a.eval s = v) (hx : a.eval x = .slice ad m c) (hm : m = ys.length)
    (hown : w.ownsRow B 64 4 v n (ress xs)) (hr : Reads w ad (ress ys)) (hbel : Below B w0 w) (hB : B ≤ w.heap.size) (hsz : n + ys.length ≤ 100000) (hne : ad ≠ none)
    (h : ∀ v' w', w'.ownsRow B 64 4 v' (n + ys.length) (ress (xs ++ ys)) → Below B w0 w' → w.grownBy w' v.ownBlock → K (a.put o.dst v') w') :
    o.wp Try.prog a w K Q := by
  subst hm
  obtain ⟨i0, hi, hz0, hz1, hz2⟩ := info_parts infoResult
  cases ad with
  | none => exact absurd rfl hne
  | some ad =>
    have hnews : ∀ j u, (ress ys)[j]? = some u → w.cell? (ad.add j) = some u := by
      intro j u hj
      rcases hr with hr | ⟨b, off, he, hlt, hc⟩
      · rw [hr] at hj; simp at hj
      · cases he
        have hjl : j < (ress ys).length := (List.getElem?_eq_some_iff.1 hj).1
        have e : (⟨b, off, none⟩ : Addr).add j = ⟨b, off + j, none⟩ := by unfold Addr.add; split <;> simp_all
        rw [e, hc j hjl, hj]
    obtain ⟨v', w', hrun, h2, h3, h4, h5⟩ := run_append_own_at (P := Try.prog) w B 27 o.type 64 i0 (.agg #[.int .i64 0, .int .i64 0, .int .i64 0, .int .i64 0]) 4 32 Try.underlying27 hi hz0 hz1 hz2 rfl (by decide) v n (ress xs) hown ad ys.length c (ress ys) (by rw [ress_len]; omega) hnews ress_one (by unfold maxLen; omega) (by omega) hB
    refine Lib.wp_append_run w s x _ _ ho v _ hs hx v' w' hrun (h v' w' (by rw [ress_append]; exact h2) (hbel.grown h3 hB (fun g hg => ?_)) h3)
    obtain ⟨_, h | ⟨g', cap, cur, hv, hb', _⟩⟩ := hown
    · rw [h.1] at hg; cases hg
    · rw [hv] at hg; simp [Value.ownBlock] at hg; omega

set_option maxHeartbeats 3200000 in
set_option maxRecDepth 100000 in
theorem specDrop_any (t wn : Int) (l : List Rs) (ad : Option Addr) (c : Nat) (k : Int) (w : World) (hl : (l.length : Int) ≤ 1000000000000) (hlc : l.length ≤ c) (hr : Reads w ad (ress l)) :
    Calls Try.prog 65 #[.agg #[.int .i64 t, .int .i64 wn, .slice ad l.length c], .int .i64 k] w fun e w' => LgR (if okD t wn l k then t else 0) (if okD t wn l k then wn else 0) (if okD t wn l k then dropL l k.toNat else []) (okD t wn l k) w e w' := by
  have HB0 : Hid (∀ x y : Obj, Below w.heap.size w ((w.alloc x).alloc y)) := fun x y => by (repeat (first | exact Below.refl _ _ | exact ‹Below _ _ _› | refine Below.drew ?_ | refine Below.alloc ?_ (by first | omega | (simp; done) | (simp; omega)) _ | refine Below.setCell ?_ (by first | omega | (simp; done) | (simp; omega)) _ | refine Below.trans ?_ (Below.mono ‹Below _ _ _› (by first | omega | (simp; done) | (simp; omega)))))
  have HG := Lib.hid (fun W (hb : Below w.heap.size w W) => lgGood_any t wn l ad c W hl hlc (hr.old hb))
  have HR := Lib.hid hr; clear hr
  have A1 := Lib.hid ((ObAt.new w 29 #[.int .i64 t, .int .i64 wn, .slice ad l.length c]).old (.cells #[.int .i64 0, .int .i64 0, .slice none 0 0] 29))
  have A2 := ObAt.new (w.alloc (.cells #[.int .i64 t, .int .i64 wn, .slice ad l.length c] 29)) 29 #[.int .i64 0, .int .i64 0, .slice none 0 0]
  rw [World.size_alloc] at A2
  have A2 := Lib.hid A2
  cases hok : okD t wn l k
  · simp only [Bool.false_eq_true, if_false]
    have hcs : goodL t wn l = false ∨ (goodL t wn l = true ∧ inR k 0 ((l.length : Int) - 1) = false) := by
      unfold okD at hok
      cases hg : goodL t wn l
      · exact Or.inl rfl
      · rw [hg] at hok
        refine Or.inr ⟨rfl, ?_⟩
        have h2 : ¬ (0 ≤ k ∧ k < l.length) := by simpa using hok
        simp only [inR, Bool.and_eq_false_iff, decide_eq_false_iff_not]
        omega
    clear hok
    rcases hcs with hg | ⟨hg, hin⟩
    · rw [hg] at HG; clear hg
      go_enter Try.func65, Try.ntmps65
      go_wp2_with fail
      refine (HG.out _ (HB0.out _ _)).mono ?_; rintro e w1 ⟨rfl, b1⟩
      have H1 := Lib.hid (And.intro (A2.out.keep b1) (And.intro (A1.out.keep b1) ((HB0.out _ _).trans (b1.mono (HB0.out _ _).size)))); clear b1 A1 A2
      obtain ⟨q0, q1, q2, f0, f1, f2⟩ := H1.out.1.three
      obtain ⟨p0, p1, p2, -, -, -⟩ := H1.out.2.1.three
      have HF := Lib.hid (fun u0 u1 u2 : Value => ((H1.out.2.2.setCell (p := ⟨w.heap.size + 1, 0, none⟩) (by simp only; omega) u0).setCell (p := ⟨w.heap.size + 1, 1, none⟩) (by simp only; omega) u1).setCell (p := ⟨w.heap.size + 1, 2, none⟩) (by simp only; omega) u2)
      go_wp2_with fail
      refine bodyPost_ret (v := .tuple #[.agg #[.int .i64 0, .int .i64 0, .slice none 0 0], .bool false]) ?_ rfl ⟨none, 0, rfl, owns_nil4 _ _ _, HF.out _ _ _⟩
      simp [results, Try.results65, go_sem, *]
    · have HIN := Lib.hid hin; clear hin
      rw [hg] at HG; clear hg
      go_enter Try.func65, Try.ntmps65
      go_wp2_with fail
      refine (HG.out _ (HB0.out _ _)).mono ?_; rintro e w1 ⟨rfl, b1⟩
      have H1 := Lib.hid (And.intro (A2.out.keep b1) (And.intro (A1.out.keep b1) ((HB0.out _ _).trans (b1.mono (HB0.out _ _).size)))); clear b1 A1 A2
      obtain ⟨q0, q1, q2, f0, f1, f2⟩ := H1.out.1.three
      obtain ⟨p0, p1, p2, -, -, -⟩ := H1.out.2.1.three
      have HF := Lib.hid (fun u0 u1 u2 : Value => ((H1.out.2.2.setCell (p := ⟨w.heap.size + 1, 0, none⟩) (by simp only; omega) u0).setCell (p := ⟨w.heap.size + 1, 1, none⟩) (by simp only; omega) u1).setCell (p := ⟨w.heap.size + 1, 2, none⟩) (by simp only; omega) u2)
      go_wp2_with fail
      refine (l1In_any _ _ _ _).mono ?_; rintro e w2 ⟨rfl, rfl⟩
      rw [HIN.out]
      go_wp2_with fail
      refine bodyPost_ret (v := .tuple #[.agg #[.int .i64 0, .int .i64 0, .slice none 0 0], .bool false]) ?_ rfl ⟨none, 0, rfl, owns_nil4 _ _ _, HF.out _ _ _⟩
      simp [results, Try.results65, go_sem, *]
  · have hok2 := hok
    simp only [okD, Bool.and_eq_true, decide_eq_true_eq] at hok2
    obtain ⟨hg, k0, k1⟩ := hok2
    obtain ⟨kk, rfl⟩ : ∃ kk : Nat, k = kk := ⟨k.toNat, by omega⟩
    rw [Int.toNat_natCast]
    have h56 := (goodL_bd hg).2.2.2.2
    have hgt := goodL_drop hg kk
    have hdl := dropL_len l (k := kk) (by omega)
    obtain ⟨b, off, rfl, hlt, -⟩ := rcells_of_reads HR.out (by omega)
    obtain ⟨M, hM⟩ : ∃ M, M = kk + 1 := ⟨_, rfl⟩
    obtain ⟨a2, ha2⟩ : ∃ a2, a2 = (if c = M then some (⟨b, off, none⟩ : Addr) else some ⟨b, off + M * 4, none⟩) := ⟨_, rfl⟩
    have hrd2 : ∀ W, Below w.heap.size w W → Reads W a2 (ress (l.drop M)) := fun W hb => by
      by_cases q : c = M
      · left
        rw [List.drop_of_length_le (by omega)]; rfl
      · rw [ha2, if_neg q]; exact reads_drop (HR.out.old hb) M (by omega)
    have hn2 : a2 ≠ none := by rw [ha2]; split <;> simp
    have HOW := Lib.hid (fun W (hb : Below w.heap.size w W) => lgOwn_any (l.take kk) (some ⟨b, off, none⟩) c W (by rw [List.length_take]; omega) (reads_take (HR.out.old hb) kk (by omega)))
    rw [show (l.take kk).length = kk from by rw [List.length_take]; omega] at HOW
    have hin : inR kk 0 ((l.length : Int) - 1) = true := by simp [inR]; omega
    have HIN := Lib.hid hin; clear hin
    rw [hg] at HG; clear hg hgt hok k0
    simp only [if_true]
    go_enter Try.func65, Try.ntmps65
    go_wp2_with fail
    refine (HG.out _ (HB0.out _ _)).mono ?_; rintro e w1 ⟨rfl, b1⟩
    have H0 := Lib.hid (And.intro (A1.out.keep b1) (And.intro (A2.out.keep b1) ((HB0.out _ _).trans (b1.mono (HB0.out _ _).size))))
    clear b1 A1 A2 HG HB0
    obtain ⟨p0, p1, p2, -, -, -⟩ := H0.out.1.three
    go_wp2_with fail
    refine (l1In_any _ _ _ _).mono ?_; rintro e w2 ⟨rfl, rfl⟩
    rw [HIN.out]
    go_wp2_with fail
    clear p0 p1 p2
    have K2 : kk ≤ c := by omega
    have K3 : M ≤ l.length := by omega
    have K4 : IntKind.i64.wrap ((kk : Int) + 1) = (M : Int) := by rw [IntKind.wrap_i64]; omega
    have HM := Lib.hid hM; clear hM
    refine wp_region_held_drew (S := fun w' => w'.cell? ⟨w.heap.size, 0, none⟩ = some (.int .i64 t) ∧ w'.cell? ⟨w.heap.size, 1, none⟩ = some (.int .i64 wn) ∧ w'.cell? ⟨w.heap.size, 2, none⟩ = some (.slice (some ⟨b, off, none⟩) l.length c) ∧ w.heap.size + 1 < w'.heap.size) (by kernel_rfl) ⟨H0.out.1.cell 0, H0.out.1.cell 1, H0.out.1.cell 2, H0.out.2.1.lt⟩ (fun hHeld => ?_)
    (refine wpAnyH_take (i := 0) (v := ?_) rfl (by kernel_rfl) (by kernel_rfl) (by kernel_rfl) (fun _ _ _ h => h) (Or.inl ⟨by kernel_rfl, ?_⟩) (by assumption) ?_; rotate_left; focus (intro w hSw; (try dsimp only at hSw); go_simp; try with_reducible rfl); (try simp only [List.getElem_toArray, List.getElem_cons_succ, List.getElem_cons_zero, Act.put, List.setIfInBounds_toArray, List.set_cons_zero, List.set_cons_succ])); (refine wpAnyH_take (i := 1) (v := ?_) rfl (by kernel_rfl) (by kernel_rfl) (by kernel_rfl) (fun _ _ _ h => h) (Or.inl ⟨by kernel_rfl, ?_⟩) (by assumption) ?_; rotate_left; focus (intro w hSw; (try dsimp only at hSw); go_simp; try with_reducible rfl); (try simp only [List.getElem_toArray, List.getElem_cons_succ, List.getElem_cons_zero, Act.put, List.setIfInBounds_toArray, List.set_cons_zero, List.set_cons_succ])); (refine wpAnyH_take (i := 2) (v := ?_) rfl (by kernel_rfl) (by kernel_rfl) (by kernel_rfl) (fun _ _ _ h => h) (Or.inl ⟨by kernel_rfl, ?_⟩) (by assumption) ?_; rotate_left; focus (intro w hSw; (try dsimp only at hSw); go_simp; try with_reducible rfl); (try simp only [List.getElem_toArray, List.getElem_cons_succ, List.getElem_cons_zero, Act.put, List.setIfInBounds_toArray, List.set_cons_zero, List.set_cons_succ])); (refine wpAnyH_take (i := 3) (v := ?_) rfl (by kernel_rfl) (by kernel_rfl) (by kernel_rfl) (fun _ _ _ h => h) (Or.inl ⟨by kernel_rfl, ?_⟩) (by assumption) ?_; rotate_left; focus (intro w hSw; (try dsimp only at hSw); go_simp; try with_reducible rfl); (try simp only [List.getElem_toArray, List.getElem_cons_succ, List.getElem_cons_zero, Act.put, List.setIfInBounds_toArray, List.set_cons_zero, List.set_cons_succ])); (refine wpAnyH_take (i := 4) (v := ?_) rfl (by kernel_rfl) (by kernel_rfl) (by kernel_rfl) (fun _ _ _ h => h) (Or.inl ⟨by kernel_rfl, ?_⟩) (by assumption) ?_; rotate_left; focus (intro w hSw; (try dsimp only at hSw); go_simp; try with_reducible rfl); (try simp only [List.getElem_toArray, List.getElem_cons_succ, List.getElem_cons_zero, Act.put, List.setIfInBounds_toArray, List.set_cons_zero, List.set_cons_succ])); (refine wpAnyH_take (i := 5) (v := ?_) rfl (by kernel_rfl) (by kernel_rfl) (by kernel_rfl) (fun _ _ _ h => h) (Or.inl ⟨by kernel_rfl, ?_⟩) (by assumption) ?_; rotate_left; focus (intro w hSw; (try dsimp only at hSw); go_simp; try with_reducible rfl); (try simp only [List.getElem_toArray, List.getElem_cons_succ, List.getElem_cons_zero, Act.put, List.setIfInBounds_toArray, List.set_cons_zero, List.set_cons_succ])); (refine wpAnyH_take (i := 6) (v := ?_) rfl (by kernel_rfl) (by kernel_rfl) (by kernel_rfl) (fun _ _ _ h => h) (Or.inl ⟨by kernel_rfl, ?_⟩) (by assumption) ?_; rotate_left; focus (intro w hSw; (try dsimp only at hSw); go_simp; try with_reducible rfl); (try simp only [List.getElem_toArray, List.getElem_cons_succ, List.getElem_cons_zero, Act.put, List.setIfInBounds_toArray, List.set_cons_zero, List.set_cons_succ])); (refine wpAnyH_take (i := 7) (v := ?_) rfl (by kernel_rfl) (by kernel_rfl) (by kernel_rfl) (fun _ _ _ h => h) (Or.inl ⟨by kernel_rfl, ?_⟩) (by assumption) ?_; rotate_left; focus (intro w hSw; (try dsimp only at hSw); go_simp; try with_reducible rfl); (try simp only [List.getElem_toArray, List.getElem_cons_succ, List.getElem_cons_zero, Act.put, List.setIfInBounds_toArray, List.set_cons_zero, List.set_cons_succ]))
    (refine wpAnyH_take (i := 9) (v := ?_) rfl (by kernel_rfl) (by kernel_rfl) (by kernel_rfl) (fun _ _ _ h => h) (Or.inl ⟨by kernel_rfl, ?_⟩) (by assumption) ?_; rotate_left; focus (intro w hSw; (try dsimp only at hSw); go_simp; try with_reducible rfl); (try simp only [List.getElem_toArray, List.getElem_cons_succ, List.getElem_cons_zero, Act.put, List.setIfInBounds_toArray, List.set_cons_zero, List.set_cons_succ])); (refine wpAnyH_take (i := 10) (v := ?_) rfl (by kernel_rfl) (by kernel_rfl) (by kernel_rfl) (fun _ _ _ h => h) (Or.inl ⟨by kernel_rfl, ?_⟩) (by assumption) ?_; rotate_left; focus (intro w hSw; (try dsimp only at hSw); go_simp; try with_reducible rfl); (try simp only [List.getElem_toArray, List.getElem_cons_succ, List.getElem_cons_zero, Act.put, List.setIfInBounds_toArray, List.set_cons_zero, List.set_cons_succ])); (refine wpAnyH_take (i := 11) (v := ?_) rfl (by kernel_rfl) (by kernel_rfl) (by kernel_rfl) (fun _ _ _ h => h) (Or.inl ⟨by kernel_rfl, ?_⟩) (by assumption) ?_; rotate_left; focus (intro w hSw; (try dsimp only at hSw); go_simp; try with_reducible rfl); (try simp only [List.getElem_toArray, List.getElem_cons_succ, List.getElem_cons_zero, Act.put, List.setIfInBounds_toArray, List.set_cons_zero, List.set_cons_succ])); (refine wpAnyH_take (i := 12) (v := ?_) rfl (by kernel_rfl) (by kernel_rfl) (by kernel_rfl) (fun _ _ _ h => h) (Or.inl ⟨by kernel_rfl, ?_⟩) (by assumption) ?_; rotate_left; focus (intro w hSw; (try dsimp only at hSw); go_simp; try with_reducible rfl); (try simp only [List.getElem_toArray, List.getElem_cons_succ, List.getElem_cons_zero, Act.put, List.setIfInBounds_toArray, List.set_cons_zero, List.set_cons_succ])); (refine wpAnyH_take (i := 13) (v := ?_) rfl (by kernel_rfl) (by kernel_rfl) (by kernel_rfl) (fun _ _ _ h => h) (Or.inl ⟨by kernel_rfl, ?_⟩) (by assumption) ?_; rotate_left; focus (intro w hSw; (try dsimp only at hSw); go_simp; try with_reducible rfl); (try simp only [List.getElem_toArray, List.getElem_cons_succ, List.getElem_cons_zero, Act.put, List.setIfInBounds_toArray, List.set_cons_zero, List.set_cons_succ]))
    rw [← ha2]
    have HA2 := Lib.hid (And.intro hrd2 hn2); clear ha2 hn2 hrd2
    have H1d : Hid (ObAt w1.drew w.heap.size 29 #[.int .i64 t, .int .i64 wn, .slice (some ⟨b, off, none⟩) l.length c] ∧ ObAt w1.drew (w.heap.size + 1) 29 #[.int .i64 0, .int .i64 0, .slice none 0 0] ∧ Below w.heap.size w w1.drew) := ⟨H0.out.1.drew, H0.out.2.1.drew, H0.out.2.2.drew⟩
    clear H0
    refine wpAnyH_ready (rs := [8]) (by kernel_rfl) (by simp) ?_; refine AllReadyH.cons rfl (fun K hK => ?_) AllReadyH.nil
    go_simp
    go_at_call 100
    refine (HOW.out _ H1d.out.2.2).mono ?_; rintro e w3 ⟨v, rfl, o3, b3⟩
    have H3 : Hid (ObAt w3 w.heap.size 29 #[.int .i64 t, .int .i64 wn, .slice (some ⟨b, off, none⟩) l.length c] ∧ ObAt w3 (w.heap.size + 1) 29 #[.int .i64 0, .int .i64 0, .slice none 0 0] ∧ Below w.heap.size w w3 ∧ w3.ownsRow w.heap.size 64 4 v kk (ress (l.take kk))) :=
      ⟨H1d.out.1.keep b3, H1d.out.2.1.keep b3, H1d.out.2.2.trans (b3.mono H1d.out.2.2.size), owns_mono o3 H1d.out.2.2.size⟩
    clear b3 o3 H1d HOW
    go_wp2_with fail
    first
      | refine hK.out _ _ ⟨H3.out.1.cell 0, H3.out.1.cell 1, H3.out.1.cell 2, H3.out.2.1.lt⟩ (fun hHeld => ?_)
      | refine hK _ _ ⟨H3.out.1.cell 0, H3.out.1.cell 1, H3.out.1.cell 2, H3.out.2.1.lt⟩ (fun hHeld => ?_)
    clear hK K
    (try simp only [List.getElem_toArray, List.getElem_cons_succ, List.getElem_cons_zero, Act.put, List.setIfInBounds_toArray, List.set_cons_zero, List.set_cons_succ])
    refine wpAnyH_ready (rs := [14]) (by kernel_rfl) (by simp) ?_; refine AllReadyH.cons rfl (fun K hK => ?_) AllReadyH.nil
    refine wp_append_res _ _ rfl w.heap.size w v kk (l.take kk) (l.drop M) a2 (l.length - M) (c - M) rfl rfl (by rw [List.length_drop]) H3.out.2.2.2 (HA2.out.1 _ H3.out.2.2.1) H3.out.2.2.1 H3.out.2.2.1.size (by rw [List.length_drop]; omega) HA2.out.2 ?_
    intro v' w4 o4 b4 g4
    have hln : kk + (l.drop M).length = (dropL l kk).length := by rw [List.length_drop]; have := HM.out; omega
    rw [hln, HM.out] at o4
    have H4 : Hid (ObAt w4 w.heap.size 29 #[.int .i64 t, .int .i64 wn, .slice (some ⟨b, off, none⟩) l.length c] ∧ ObAt w4 (w.heap.size + 1) 29 #[.int .i64 0, .int .i64 0, .slice none 0 0] ∧ w4.ownsRow w.heap.size 64 4 v' (dropL l kk).length (ress (dropL l kk)) ∧ Below w.heap.size w w4) :=
      ⟨H3.out.1.grow (T' := 64) (by decide) H3.out.2.2.2 g4, H3.out.2.1.grow (T' := 64) (by decide) H3.out.2.2.2 g4, o4, b4⟩
    clear o4 b4 g4 hln H3
    obtain ⟨a3, c3, rfl, hc3, -, -⟩ := own_cap H4.out.2.2.1
    first
      | refine hK.out _ _ ⟨H4.out.1.cell 0, H4.out.1.cell 1, H4.out.1.cell 2, H4.out.2.1.lt⟩ (fun hHeld => ?_)
      | refine hK _ _ ⟨H4.out.1.cell 0, H4.out.1.cell 1, H4.out.1.cell 2, H4.out.2.1.lt⟩ (fun hHeld => ?_)
    clear hK K
    (try simp only [List.getElem_toArray, List.getElem_cons_succ, List.getElem_cons_zero, Act.put, List.setIfInBounds_toArray, List.set_cons_zero, List.set_cons_succ])
    (refine wpAnyH_take (i := 15) (v := ?_) rfl (by kernel_rfl) (by kernel_rfl) (by kernel_rfl) (fun _ _ _ h => h) (Or.inl ⟨by kernel_rfl, ?_⟩) (by assumption) ?_; rotate_left; focus (intro w hSw; (try dsimp only at hSw); go_simp; try with_reducible rfl); (try simp only [List.getElem_toArray, List.getElem_cons_succ, List.getElem_cons_zero, Act.put, List.setIfInBounds_toArray, List.set_cons_zero, List.set_cons_succ]))
    obtain ⟨q0, q1, q2, f0, f1, f2⟩ := H4.out.2.1.three
    have HF : Hid (∀ u0 u1 u2 : Value, (((w4.setCell ⟨w.heap.size + 1, 0, none⟩ u0).setCell ⟨w.heap.size + 1, 1, none⟩ u1).setCell ⟨w.heap.size + 1, 2, none⟩ u2).ownsRow w.heap.size 64 4 (.slice a3 (dropL l kk).length c3) (dropL l kk).length (ress (dropL l kk)) ∧ Below w.heap.size w (((w4.setCell ⟨w.heap.size + 1, 0, none⟩ u0).setCell ⟨w.heap.size + 1, 1, none⟩ u1).setCell ⟨w.heap.size + 1, 2, none⟩ u2) ∧ ObAt (((w4.setCell ⟨w.heap.size + 1, 0, none⟩ u0).setCell ⟨w.heap.size + 1, 1, none⟩ u1).setCell ⟨w.heap.size + 1, 2, none⟩ u2) w.heap.size 29 #[.int .i64 t, .int .i64 wn, .slice (some ⟨b, off, none⟩) l.length c] ∧ ObAt (((w4.setCell ⟨w.heap.size + 1, 0, none⟩ u0).setCell ⟨w.heap.size + 1, 1, none⟩ u1).setCell ⟨w.heap.size + 1, 2, none⟩ u2) (w.heap.size + 1) 29 #[u0, u1, u2]) := by
      intro u0 u1 u2
      refine ⟨owns_heap H4.out.2.2.1 (fun g e => ?_), ((H4.out.2.2.2.setCell (p := ⟨w.heap.size + 1, 0, none⟩) (by simp only; omega) u0).setCell (p := ⟨w.heap.size + 1, 1, none⟩) (by simp only; omega) u1).setCell (p := ⟨w.heap.size + 1, 2, none⟩) (by simp only; omega) u2, ((H4.out.1.other (by omega) u0).other (by omega) u1).other (by omega) u2, ((H4.out.2.1.put 0 u0).put 1 u1).put 2 u2⟩
      have hne : g ≠ w.heap.size + 1 := by
        intro e2
        subst e2
        exact owns_apart (g := w.heap.size + 1) (T := 29) (fr := (0, 0)) H4.out.2.1 (by decide) H4.out.2.2.1 e
      rw [Below.heap_setCell _ _ _ _ hne, Below.heap_setCell _ _ _ _ hne, Below.heap_setCell _ _ _ _ hne]
    refine wpAnyH_ready (rs := [16]) (by kernel_rfl) (by simp) ?_; refine AllReadyH.cons rfl (fun K hK => ?_) AllReadyH.nil
    go_simp
    first
      | refine hK.out _ _ ⟨(HF.out _ _ _).2.2.1.cell 0, (HF.out _ _ _).2.2.1.cell 1, (HF.out _ _ _).2.2.1.cell 2, (HF.out _ _ _).2.2.2.lt⟩ (fun hHeld => ?_)
      | refine hK _ _ ⟨(HF.out _ _ _).2.2.1.cell 0, (HF.out _ _ _).2.2.1.cell 1, (HF.out _ _ _).2.2.1.cell 2, (HF.out _ _ _).2.2.2.lt⟩ (fun hHeld => ?_)
    clear hK K
    (try simp only [List.getElem_toArray, List.getElem_cons_succ, List.getElem_cons_zero, Act.put, List.setIfInBounds_toArray, List.set_cons_zero, List.set_cons_succ])
    (refine wpAnyH_take (i := 17) (v := ?_) rfl (by kernel_rfl) (by kernel_rfl) (by kernel_rfl) (fun _ _ _ h => h) (Or.inl ⟨by kernel_rfl, ?_⟩) (by assumption) ?_; rotate_left; focus (intro w hSw; (try dsimp only at hSw); go_simp; try with_reducible rfl); (try simp only [List.getElem_toArray, List.getElem_cons_succ, List.getElem_cons_zero, Act.put, List.setIfInBounds_toArray, List.set_cons_zero, List.set_cons_succ]))
    refine wpAnyH_done (by kernel_rfl) ?_ _
    clear hHeld q0 q1 q2 f0 f1 f2
    obtain ⟨r0, r1, r2, -, -, -⟩ := (HF.out (.int .i64 t) (.int .i64 wn) (.slice a3 (dropL l kk).length c3)).2.2.2.three
    go_wp2_with fail
    refine bodyPost_ret (v := .tuple #[.agg #[.int .i64 t, .int .i64 wn, .slice a3 (dropL l kk).length c3], .bool true]) ?_ rfl ⟨a3, c3, rfl, (HF.out _ _ _).1, (HF.out _ _ _).2.1⟩
    simp [results, Try.results65, go_sem, *]
end Go.Proofs.Ytpfphjfpaoiicaa
