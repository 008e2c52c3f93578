/-
  Pins: the model's first game: the walk.
-/
import Derived.Test.YthbkclgdoopbpaaPtGs
namespace Go.Proofs.Ythbkclgdoopbpaa
open Go.RowKit
set_option linter.unusedVariables false
set_option linter.unusedSimpArgs false

theorem own_cells {w : World} {B : Nat} {v : Value} {L : List Int} (h : w.ownsRow B 3 1 v L.length (ints L)) (hne : L ≠ []) : ∃ g c, v = .slice (some ⟨g, 0, none⟩) L.length c ∧ ∀ j, j < L.length → w.cell? ⟨g, j, none⟩ = some (.int .i64 (L.getD j 0)) := by
  obtain ⟨hl, ⟨rfl, hn⟩ | ⟨g, cap, cur, rfl, hg, hh, hn, hcap, hcs, htk⟩⟩ := h
  · exact absurd (List.length_eq_zero_iff.1 hn) hne
  · refine ⟨g, cap, rfl, fun j hj => ?_⟩
    rw [cell_of_row _ _ _ _ _ _ hh]
    have e : (ints L)[j]? = some (.int .i64 (L.getD j 0)) := ints_get L j hj
    rw [← htk, List.getElem?_take_of_lt (by omega)] at e
    simpa using e
theorem own_reads {w : World} {B : Nat} {v : Value} {L : List Int} (h : w.ownsRow B 3 1 v L.length (ints L)) : ∃ a c, v = .slice a L.length c ∧ Reads w a (ints L) := by
  by_cases hne : L = []
  · subst hne
    obtain ⟨hl, ⟨rfl, hn⟩ | ⟨g, cap, cur, rfl, hg, hh, hn, hcap, hcs, htk⟩⟩ := h
    · exact ⟨none, 0, rfl, .inl rfl⟩
    · exact ⟨_, cap, rfl, .inl rfl⟩
  · obtain ⟨g, c, e, hc⟩ := own_cells h hne
    have h0 := hc 0 (List.length_pos_iff.2 hne)
    refine ⟨_, c, e, .inr ⟨g, 0, rfl, World.block_lt_of_cell? _ _ h0, fun j hj => ?_⟩⟩
    have hj2 : j < L.length := by simpa [ints] using hj
    rw [Nat.zero_add, hc j hj2, ints_get L j hj2]
def lenV : Value → Nat
  | .slice _ n _ => n
  | _ => 0
/-- The place in its box; the table as it was. -/
def PlX (F : Nat) (g : St) (ab : Option Addr) (cb g8 : Nat) (wk : World) (vt : Value) (w wr : World) : Prop := ObAt wr g8 65 #[.int .i64 (frA F g), .slice ab (bsA F g).length cb, .int .i64 (stA F g), .bool (overG F g)] ∧ Reads wr ab (ints (bsA F g)) ∧ w.heap.size ≤ g8 ∧ wk.heap.size ≤ g8 ∧ TabLow wk F vt wr ∧ Below w.heap.size w wr
theorem PlX.keep {F : Nat} {g : St} {ab : Option Addr} {cb g8 : Nat} {wk : World} {vt : Value} {w wr w' : World} (h : PlX F g ab cb g8 wk vt w wr) (hb : Below wr.heap.size wr w') : PlX F g ab cb g8 wk vt w w' :=
  ⟨h.1.keep hb, h.2.1.old hb, h.2.2.1, h.2.2.2.1, h.2.2.2.2.1.keep hb, h.2.2.2.2.2.trans (hb.mono h.2.2.2.2.2.size)⟩
theorem below_put4 {B g : Nat} {a w : World} (h : Below B a w) (hg : B ≤ g) (x0 x1 x2 x3 : Value) : Below B a ((((w.setCell ⟨g, 0, none⟩ x0).setCell ⟨g, 1, none⟩ x1).setCell ⟨g, 2, none⟩ x2).setCell ⟨g, 3, none⟩ x3) :=
  (((h.setCell (p := ⟨g, 0, none⟩) hg _).setCell (p := ⟨g, 1, none⟩) hg _).setCell (p := ⟨g, 2, none⟩) hg _).setCell (p := ⟨g, 3, none⟩) hg _
theorem PlX.put {F : Nat} {g g' : St} {ab ab' : Option Addr} {cb cb' g8 : Nat} {wk : World} {vt : Value} {w wr w1 : World} (h : PlX F g ab cb g8 wk vt w wr) (hr : Reads w1 ab' (ints (bsA F g'))) (hnew : ∀ b off, ab' = some ⟨b, off, none⟩ → wr.heap.size ≤ b) (hb : Below wr.heap.size wr w1) :
    PlX F g' ab' cb' g8 wk vt w ((((w1.setCell ⟨g8, 0, none⟩ (.int .i64 (frA F g'))).setCell ⟨g8, 1, none⟩ (.slice ab' (bsA F g').length cb')).setCell ⟨g8, 2, none⟩ (.int .i64 (stA F g'))).setCell ⟨g8, 3, none⟩ (.bool (overG F g'))) := by
  obtain ⟨h1, h2, h3, h4, h5, h6⟩ := h.keep hb
  have hlt := h.1.lt
  refine ⟨?_, reads_other hr (fun b off e => by have := hnew b off e; omega) (fun k hk => heap_put4' _ _ _ _ _ _ hk) (by simp), h3, h4, ⟨h5.1, below_put4 h5.2 h4 _ _ _ _⟩, below_put4 h6 h3 _ _ _ _⟩
  have := (((h1.put 0 (.int .i64 (frA F g'))).put 1 (.slice ab' (bsA F g').length cb')).put 2 (.int .i64 (stA F g'))).put 3 (.bool (overG F g'))
  exact this
theorem PlX.fresh {F : Nat} {g : St} {ab : Option Addr} {cb g8 : Nat} {wk : World} {vt : Value} {w wr : World} (h : PlX F g ab cb g8 wk vt w wr) : PlX F g ab cb wr.heap.size wk vt w (wr.alloc (.cells #[.int .i64 (frA F g), .slice ab (bsA F g).length cb, .int .i64 (stA F g), .bool (overG F g)] 65)) := by
  obtain ⟨h1, h2, h3, h4, h5, h6⟩ := h.keep (below_newT wr (.cells #[.int .i64 (frA F g), .slice ab (bsA F g).length cb, .int .i64 (stA F g), .bool (overG F g)] 65))
  exact ⟨ObAt.new wr _ _, h2, h.2.2.2.2.2.size, h.2.2.2.2.1.2.size, h5, h6⟩
/-- Under way. -/
def GoS (F t : Nat) (w : World) (g8 : Nat) (wk : World) (vt v7 : Value) (wr : World) : Prop :=
  ∃ rolls g ab cb, gameG F ([], []) rolls = some g ∧ InvG F g ∧ PlanS F t g ∧ wr.ownsRow w.heap.size 3 1 v7 rolls.length (ints rolls) ∧ PlX F g ab cb g8 wk vt w wr
theorem game_len30 {F : Nat} (hF1 : 1 ≤ F) (hF2 : F ≤ 10) {rolls : List Int} {g : St} (h : gameG F ([], []) rolls = some g) : rolls.length ≤ 30 := by
  have h1 := game_inv rolls _ _ (inv_start hF1) h
  have h2 := game_rolls rolls _ _ h
  have h3 := flat_len h1
  rw [h2] at h3
  simp [rollsG] at h3; omega
theorem game_snoc2 {F : Nat} {rolls : List Int} {g : St} {p : Int} (h : gameG F ([], []) rolls = some g) (hf : fitsG F g p = true) : gameG F ([], []) (rolls ++ [p]) = some (stepG F g p) := by
  rw [game_append, h]; simp [gameG, hf]
theorem game_nat {F : Nat} {rolls : List Int} {g : St} (h : gameG F ([], []) rolls = some g) : bsI (toN rolls) = rolls := by
  have h1 := game_fits rolls _ _ h
  unfold bsI toN
  rw [List.map_map]
  conv => rhs; rw [← List.map_id rolls]
  exact List.map_congr_left fun x hx => by have := h1 x hx; simp; omega

set_option maxRecDepth 100000 in
set_option maxHeartbeats 25600000 in
theorem specFirstGame_loop (F t : Nat) (hF1 : 1 ≤ F) (hF2 : F ≤ 10) (ht : t ≤ 300) (w : World) :
    Calls Try.prog 11 #[.int .i64 F, .int .i64 t] w (RowQ (bsI ((gmF F 0 t).getD [])) (gmF F 0 t).isSome w) := by
  have HT := Lib.hid (fun W => boTotal_q (F : Int) (t : Int) W)
  rw [show gmB (F : Int) (t : Int) = true by simp [gmB, inQ]; omega] at HT
  have HTB := Lib.hid (fun W => boTable_any F hF1 hF2 W)
  have HFM := Lib.hid (fun v W h => boFrom_nil F hF1 hF2 v W h)
  have htt : (t : Int) < 301 := by omega
  have ht0 : t < 301 := by omega
  have HG := Lib.hid (fun (W : World) g (fn : Nat → Nat) (h : RowAt W g 3 (rowN301 fn)) => (show W.cell? ⟨g, t, none⟩ = some (.int .i64 ((fn t : Nat) : Int)) by
    have := h.cell (j := t) (by rw [rowN301_len]; exact ht0)
    rw [rowN301_get _ ht0] at this; exact this))
  go_enter Try.func11, Try.ntmps11
  go_wp2_with fail
  refine (HT.out _).mono ?_; rintro e w1 ⟨rfl, rfl⟩
  go_wp2_with fail
  refine (HTB.out _).mono ?_; rintro e w2 ⟨vt, rfl, ht2, b2⟩
  have H2 := Lib.hid (And.intro ht2 b2); clear ht2 b2
  go_wp2_with fail
  refine (HFM.out _ _ H2.out.1).mono ?_; rintro e w3 ⟨g, rfl, hr3, b3⟩
  have c1 := HG.out w3 g _ hr3
  have H3 := Lib.hid (And.intro (show TabLow w2 F vt w3 from ⟨H2.out.1, b3⟩) (H2.out.2.trans (b3.mono H2.out.2.size))); clear hr3 b3 H2
  by_cases hz : tl F 0 t = 0
  · rw [hz] at c1
    have hno : gmF F 0 t = none := by
      cases hg : gmF F 0 t with
      | none => rfl
      | some l =>
        have := gmF_some F 0 t (by rw [hg]; rfl) hF1
        omega
    have HNO := Lib.hid hno; clear hno hz
    rw [show (((0 : Nat) : Int)) = 0 from rfl] at c1
    go_wp2_with fail
    refine bodyPost_ret (v := .tuple #[.slice none 0 0, .bool false]) (by simp [results, Try.results11, go_sem]) rfl (by rw [HNO.out]; exact RowQ.no H3.out.2)
  · have hpos : 0 < tl F 0 t := Nat.pos_of_ne_zero hz
    have hz2 : ¬ (((tl F 0 t : Nat) : Int) = 0) := by omega
    have HPS := Lib.hid (PlanS.start hF1 hpos); clear hpos hz
    generalize tl F 0 t = X0 at *
    go_wp2_with fail
    refine (boStart_q _).mono ?_; rintro e w4 ⟨rfl, b4⟩
    have H4 : Hid (GoS F t w w4.heap.size w2 vt (.slice none 0 0) (w4.alloc (.cells #[.int .i64 0, .slice none 0 0, .int .i64 10, .bool false] 65))) := Lib.hid (by
      have ho : overG F ([], []) = false := by simp [overG]; omega
      have f1 : frA F ([], []) = 0 := by unfold frA; rw [ho]; rfl
      have f2 : bsA F ([], []) = [] := by unfold bsA; rw [ho]; rfl
      have hw := H3.out.2.trans (b4.mono H3.out.2.size)
      have hk := H3.out.1.keep b4
      have hn := below_newT w4 (.cells #[.int .i64 0, .slice none 0 0, .int .i64 10, .bool false] 65)
      refine ⟨[], ([], []), none, 0, by simp [gameG], inv_start hF1, HPS.out, owns_nilT _ _, ?_, ?_, hw.size, hk.2.size, hk.keep hn, hw.trans (hn.mono hw.size)⟩
      · rw [f1, f2, stA_open ho, ho]; exact ObAt.new w4 _ _
      · rw [f2]; exact .inl rfl)
    clear b4 c1 hz2 HPS H3 HT HTB HFM
    go_upto_region 8 with fail
    generalize (w4.alloc (.cells #[.int .i64 0, .slice none 0 0, .int .i64 10, .bool false] 65)) = W5 at *
    generalize w4.heap.size = g0 at *
    go_loopw [7, 8] (fun v7 b8 wr => ∃ g8 : Nat, b8 = .pointer (some ⟨g8, 0, none⟩) ∧ Hid (GoS F t w g8 w2 vt v7 wr)) (fun v7 _ _ => 31 - lenV v7)
    case atStart => exact ⟨g0, rfl, H4⟩
    case round =>
      clear H4
      obtain ⟨g8, rfl, hH⟩ := hrel
      obtain ⟨rolls, g, ab, cb, hgm, hi, hps, hown, hpl⟩ := hH.out
      clear hH
      cases hov : overG F g
      · have hlt := over_false hi hov
        obtain ⟨m, hm⟩ : ∃ m, g.1.length + m + 1 = F := ⟨F - 1 - g.1.length, by omega⟩
        have hlg : lastG F g = decide (m = 0) := by unfold lastG; by_cases h : m = 0 <;> simp [h] <;> omega
        have hop := inv_open hi hov
        rw [hlg] at hop
        have hp4 := (hps.2.2 hov).1
        rw [show F - 1 - g.1.length = m by omega] at hp4
        obtain ⟨k0, hk0, hkp, hkz⟩ := wyI_some hop hp4
        have hps2 := hps.step k0 hi hov hm hk0 hkz hkp
        have hq := hps.1
        have hfit : ∀ k : Nat, (k : Int) ≤ leftP g.2 → fitsG F g (k : Int) = true := fun k hk => by simp [fitsG, hov, hk]
        have hval := fun (k : Nat) (hk : (k : Int) ≤ leftP g.2) => from_val (t := t) k hi hov hm hk hq
        have hsn := fun (k : Nat) (hk : (k : Int) ≤ leftP g.2) => game_snoc2 hgm (hfit k hk)
        have HBF := Lib.hid (fun (k : Nat) (hk : (k : Int) ≤ leftP g.2) gr cr W hT hc => boFrom_any F hF1 hF2 (rolls ++ [(k : Int)]) _ (hsn k hk) (game_len30 hF1 hF2 (hsn k hk)) vt gr cr W hT hc)
        have HRL := Lib.hid (fun W (hr : Reads W ab (ints g.2)) => roll_any F hF1 hF2 g (k0 : Int) hi (hfit k0 hk0) ab cb W hr)
        have HK := Lib.hid (And.intro hkp (And.intro hkz (And.intro hval (And.intro (hsn k0 hk0) (And.intro (inv_step hi (hfit k0 hk0)) hps2)))))
        have hl30 := game_len30 hF1 hF2 hgm
        have hlq := leftP_bd g.2
        obtain ⟨a7, c7, rfl, hr7⟩ := own_reads hown
        have f1 : frA F g = g.1.length := by unfold frA; rw [hov]; rfl
        have f2 : bsA F g = g.2 := by unfold bsA; rw [hov]; rfl
        have f3 := stA_open hov
        have HOB := Lib.hid (fun (W : World) (h : PlX F g ab cb g8 w2 vt w W) => (show ObAt W g8 65 #[.int .i64 g.1.length, .slice ab g.2.length cb, .int .i64 (leftP g.2), .bool false] ∧ Reads W ab (ints g.2) by
          have h1 := h.1
          have h2 := h.2.1
          rw [f1, f2, f3, hov] at h1
          rw [f2] at h2
          exact ⟨h1, h2⟩))
        have H1 := Lib.hid (And.intro hr7 hpl)
        obtain ⟨c0, c1, c2, c3, -, -, -, -⟩ := (HOB.out wr hpl).1.four
        clear hlt hlg hop hp4 hkp hkz hps2 hq hfit hval hsn hgm hi hps hown hpl hr7 f1 f2 f3 hov hm
        have HLO := Lib.hid (fun W (hr : Reads W a7 (ints rolls)) => l1Own_any rolls a7 c7 W (by omega) hr)
        obtain ⟨n, hn⟩ : ∃ n, n = rolls.length := ⟨_, rfl⟩
        rw [← hn] at hl30 HLO ⊢
        have HN := Lib.hid hn; clear hn
        obtain ⟨Q, hQ⟩ : ∃ Q : Nat, leftP g.2 = (Q : Int) := ⟨(leftP g.2).toNat, by omega⟩
        rw [hQ] at HBF HRL HOB hk0 c2
        have hQ10 : Q ≤ 10 := by omega
        have HQ := Lib.hid hQ; clear hQ hlq
        obtain ⟨A, hA⟩ : ∃ A, A = g.1.length := ⟨_, rfl⟩
        obtain ⟨N, hN⟩ : ∃ N, N = g.2.length := ⟨_, rfl⟩
        rw [← hA] at HRL HOB c0
        rw [← hN] at HRL HOB c1
        clear hA hN
        obtain ⟨i1, j1, jz0, jz1, jz2⟩ := info_parts infoIntT
        have HJ := Lib.hid (And.intro j1 (And.intro jz0 (And.intro jz1 jz2))); clear j1 jz0 jz1 jz2
        go_wp2_with fail
        clear c0 c1 c2 c3
        go_loopw [9, 7] (fun i v wr => ∃ k : Nat, i = .int .i64 k ∧ v = .slice a7 n c7 ∧ k ≤ k0 ∧ Hid (Reads wr a7 (ints rolls) ∧ PlX F g ab cb g8 w2 vt w wr)) (fun i _ _ => k0 + 1 - (intOf i).toNat)
        case atStart => exact ⟨0, rfl, rfl, Nat.zero_le _, H1⟩
        case round =>
          clear H1
          obtain ⟨k, rfl, rfl, hk, hH⟩ := hrel
          obtain ⟨c0, c1, c2, c3, -, -, -, -⟩ := (HOB.out _ hH.out.2).1.four
          have b1 : (k : Int) ≤ (Q : Int) := by omega
          go_wp2_with fail
          refine (HLO.out _ hH.out.1).mono ?_; rintro e w6 ⟨v6, rfl, hown6, b6⟩
          have hz6 := b6.size
          have H6 := Lib.hid (And.intro hown6 b6); clear hown6 b6 c0 c1 c2 c3
          have HNC := Lib.hid (cell_one w6 (.int .i64 (k : Int)) 3)
          go_wp2_with (at_builtin; refine wpList_append_own_at _ rfl _ _ 25 rfl _ 3 i1 (.int .i64 0) 1 8 Try.underlying25 HJ.out.1 HJ.out.2.1 HJ.out.2.2.1 HJ.out.2.2.2 rfl (by decide) _ _ _ rfl (H6.out.1.alloc _) ⟨w6.heap.size, 0, none⟩ 1 1 [.int .i64 (k : Int)] rfl rfl HNC.out ?_ ?_ ?_ ?_ ?_)
          · first | rfl | (intro u hu; simp at hu; subst hu; rfl)
          · unfold maxLen; omega
          · omega
          · first | omega | (simp; omega)
          intro v7 w7 hown7 hgrow7 _ _
          have hb7 : Below wr.heap.size wr w7 := (H6.out.2.alloc hz6 _).grown hgrow7 (by simp; omega) (fun g e => (owns_in H6.out.1 e).1)
          have hl7 : (rolls ++ [(k : Int)]).length = n + 1 := by rw [HN.out]; simp
          rw [show ints rolls ++ [Value.int .i64 (k : Int)] = ints (rolls ++ [(k : Int)]) by simp [ints], ← hl7] at hown7
          obtain ⟨gr, cr, hv7, hcell⟩ := own_cells hown7 (by simp)
          subst hv7
          have hx7 := hH.out.2.keep hb7
          have hbf := HBF.out k b1 gr cr w7 (hx7.2.2.2.2.1.1.keep hx7.2.2.2.2.1.2) hcell
          rw [hl7] at hbf hown7 ⊢
          have H7 := Lib.hid (And.intro hbf (And.intro hx7 (And.intro (hH.out.1.old hb7) (And.intro hown7 hH.out.2.2.2.2.2.2.size)))); clear hbf hx7 hb7 hown7 hcell hgrow7 H6 hH HNC
          go_wp2_with fail
          refine H7.out.1.mono ?_; rintro e w8 ⟨g9, rfl, hr8, b8⟩
          have c9 := HG.out w8 g9 _ hr8
          rw [HK.out.2.2.1 k (by rw [HQ.out]; exact b1)] at c9
          have hx8 := H7.out.2.1.keep b8
          have hr8' := H7.out.2.2.1.old b8
          by_cases hkk : k < k0
          · rw [HK.out.2.1 k hkk] at c9
            rw [show (((0 : Nat) : Int)) = 0 from rfl] at c9
            have H8 := Lib.hid (And.intro hr8' hx8); clear hr8' hx8 hr8 b8 H7
            go_wp2_with fail
            go_roundw
            case rel => exact ⟨k + 1, by go_num, rfl, by omega, H8⟩
            case measure => simp [intOf]; omega
          · obtain rfl : k = k0 := by omega
            have hpos := HK.out.1
            have hown8 := owns_kept (owns_baseS H7.out.2.2.2.1 H7.out.2.2.2.2) (fun g hg => b8.block g (owns_in H7.out.2.2.2.1 hg).2)
            have hob8 := HOB.out w8 hx8
            obtain ⟨c0, c1, c2, c3, -, -, -, -⟩ := hob8.1.four
            have H8 := Lib.hid (And.intro hown8 (And.intro hx8 (And.intro hob8.1 (HRL.out w8 hob8.2)))); clear hown8 hx8 hob8 hr8' hr8 b8 H7
            generalize wyI m (fsG g.1).1 (g.2 ++ [(k : Int)]) (t - (fsG g.1).2) = X at *
            have e0 : (0 : Int) < (X : Int) := by omega
            clear hpos hkk
            go_wp2_with fail
            refine H8.out.2.2.2.mono ?_; rintro e w9 ⟨ab1, cb1, rfl, hr9, hnew, b9⟩
            have hob9 := H8.out.2.2.1.keep b9
            obtain ⟨p0, p1, p2, p3, f0, f1, f2, f3⟩ := hob9.four
            have hown9 := owns_kept (owns_kept H8.out.1 (fun g hg => b9.block g (owns_in H8.out.1 hg).2)) (w' := ((((w9.setCell ⟨g8, 0, none⟩ (.int .i64 (frA F (stepG F g (k : Int))))).setCell ⟨g8, 1, none⟩ (.slice ab1 (bsA F (stepG F g (k : Int))).length cb1)).setCell ⟨g8, 2, none⟩ (.int .i64 (stA F (stepG F g (k : Int))))).setCell ⟨g8, 3, none⟩ (.bool (overG F (stepG F g (k : Int)))))) (fun g' hg => heap_put4' _ _ _ _ _ _ (fun q => by
              subst q
              exact owns_typed (H8.out.2.2.1 : w8.heap[_]? = _) (by decide) H8.out.1 hg))
            have hx9 := H8.out.2.1.put (g' := stepG F g (k : Int)) (cb' := cb1) hr9 hnew b9
            have hcells := hx9.1
            have H10 : Hid (GoS F t w ((((w9.setCell ⟨g8, 0, none⟩ (.int .i64 (frA F (stepG F g (k : Int))))).setCell ⟨g8, 1, none⟩ (.slice ab1 (bsA F (stepG F g (k : Int))).length cb1)).setCell ⟨g8, 2, none⟩ (.int .i64 (stA F (stepG F g (k : Int))))).setCell ⟨g8, 3, none⟩ (.bool (overG F (stepG F g (k : Int))))).heap.size w2 vt (.slice (some ⟨gr, 0, none⟩) (n + 1) cr) (((((w9.setCell ⟨g8, 0, none⟩ (.int .i64 (frA F (stepG F g (k : Int))))).setCell ⟨g8, 1, none⟩ (.slice ab1 (bsA F (stepG F g (k : Int))).length cb1)).setCell ⟨g8, 2, none⟩ (.int .i64 (stA F (stepG F g (k : Int))))).setCell ⟨g8, 3, none⟩ (.bool (overG F (stepG F g (k : Int))))).alloc (.cells #[.int .i64 (frA F (stepG F g (k : Int))), .slice ab1 (bsA F (stepG F g (k : Int))).length cb1, .int .i64 (stA F (stepG F g (k : Int))), .bool (overG F (stepG F g (k : Int)))] 65)) ∧ ObAt ((((w9.setCell ⟨g8, 0, none⟩ (.int .i64 (frA F (stepG F g (k : Int))))).setCell ⟨g8, 1, none⟩ (.slice ab1 (bsA F (stepG F g (k : Int))).length cb1)).setCell ⟨g8, 2, none⟩ (.int .i64 (stA F (stepG F g (k : Int))))).setCell ⟨g8, 3, none⟩ (.bool (overG F (stepG F g (k : Int))))) g8 65 #[.int .i64 (frA F (stepG F g (k : Int))), .slice ab1 (bsA F (stepG F g (k : Int))).length cb1, .int .i64 (stA F (stepG F g (k : Int))), .bool (overG F (stepG F g (k : Int)))]) := Lib.hid ⟨⟨rolls ++ [(k : Int)], stepG F g (k : Int), ab1, cb1, HK.out.2.2.2.1, HK.out.2.2.2.2.1, HK.out.2.2.2.2.2, by rw [hl7]; exact owns_kept hown9 (fun g hg => (below_newT _ _).block g (owns_in hown9 hg).2), hx9.fresh⟩, hcells⟩
            clear hown9 hx9 hcells hr9 hnew b9 H8 hob9 c0 c1 c2 c3 HK HBF HRL HOB HG
            generalize (frA F (stepG F g (k : Int)) : Nat) = fa at *
            generalize bsA F (stepG F g (k : Int)) = bl at *
            generalize stA F (stepG F g (k : Int)) = sta at *
            generalize overG F (stepG F g (k : Int)) = ov at *
            go_upto_region 16 with fail
            clear p0 p1 p2 p3 f0 f1 f2 f3
            obtain ⟨c0, c1, c2, c3, -, -, -, -⟩ := H10.out.2.four
            have H11 := Lib.hid H10.out.1; clear H10
            generalize ((((w9.setCell ⟨g8, 0, none⟩ (.int .i64 fa)).setCell ⟨g8, 1, none⟩ (.slice ab1 bl.length cb1)).setCell ⟨g8, 2, none⟩ (.int .i64 sta)).setCell ⟨g8, 3, none⟩ (.bool ov)) = W9 at *
            go_wp2_with fail
            go_roundw
            case rel => exact ⟨W9.heap.size, rfl, H11⟩
            case measure => simp [lenV]; omega
      · have hob := hpl.1
        rw [hov] at hob
        obtain ⟨c0, c1, c2, c3, -, -, -, -⟩ := hob.four
        have hres : gmF F 0 t = some (toN rolls) := by
          have hl : g.1.length = F := by simpa [overG] using hov
          have h2 := hi.2.2
          rw [if_pos hl] at h2
          have h3 := game_rolls rolls _ _ hgm
          have h4 : g.1.flatten = rolls := by
            have : rollsG g = g.1.flatten := by unfold rollsG; rw [h2]; simp
            rw [← this, h3]; simp [rollsG]
          rw [← hps.2.1, hl, Nat.sub_self]
          simp [gmF, h4]
        have HE := Lib.hid (And.intro hres (And.intro hown (And.intro hpl.2.2.2.2.2 (game_nat hgm)))); clear hres hown hpl hgm hi hps hob hov
        generalize (frA F g : Nat) = fa at *
        generalize (bsA F g).length = bl at *
        generalize stA F g = sta at *
        go_wp2_with fail
        refine bodyPost_ret (v := .tuple #[u7, .bool true]) (by simp [results, Try.results11, go_sem]) rfl (by rw [HE.out.1]; exact ⟨_, rfl, by show World.ownsRow _ _ _ _ _ (bsI (toN rolls)).length (ints (bsI (toN rolls))); rw [HE.out.2.2.2]; exact HE.out.2.1, HE.out.2.2.1⟩)
end Go.Proofs.Ythbkclgdoopbpaa
