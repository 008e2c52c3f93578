/-
  Pins: the model's ParseRolls.
-/
import Derived.Test.YtgkkjlpfkoplhaaDoorPrImp
import Derived.Test.YtgkkjlpfkoplhaaDoorPnBt
import Derived.Maps.AppendAt
namespace Go.Proofs.YtgkkjlpfkoplhaaDoor
open Go.RowKit
set_option linter.unusedVariables false
set_option linter.unusedSimpArgs false

theorem rdM_nat (c : UInt8) (q : Int) : rdM c q = if c.toNat = 88 then some 10 else if c.toNat = 47 then some q else if 49 ≤ c.toNat ∧ c.toNat ≤ 57 then some ((c.toNat : Int) - 48) else if c.toNat = 45 then some 0 else none := by
  have e1 : (c = 88) = (c.toNat = 88) := by apply propext; rw [← UInt8.toNat_inj]; rfl
  have e2 : (c = 47) = (c.toNat = 47) := by apply propext; rw [← UInt8.toNat_inj]; rfl
  have e3 : (c = 45) = (c.toNat = 45) := by apply propext; rw [← UInt8.toNat_inj]; rfl
  have e4 : (49 ≤ c ∧ c ≤ 57) = (49 ≤ c.toNat ∧ c.toNat ≤ 57) := by apply propext; rw [UInt8.le_iff_toNat_le, UInt8.le_iff_toNat_le]; rfl
  unfold rdM
  simp only [e1, e2, e3, e4]
theorem getP (s : ByteArray) (k : Nat) (h : k < s.size) : s.toList.getD k 0 = s[k] := by
  have h2 : k < s.data.toList.length := by simpa using h
  rw [ByteArray.toList_eq, List.getD_eq_getElem?_getD, List.getElem?_eq_getElem h2]
  rfl
theorem own_blockQ {a : Option Addr} {n c : Nat} : (Value.slice a n c).ownBlock = blockOf a := by
  match a with
  | none => rfl
  | some ⟨_, _, _⟩ => rfl
theorem eq_sameQ (L : List Int) (a a' : Option Addr) (c c' : Nat) (w : World) (hl : (L.length : Int) ≤ 1048576) (h : Reads w a (ints L)) (h' : Reads w a' (ints L)) :
    Calls Tryd.prog 8 #[.slice a L.length c, .slice a' L.length c'] w fun e w' => e = .returned (.bool true) ∧ Below w.heap.size w w' := by
  have := eqIntS_any L L a a' c c' w (by omega) (by omega) h h'
  rw [show SameB L L = true from by simp [SameB]] at this
  exact this
theorem reads_grown {w w' : World} {a : Option Addr} {cs : List Value} {vb : Option Nat} (h : Reads w a cs) (hne : ∀ b off, a = some ⟨b, off, none⟩ → vb ≠ some b) (hg : w.grownBy w' vb) (hz : w.heap.size ≤ w'.heap.size) : Reads w' a cs := by
  rcases h with h | ⟨b, off, rfl, hlt, hc⟩
  · exact .inl h
  · exact .inr ⟨b, off, rfl, by omega, fun j hj => by rw [← hc j hj]; exact World.cell?_of_block (w := w) (hg.block b hlt (fun e => hne b off rfl e.symm))⟩

/-- Under way. -/
def PrM (F : Nat) (o : Option (List Int)) (s : ByteArray) (w : World) (g6 : Nat) (rolls : List Int) (u : St) (v : Value) (a : Option Addr) (c : Nat) (wr : World) : Prop :=
  (gameG F ([], []) rolls = some u ∧ (o = none ∨ textG u = s.toList.take rolls.length) ∧ rolls.length ≤ s.size) ∧ wr.ownsRow w.heap.size 3 1 v rolls.length (ints rolls) ∧ BoAt wr g6 (frA F u) (.slice a (bsA F u).length c) (stA F u) (overG F u) ∧ Reads wr a (ints (bsA F u)) ∧ (∀ b off, a = some ⟨b, off, none⟩ → b ≠ g6 ∧ v.ownBlock ≠ some b) ∧ Below w.heap.size w wr

set_option maxHeartbeats 25600000 in
set_option maxRecDepth 100000 in
theorem specParseOk_any (F : Nat) (h1 : 1 ≤ F) (h2 : F ≤ 10) (s : ByteArray) (hs : (s.size : Int) ≤ 1048576) (o : Option (List Int)) (ho : PrIs (F : Int) s.toList o) (w : World) :
    Calls Tryd.prog 19 #[.int .i64 F, .string s] w (RowQ (o.getD []) o.isSome w) := by
  have HO := Lib.hid ho; clear ho
  obtain ⟨L, hL⟩ : ∃ L, L = o.getD [] := ⟨_, rfl⟩
  obtain ⟨b, hb⟩ : ∃ b, b = o.isSome := ⟨_, rfl⟩
  rw [← hL, ← hb]
  have hnone : o = none → L = [] ∧ b = false := fun e => by rw [hL, hb, e]; exact ⟨rfl, rfl⟩
  have hsome : ∀ l, o = some l → L = l ∧ b = true := fun l e => by rw [hL, hb, e]; exact ⟨rfl, rfl⟩
  have HLB := Lib.hid (And.intro hnone hsome); clear hL hb hnone hsome
  have HFM := Lib.hid (fun W => boFrames_any (F : Int) W)
  rw [inR_frames.2 (show 1 ≤ (F : Int) ∧ (F : Int) ≤ 10 by omega)] at HFM
  go_enter Tryd.func19, Tryd.ntmps19
  go_wp2_with fail
  refine (HFM.out _).mono ?_; rintro e w0 ⟨rfl, rfl⟩
  go_wp2_with fail
  refine (boStart_any _).mono ?_; rintro e w1 ⟨rfl, b1⟩
  have hz1 : w.heap.size ≤ w1.heap.size := b1.size
  have hp0 : PrM F o s w w1.heap.size [] ([], []) (.slice none 0 0) none 0 (w1.alloc (.cells #[.int .i64 0, .slice none 0 0, .int .i64 10, .bool false] 56)) := by
    obtain ⟨e1, e2, e3, e4⟩ := start_place F h1
    refine ⟨⟨by simp [gameG], .inr (by simp [textG, sgF, sgL]), by simp⟩, owns_nilT _ _, ?_, ?_, (fun b off e => by cases e), b1.alloc hz1 _⟩
    · rw [e1, e2, e3, e4]; exact BoAt.new w1 _ _ _ _
    · rw [e2]; exact .inl rfl
  have HP0 := Lib.hid hp0; clear hp0 b1
  go_wp2_with fail
  generalize w1.alloc (.cells #[.int .i64 0, .slice none 0 0, .int .i64 10, .bool false] 56) = X at *
  generalize hg6 : w1.heap.size = g6 at *
  clear hg6
  have HG6 := Lib.hid hz1; clear hz1
  obtain ⟨i1, j1, jz0, jz1, jz2⟩ := info_parts infoInt
  have HJ := Lib.hid (And.intro j1 (And.intro jz0 (And.intro jz1 jz2))); clear j1 jz0 jz1 jz2
  go_loopw [6, 8] (fun v i wr => ∃ (rolls : List Int) (u : St) (a : Option Addr) (c : Nat), i = .int .i64 rolls.length ∧ Hid (PrM F o s w g6 rolls u v a c wr)) (fun _ i _ => s.size - (intOf i).toNat)
  case atStart => exact ⟨[], ([], []), none, 0, rfl, HP0⟩
  case round =>
    clear HP0
    obtain ⟨rolls, u, a, c, rfl, hH⟩ := hrel
    have hi := game_inv _ _ _ (inv_start h1) hH.out.1.1
    have hl30 := (good_len h1 h2 hH.out.1.1).1
    obtain ⟨a7, c7, rfl, hc7, hr7, -, -⟩ := own_all hH.out.2.1
    obtain ⟨g0, g1, g2, g3⟩ := hH.out.2.2.1.cells
    by_cases hlt : rolls.length < s.size
    · have hkl : (rolls.length : Int) < (s.size : Int) := by omega
      have hfail := pr_fail h1 h2 hH.out.1.1 HO.out (by rw [sizeP]; exact hlt) hH.out.1.2.1
      rw [getP s _ hlt] at hfail
      cases hov : overG F u
      · have hstep := fun p => pr_step (p := p) h1 h2 hH.out.1.1 HO.out (by rw [sizeP]; exact hlt) hH.out.1.2.1
        rw [getP s _ hlt] at hstep
        have hin := fun (p : Int) => fits_in (p := p) hov
        have f1 : frA F u = u.1.length := by unfold frA; rw [hov]; rfl
        have f2 : bsA F u = u.2 := by unfold bsA; rw [hov]; rfl
        have f3 : stA F u = leftP u.2 := by unfold stA; rw [f2]
        have hlq := leftP_bd u.2
        have hroll := fun (p : Int) W (hf : fitsG F u p = true) (hr : Reads W a (ints u.2)) => roll_any F h1 h2 u p hi hf a c W hr
        have hbo : ∀ W, BoAt W g6 (frA F u) (.slice a (bsA F u).length c) (stA F u) (overG F u) → BoAt W g6 u.1.length (.slice a u.2.length c) (leftP u.2) false := fun W h => by rw [f1, f2, f3, hov] at h; exact h
        have hrs : Reads wr a (ints u.2) := by have := hH.out.2.2.2.1; rw [f2] at this; exact this
        rw [f1] at g0
        rw [f2] at g1
        rw [f3] at g2
        rw [hov] at g3
        have hrd := rdM_nat s[rolls.length] (leftP u.2)
        have hby : s[rolls.length].toNat ≤ 255 := by have := s[rolls.length].toNat_lt; omega
        obtain ⟨n, hn⟩ : ∃ n, n = rolls.length := ⟨_, rfl⟩
        have HK := Lib.hid (And.intro hrd (And.intro hfail (And.intro hstep (And.intro hin (And.intro hroll (And.intro hbo hrs))))))
        clear hrd hfail hstep hin hroll hbo hrs f1 f2 f3 hov hi hn
        obtain ⟨Q, hQ⟩ : ∃ Q, Q = leftP u.2 := ⟨_, rfl⟩
        rw [← hQ] at HK g2 hlq
        obtain ⟨A, hA⟩ : ∃ A, A = u.1.length := ⟨_, rfl⟩
        obtain ⟨N, hN⟩ : ∃ N, N = u.2.length := ⟨_, rfl⟩
        rw [← hA] at HK g0
        rw [← hN] at HK g1
        clear hA hN hQ
        have hcc : ∀ q : Nat, ((s[rolls.length].toNat : Int) == (q : Int)) = decide (s[rolls.length].toNat = q) := fun q => by
          rw [Bool.eq_iff_iff]; simp only [beq_iff_eq, decide_eq_true_eq]; omega
        have hr6 := HK.out.2.2.2.2.2.2
        by_cases c88 : s[rolls.length].toNat = 88
        · have d88 : ((s[rolls.length].toNat : Int) == 88) = true := by rw [show (88 : Int) = ((88 : Nat) : Int) from rfl, hcc]; exact decide_eq_true (by omega)
          have hrdv : rdM s[rolls.length] Q = some (10) := by rw [HK.out.1]; simp [c88]
          clear hcc
          by_cases hfit : 10 ≤ Q
          · have hf : fitsG F u (10) = true := by rw [HK.out.2.2.2.1]; simp [inR]; omega
            have hst := HK.out.2.2.1 (10) hrdv hf
            have hnq : ¬ Q < 10 := by omega
            have HST := Lib.hid (And.intro hst (And.intro (fun W hr => HK.out.2.2.2.2.1 (10) W hf hr) hrdv)); clear hst hf hrdv hfit
            skip
            have HNC := Lib.hid (cell_one_new wr (.int .i64 10) 3)
            go_wp2_with (at_builtin; refine wpList_append_own_at _ rfl _ _ 22 rfl _ 3 i1 (.int .i64 0) 1 8 Tryd.underlying22 HJ.out.1 HJ.out.2.1 HJ.out.2.2.1 HJ.out.2.2.2 rfl (by decide) _ _ _ rfl (hH.out.2.1.alloc _) ⟨wr.heap.size, 0, none⟩ 1 1 [.int .i64 10] rfl rfl HNC.out ?_ ?_ ?_ ?_ ?_)
            · first | rfl | (intro q hq; simp at hq; subst hq; rfl)
            · unfold maxLen; omega
            · omega
            · have := hH.out.2.2.2.2.2.size; first | omega | (simp; omega)
            intro v7 w7 hown7 hgrow7 _ _
            have hb7 : Below w.heap.size w w7 := (hH.out.2.2.2.2.2.alloc hH.out.2.2.2.2.2.size _).grown hgrow7 (by have := hH.out.2.2.2.2.2.size; simp; omega) (fun g e => (owns_in hH.out.2.1 e).1)
            have hz7 : wr.heap.size < w7.heap.size := by have := hgrow7.size; simp at this; omega
            have hl7 : (rolls ++ [10]).length = rolls.length + 1 := by simp
            rw [show ints rolls ++ [Value.int .i64 10] = ints (rolls ++ [10]) by simp [ints], ← hl7] at hown7
            have hat7 := (hH.out.2.2.1.old (.cells #[.int .i64 10] 3)).grow (hH.out.2.1.alloc _) hgrow7
            have hrd7 := reads_grown (hr6.old (below_new wr (.cells #[.int .i64 10] 3))) (fun b off e => (hH.out.2.2.2.2.1 b off e).2) hgrow7 (by simp; omega)
            have hbo7 := HK.out.2.2.2.2.2.1 w7 hat7
            have H7 := Lib.hid (And.intro hown7 (And.intro hat7 (And.intro hrd7 hb7))); clear hown7 hat7 hrd7 hb7 hgrow7
            clear g0 g1 g2 g3
            obtain ⟨g0, g1, g2, g3⟩ := hbo7.cells
            clear hbo7
            obtain ⟨a8, c8, rfl, -⟩ := own_all H7.out.1
            rw [hl7]
            go_wp2_with fail
            refine (HST.out.2.1 _ H7.out.2.2.1).mono ?_; rintro e w4 ⟨a3, c3, rfl, hr3, hf3, b4⟩
            have hat4 := H7.out.2.1.keep b4
            have hbel4 := H7.out.2.2.2.trans (b4.mono H7.out.2.2.2.size)
            have hst4 := hat4.stored (frA F (stepG F u 10) : Int) (.slice a3 (bsA F (stepG F u 10)).length c3) (stA F (stepG F u 10)) (overG F (stepG F u 10))
            have hrst := reads_other hr3 (fun b off e => (by have := hf3 b off e; have := H7.out.2.1.lt; omega : b ≠ g6)) (heap_four w4 g6 (.int .i64 (frA F (stepG F u 10) : Int)) (.slice a3 (bsA F (stepG F u 10)).length c3) (.int .i64 (stA F (stepG F u 10))) (.bool (overG F (stepG F u 10)))) (by simp)
            have hbst := below_four hbel4 HG6.out (.int .i64 (frA F (stepG F u 10) : Int)) (.slice a3 (bsA F (stepG F u 10)).length c3) (.int .i64 (stA F (stepG F u 10))) (.bool (overG F (stepG F u 10)))
            have hown4 := owns_kept H7.out.1 (fun g hg => b4.block g (owns_in H7.out.1 hg).2)
            have hown5 := owns_other hown4 (hat4.apart hown4) (heap_four w4 g6 (.int .i64 (frA F (stepG F u 10) : Int)) (.slice a3 (bsA F (stepG F u 10)).length c3) (.int .i64 (stA F (stepG F u 10))) (.bool (overG F (stepG F u 10))))
            have hfin : PrM F o s w g6 (rolls ++ [10]) (stepG F u 10) (.slice a8 (rolls ++ [10]).length c8) a3 c3 _ := ⟨⟨HST.out.1.1, by rw [hl7]; exact HST.out.1.2, by omega⟩, hown5, hst4, hrst, (fun b off e => ⟨(by have := hf3 b off e; have := H7.out.2.1.lt; omega : b ≠ g6), fun e2 => by have h3 := hf3 b off e; have h4 := (owns_in H7.out.1 e2).2; omega⟩), hbst⟩
            rw [hl7] at hfin
            have HFIN := Lib.hid hfin; clear hfin hst4 hrst hbst hown4 hown5 hbel4 hr3 hf3 b4 g0 g1 g2 g3
            obtain ⟨g0, g1, g2, g3⟩ := hat4.cells
            have q0 := hat4.free 0
            have q1 := hat4.free 1
            have q2 := hat4.free 2
            have q3 := hat4.free 3
            clear hat4
            generalize hfr : (frA F (stepG F u 10) : Int) = fr at *
            generalize hst' : stA F (stepG F u 10) = st' at *
            clear hfr hst'
            go_wp2_with fail
            go_roundw
            case rel => exact ⟨rolls ++ [10], stepG F u 10, a3, c3, by rw [hl7]; go_num, HFIN⟩
            case measure => simp [intOf]; omega
          · have hno := HK.out.2.1 (fun k hk => by
              rw [hrdv] at hk
              have hk2 : 10 = k := by simpa using hk
              rw [← hk2, HK.out.2.2.2.1]; simp [inR]; omega)
            obtain ⟨e1, e2⟩ := HLB.out.1 hno
            have HE := Lib.hid (And.intro e1 e2); clear e1 e2 hno hrdv
            have hnq : Q < 10 := by omega
            clear hfit
            go_wp2_with fail
            refine bodyPost_ret (v := .tuple #[.slice none 0 0, .bool false]) (by simp [results, Tryd.results19, go_sem]) rfl (by rw [HE.out.1, HE.out.2]; exact RowQ.no hH.out.2.2.2.2.2)
        · by_cases c47 : s[rolls.length].toNat = 47
          · have d88 : ((s[rolls.length].toNat : Int) == 88) = false := by rw [show (88 : Int) = ((88 : Nat) : Int) from rfl, hcc]; exact decide_eq_false (by omega)
            have d47 : ((s[rolls.length].toNat : Int) == 47) = true := by rw [show (47 : Int) = ((47 : Nat) : Int) from rfl, hcc]; exact decide_eq_true (by omega)
            have hrdv : rdM s[rolls.length] Q = some (Q) := by rw [HK.out.1]; simp [c47]
            clear hcc
            by_cases hfit : Q ≤ Q
            · have hf : fitsG F u (Q) = true := by rw [HK.out.2.2.2.1]; simp [inR]; omega
              have hst := HK.out.2.2.1 (Q) hrdv hf
              have hnq : ¬ Q < Q := by omega
              have HST := Lib.hid (And.intro hst (And.intro (fun W hr => HK.out.2.2.2.2.1 (Q) W hf hr) hrdv)); clear hst hf hrdv hfit
              skip
              have HNC := Lib.hid (cell_one_new wr (.int .i64 Q) 3)
              go_wp2_with (at_builtin; refine wpList_append_own_at _ rfl _ _ 22 rfl _ 3 i1 (.int .i64 0) 1 8 Tryd.underlying22 HJ.out.1 HJ.out.2.1 HJ.out.2.2.1 HJ.out.2.2.2 rfl (by decide) _ _ _ rfl (hH.out.2.1.alloc _) ⟨wr.heap.size, 0, none⟩ 1 1 [.int .i64 Q] rfl rfl HNC.out ?_ ?_ ?_ ?_ ?_)
              · first | rfl | (intro q hq; simp at hq; subst hq; rfl)
              · unfold maxLen; omega
              · omega
              · have := hH.out.2.2.2.2.2.size; first | omega | (simp; omega)
              intro v7 w7 hown7 hgrow7 _ _
              have hb7 : Below w.heap.size w w7 := (hH.out.2.2.2.2.2.alloc hH.out.2.2.2.2.2.size _).grown hgrow7 (by have := hH.out.2.2.2.2.2.size; simp; omega) (fun g e => (owns_in hH.out.2.1 e).1)
              have hz7 : wr.heap.size < w7.heap.size := by have := hgrow7.size; simp at this; omega
              have hl7 : (rolls ++ [Q]).length = rolls.length + 1 := by simp
              rw [show ints rolls ++ [Value.int .i64 Q] = ints (rolls ++ [Q]) by simp [ints], ← hl7] at hown7
              have hat7 := (hH.out.2.2.1.old (.cells #[.int .i64 Q] 3)).grow (hH.out.2.1.alloc _) hgrow7
              have hrd7 := reads_grown (hr6.old (below_new wr (.cells #[.int .i64 Q] 3))) (fun b off e => (hH.out.2.2.2.2.1 b off e).2) hgrow7 (by simp; omega)
              have hbo7 := HK.out.2.2.2.2.2.1 w7 hat7
              have H7 := Lib.hid (And.intro hown7 (And.intro hat7 (And.intro hrd7 hb7))); clear hown7 hat7 hrd7 hb7 hgrow7
              clear g0 g1 g2 g3
              obtain ⟨g0, g1, g2, g3⟩ := hbo7.cells
              clear hbo7
              obtain ⟨a8, c8, rfl, -⟩ := own_all H7.out.1
              rw [hl7]
              go_wp2_with fail
              refine (HST.out.2.1 _ H7.out.2.2.1).mono ?_; rintro e w4 ⟨a3, c3, rfl, hr3, hf3, b4⟩
              have hat4 := H7.out.2.1.keep b4
              have hbel4 := H7.out.2.2.2.trans (b4.mono H7.out.2.2.2.size)
              have hst4 := hat4.stored (frA F (stepG F u Q) : Int) (.slice a3 (bsA F (stepG F u Q)).length c3) (stA F (stepG F u Q)) (overG F (stepG F u Q))
              have hrst := reads_other hr3 (fun b off e => (by have := hf3 b off e; have := H7.out.2.1.lt; omega : b ≠ g6)) (heap_four w4 g6 (.int .i64 (frA F (stepG F u Q) : Int)) (.slice a3 (bsA F (stepG F u Q)).length c3) (.int .i64 (stA F (stepG F u Q))) (.bool (overG F (stepG F u Q)))) (by simp)
              have hbst := below_four hbel4 HG6.out (.int .i64 (frA F (stepG F u Q) : Int)) (.slice a3 (bsA F (stepG F u Q)).length c3) (.int .i64 (stA F (stepG F u Q))) (.bool (overG F (stepG F u Q)))
              have hown4 := owns_kept H7.out.1 (fun g hg => b4.block g (owns_in H7.out.1 hg).2)
              have hown5 := owns_other hown4 (hat4.apart hown4) (heap_four w4 g6 (.int .i64 (frA F (stepG F u Q) : Int)) (.slice a3 (bsA F (stepG F u Q)).length c3) (.int .i64 (stA F (stepG F u Q))) (.bool (overG F (stepG F u Q))))
              have hfin : PrM F o s w g6 (rolls ++ [Q]) (stepG F u Q) (.slice a8 (rolls ++ [Q]).length c8) a3 c3 _ := ⟨⟨HST.out.1.1, by rw [hl7]; exact HST.out.1.2, by omega⟩, hown5, hst4, hrst, (fun b off e => ⟨(by have := hf3 b off e; have := H7.out.2.1.lt; omega : b ≠ g6), fun e2 => by have h3 := hf3 b off e; have h4 := (owns_in H7.out.1 e2).2; omega⟩), hbst⟩
              rw [hl7] at hfin
              have HFIN := Lib.hid hfin; clear hfin hst4 hrst hbst hown4 hown5 hbel4 hr3 hf3 b4 g0 g1 g2 g3
              obtain ⟨g0, g1, g2, g3⟩ := hat4.cells
              have q0 := hat4.free 0
              have q1 := hat4.free 1
              have q2 := hat4.free 2
              have q3 := hat4.free 3
              clear hat4
              generalize hfr : (frA F (stepG F u Q) : Int) = fr at *
              generalize hst' : stA F (stepG F u Q) = st' at *
              clear hfr hst'
              go_wp2_with fail
              go_roundw
              case rel => exact ⟨rolls ++ [Q], stepG F u Q, a3, c3, by rw [hl7]; go_num, HFIN⟩
              case measure => simp [intOf]; omega
            · exact absurd (show Q ≤ Q by omega) hfit
          · by_cases cd : 49 ≤ s[rolls.length].toNat ∧ s[rolls.length].toNat ≤ 57
            · have d88 : ((s[rolls.length].toNat : Int) == 88) = false := by rw [show (88 : Int) = ((88 : Nat) : Int) from rfl, hcc]; exact decide_eq_false (by omega)
              have d47 : ((s[rolls.length].toNat : Int) == 47) = false := by rw [show (47 : Int) = ((47 : Nat) : Int) from rfl, hcc]; exact decide_eq_false (by omega)
              have l49 : (49 : Int) ≤ (s[rolls.length].toNat : Int) := by omega
              have l57 : (s[rolls.length].toNat : Int) ≤ 57 := by omega
              have lwr : IntKind.u8.wrap ((s[rolls.length].toNat : Int) - 48) = (s[rolls.length].toNat : Int) - 48 := by
                have H9 : ∀ r : Fin 9, IntKind.u8.wrap (((49 + r.val : Nat) : Int) - 48) = ((49 + r.val : Nat) : Int) - 48 := by decide
                have h9 := H9 ⟨s[rolls.length].toNat - 49, by omega⟩
                simp only [show 49 + (s[rolls.length].toNat - 49) = s[rolls.length].toNat by omega] at h9
                exact h9
              have hrdv : rdM s[rolls.length] Q = some ((s[rolls.length].toNat : Int) - 48) := by rw [HK.out.1]; rw [if_neg c88, if_neg c47, if_pos cd]
              clear hcc
              by_cases hfit : (s[rolls.length].toNat : Int) - 48 ≤ Q
              · have hf : fitsG F u ((s[rolls.length].toNat : Int) - 48) = true := by rw [HK.out.2.2.2.1]; simp [inR]; omega
                have hst := HK.out.2.2.1 ((s[rolls.length].toNat : Int) - 48) hrdv hf
                have hnq : ¬ Q < (s[rolls.length].toNat : Int) - 48 := by omega
                have HST := Lib.hid (And.intro hst (And.intro (fun W hr => HK.out.2.2.2.2.1 ((s[rolls.length].toNat : Int) - 48) W hf hr) hrdv)); clear hst hf hrdv hfit
                skip
                have HNC := Lib.hid (cell_one_new wr (.int .i64 ((s[rolls.length].toNat : Int) - 48)) 3)
                go_wp2_with (at_builtin; refine wpList_append_own_at _ rfl _ _ 22 rfl _ 3 i1 (.int .i64 0) 1 8 Tryd.underlying22 HJ.out.1 HJ.out.2.1 HJ.out.2.2.1 HJ.out.2.2.2 rfl (by decide) _ _ _ rfl (hH.out.2.1.alloc _) ⟨wr.heap.size, 0, none⟩ 1 1 [.int .i64 ((s[rolls.length].toNat : Int) - 48)] rfl rfl HNC.out ?_ ?_ ?_ ?_ ?_)
                · first | rfl | (intro q hq; simp at hq; subst hq; rfl)
                · unfold maxLen; omega
                · omega
                · have := hH.out.2.2.2.2.2.size; first | omega | (simp; omega)
                intro v7 w7 hown7 hgrow7 _ _
                have hb7 : Below w.heap.size w w7 := (hH.out.2.2.2.2.2.alloc hH.out.2.2.2.2.2.size _).grown hgrow7 (by have := hH.out.2.2.2.2.2.size; simp; omega) (fun g e => (owns_in hH.out.2.1 e).1)
                have hz7 : wr.heap.size < w7.heap.size := by have := hgrow7.size; simp at this; omega
                have hl7 : (rolls ++ [((s[rolls.length].toNat : Int) - 48)]).length = rolls.length + 1 := by simp
                rw [show ints rolls ++ [Value.int .i64 ((s[rolls.length].toNat : Int) - 48)] = ints (rolls ++ [((s[rolls.length].toNat : Int) - 48)]) by simp [ints], ← hl7] at hown7
                have hat7 := (hH.out.2.2.1.old (.cells #[.int .i64 ((s[rolls.length].toNat : Int) - 48)] 3)).grow (hH.out.2.1.alloc _) hgrow7
                have hrd7 := reads_grown (hr6.old (below_new wr (.cells #[.int .i64 ((s[rolls.length].toNat : Int) - 48)] 3))) (fun b off e => (hH.out.2.2.2.2.1 b off e).2) hgrow7 (by simp; omega)
                have hbo7 := HK.out.2.2.2.2.2.1 w7 hat7
                have H7 := Lib.hid (And.intro hown7 (And.intro hat7 (And.intro hrd7 hb7))); clear hown7 hat7 hrd7 hb7 hgrow7
                clear g0 g1 g2 g3
                obtain ⟨g0, g1, g2, g3⟩ := hbo7.cells
                clear hbo7
                obtain ⟨a8, c8, rfl, -⟩ := own_all H7.out.1
                rw [hl7]
                go_wp2_with fail
                refine (HST.out.2.1 _ H7.out.2.2.1).mono ?_; rintro e w4 ⟨a3, c3, rfl, hr3, hf3, b4⟩
                have hat4 := H7.out.2.1.keep b4
                have hbel4 := H7.out.2.2.2.trans (b4.mono H7.out.2.2.2.size)
                have hst4 := hat4.stored (frA F (stepG F u ((s[rolls.length].toNat : Int) - 48)) : Int) (.slice a3 (bsA F (stepG F u ((s[rolls.length].toNat : Int) - 48))).length c3) (stA F (stepG F u ((s[rolls.length].toNat : Int) - 48))) (overG F (stepG F u ((s[rolls.length].toNat : Int) - 48)))
                have hrst := reads_other hr3 (fun b off e => (by have := hf3 b off e; have := H7.out.2.1.lt; omega : b ≠ g6)) (heap_four w4 g6 (.int .i64 (frA F (stepG F u ((s[rolls.length].toNat : Int) - 48)) : Int)) (.slice a3 (bsA F (stepG F u ((s[rolls.length].toNat : Int) - 48))).length c3) (.int .i64 (stA F (stepG F u ((s[rolls.length].toNat : Int) - 48)))) (.bool (overG F (stepG F u ((s[rolls.length].toNat : Int) - 48))))) (by simp)
                have hbst := below_four hbel4 HG6.out (.int .i64 (frA F (stepG F u ((s[rolls.length].toNat : Int) - 48)) : Int)) (.slice a3 (bsA F (stepG F u ((s[rolls.length].toNat : Int) - 48))).length c3) (.int .i64 (stA F (stepG F u ((s[rolls.length].toNat : Int) - 48)))) (.bool (overG F (stepG F u ((s[rolls.length].toNat : Int) - 48))))
                have hown4 := owns_kept H7.out.1 (fun g hg => b4.block g (owns_in H7.out.1 hg).2)
                have hown5 := owns_other hown4 (hat4.apart hown4) (heap_four w4 g6 (.int .i64 (frA F (stepG F u ((s[rolls.length].toNat : Int) - 48)) : Int)) (.slice a3 (bsA F (stepG F u ((s[rolls.length].toNat : Int) - 48))).length c3) (.int .i64 (stA F (stepG F u ((s[rolls.length].toNat : Int) - 48)))) (.bool (overG F (stepG F u ((s[rolls.length].toNat : Int) - 48)))))
                have hfin : PrM F o s w g6 (rolls ++ [((s[rolls.length].toNat : Int) - 48)]) (stepG F u ((s[rolls.length].toNat : Int) - 48)) (.slice a8 (rolls ++ [((s[rolls.length].toNat : Int) - 48)]).length c8) a3 c3 _ := ⟨⟨HST.out.1.1, by rw [hl7]; exact HST.out.1.2, by omega⟩, hown5, hst4, hrst, (fun b off e => ⟨(by have := hf3 b off e; have := H7.out.2.1.lt; omega : b ≠ g6), fun e2 => by have h3 := hf3 b off e; have h4 := (owns_in H7.out.1 e2).2; omega⟩), hbst⟩
                rw [hl7] at hfin
                have HFIN := Lib.hid hfin; clear hfin hst4 hrst hbst hown4 hown5 hbel4 hr3 hf3 b4 g0 g1 g2 g3
                obtain ⟨g0, g1, g2, g3⟩ := hat4.cells
                have q0 := hat4.free 0
                have q1 := hat4.free 1
                have q2 := hat4.free 2
                have q3 := hat4.free 3
                clear hat4
                generalize hfr : (frA F (stepG F u ((s[rolls.length].toNat : Int) - 48)) : Int) = fr at *
                generalize hst' : stA F (stepG F u ((s[rolls.length].toNat : Int) - 48)) = st' at *
                clear hfr hst'
                go_wp2_with fail
                go_roundw
                case rel => exact ⟨rolls ++ [((s[rolls.length].toNat : Int) - 48)], stepG F u ((s[rolls.length].toNat : Int) - 48), a3, c3, by rw [hl7]; go_num, HFIN⟩
                case measure => simp [intOf]; omega
              · have hno := HK.out.2.1 (fun k hk => by
                  rw [hrdv] at hk
                  have hk2 : (s[rolls.length].toNat : Int) - 48 = k := by simpa using hk
                  rw [← hk2, HK.out.2.2.2.1]; simp [inR]; omega)
                obtain ⟨e1, e2⟩ := HLB.out.1 hno
                have HE := Lib.hid (And.intro e1 e2); clear e1 e2 hno hrdv
                have hnq : Q < (s[rolls.length].toNat : Int) - 48 := by omega
                clear hfit
                go_wp2_with fail
                refine bodyPost_ret (v := .tuple #[.slice none 0 0, .bool false]) (by simp [results, Tryd.results19, go_sem]) rfl (by rw [HE.out.1, HE.out.2]; exact RowQ.no hH.out.2.2.2.2.2)
            · by_cases c45 : s[rolls.length].toNat = 45
              · have d88 : ((s[rolls.length].toNat : Int) == 88) = false := by rw [show (88 : Int) = ((88 : Nat) : Int) from rfl, hcc]; exact decide_eq_false (by omega)
                have d47 : ((s[rolls.length].toNat : Int) == 47) = false := by rw [show (47 : Int) = ((47 : Nat) : Int) from rfl, hcc]; exact decide_eq_false (by omega)
                have d45 : ((s[rolls.length].toNat : Int) == 45) = true := by rw [show (45 : Int) = ((45 : Nat) : Int) from rfl, hcc]; exact decide_eq_true (by omega)
                have l49 : ¬ (49 : Int) ≤ (s[rolls.length].toNat : Int) := by omega
                have n45 : ((s[rolls.length].toNat : Int) != 45) = false := by simp [bne, d45]
                have hrdv : rdM s[rolls.length] Q = some (0) := by rw [HK.out.1]; simp [c45]
                clear hcc
                by_cases hfit : 0 ≤ Q
                · have hf : fitsG F u (0) = true := by rw [HK.out.2.2.2.1]; simp [inR]; omega
                  have hst := HK.out.2.2.1 (0) hrdv hf
                  have hnq : ¬ Q < 0 := by omega
                  have HST := Lib.hid (And.intro hst (And.intro (fun W hr => HK.out.2.2.2.2.1 (0) W hf hr) hrdv)); clear hst hf hrdv hfit
                  skip
                  have HNC := Lib.hid (cell_one_new wr (.int .i64 0) 3)
                  go_wp2_with (at_builtin; refine wpList_append_own_at _ rfl _ _ 22 rfl _ 3 i1 (.int .i64 0) 1 8 Tryd.underlying22 HJ.out.1 HJ.out.2.1 HJ.out.2.2.1 HJ.out.2.2.2 rfl (by decide) _ _ _ rfl (hH.out.2.1.alloc _) ⟨wr.heap.size, 0, none⟩ 1 1 [.int .i64 0] rfl rfl HNC.out ?_ ?_ ?_ ?_ ?_)
                  · first | rfl | (intro q hq; simp at hq; subst hq; rfl)
                  · unfold maxLen; omega
                  · omega
                  · have := hH.out.2.2.2.2.2.size; first | omega | (simp; omega)
                  intro v7 w7 hown7 hgrow7 _ _
                  have hb7 : Below w.heap.size w w7 := (hH.out.2.2.2.2.2.alloc hH.out.2.2.2.2.2.size _).grown hgrow7 (by have := hH.out.2.2.2.2.2.size; simp; omega) (fun g e => (owns_in hH.out.2.1 e).1)
                  have hz7 : wr.heap.size < w7.heap.size := by have := hgrow7.size; simp at this; omega
                  have hl7 : (rolls ++ [0]).length = rolls.length + 1 := by simp
                  rw [show ints rolls ++ [Value.int .i64 0] = ints (rolls ++ [0]) by simp [ints], ← hl7] at hown7
                  have hat7 := (hH.out.2.2.1.old (.cells #[.int .i64 0] 3)).grow (hH.out.2.1.alloc _) hgrow7
                  have hrd7 := reads_grown (hr6.old (below_new wr (.cells #[.int .i64 0] 3))) (fun b off e => (hH.out.2.2.2.2.1 b off e).2) hgrow7 (by simp; omega)
                  have hbo7 := HK.out.2.2.2.2.2.1 w7 hat7
                  have H7 := Lib.hid (And.intro hown7 (And.intro hat7 (And.intro hrd7 hb7))); clear hown7 hat7 hrd7 hb7 hgrow7
                  clear g0 g1 g2 g3
                  obtain ⟨g0, g1, g2, g3⟩ := hbo7.cells
                  clear hbo7
                  obtain ⟨a8, c8, rfl, -⟩ := own_all H7.out.1
                  rw [hl7]
                  go_wp2_with fail
                  refine (HST.out.2.1 _ H7.out.2.2.1).mono ?_; rintro e w4 ⟨a3, c3, rfl, hr3, hf3, b4⟩
                  have hat4 := H7.out.2.1.keep b4
                  have hbel4 := H7.out.2.2.2.trans (b4.mono H7.out.2.2.2.size)
                  have hst4 := hat4.stored (frA F (stepG F u 0) : Int) (.slice a3 (bsA F (stepG F u 0)).length c3) (stA F (stepG F u 0)) (overG F (stepG F u 0))
                  have hrst := reads_other hr3 (fun b off e => (by have := hf3 b off e; have := H7.out.2.1.lt; omega : b ≠ g6)) (heap_four w4 g6 (.int .i64 (frA F (stepG F u 0) : Int)) (.slice a3 (bsA F (stepG F u 0)).length c3) (.int .i64 (stA F (stepG F u 0))) (.bool (overG F (stepG F u 0)))) (by simp)
                  have hbst := below_four hbel4 HG6.out (.int .i64 (frA F (stepG F u 0) : Int)) (.slice a3 (bsA F (stepG F u 0)).length c3) (.int .i64 (stA F (stepG F u 0))) (.bool (overG F (stepG F u 0)))
                  have hown4 := owns_kept H7.out.1 (fun g hg => b4.block g (owns_in H7.out.1 hg).2)
                  have hown5 := owns_other hown4 (hat4.apart hown4) (heap_four w4 g6 (.int .i64 (frA F (stepG F u 0) : Int)) (.slice a3 (bsA F (stepG F u 0)).length c3) (.int .i64 (stA F (stepG F u 0))) (.bool (overG F (stepG F u 0))))
                  have hfin : PrM F o s w g6 (rolls ++ [0]) (stepG F u 0) (.slice a8 (rolls ++ [0]).length c8) a3 c3 _ := ⟨⟨HST.out.1.1, by rw [hl7]; exact HST.out.1.2, by omega⟩, hown5, hst4, hrst, (fun b off e => ⟨(by have := hf3 b off e; have := H7.out.2.1.lt; omega : b ≠ g6), fun e2 => by have h3 := hf3 b off e; have h4 := (owns_in H7.out.1 e2).2; omega⟩), hbst⟩
                  rw [hl7] at hfin
                  have HFIN := Lib.hid hfin; clear hfin hst4 hrst hbst hown4 hown5 hbel4 hr3 hf3 b4 g0 g1 g2 g3
                  obtain ⟨g0, g1, g2, g3⟩ := hat4.cells
                  have q0 := hat4.free 0
                  have q1 := hat4.free 1
                  have q2 := hat4.free 2
                  have q3 := hat4.free 3
                  clear hat4
                  generalize hfr : (frA F (stepG F u 0) : Int) = fr at *
                  generalize hst' : stA F (stepG F u 0) = st' at *
                  clear hfr hst'
                  go_wp2_with fail
                  go_roundw
                  case rel => exact ⟨rolls ++ [0], stepG F u 0, a3, c3, by rw [hl7]; go_num, HFIN⟩
                  case measure => simp [intOf]; omega
                · exact absurd (show 0 ≤ Q by omega) hfit
              · have hno := HK.out.2.1 (fun k hk => by rw [HK.out.1, if_neg c88, if_neg c47, if_neg cd, if_neg c45] at hk; cases hk)
                obtain ⟨e1, e2⟩ := HLB.out.1 hno
                have HE := Lib.hid (And.intro e1 e2); clear e1 e2 hno
                have d88 : ((s[rolls.length].toNat : Int) == 88) = false := by rw [show (88 : Int) = ((88 : Nat) : Int) from rfl, hcc]; exact decide_eq_false (by omega)
                have d47 : ((s[rolls.length].toNat : Int) == 47) = false := by rw [show (47 : Int) = ((47 : Nat) : Int) from rfl, hcc]; exact decide_eq_false (by omega)
                have d45 : ((s[rolls.length].toNat : Int) == 45) = false := by rw [show (45 : Int) = ((45 : Nat) : Int) from rfl, hcc]; exact decide_eq_false (by omega)
                have n45 : ((s[rolls.length].toNat : Int) != 45) = true := by simp [bne, d45]
                clear hcc
                by_cases l49 : (49 : Int) ≤ (s[rolls.length].toNat : Int)
                · have l57 : ¬ (s[rolls.length].toNat : Int) ≤ 57 := by omega
                  go_wp2_with fail
                  refine bodyPost_ret (v := .tuple #[.slice none 0 0, .bool false]) (by simp [results, Tryd.results19, go_sem]) rfl (by rw [HE.out.1, HE.out.2]; exact RowQ.no hH.out.2.2.2.2.2)
                · go_wp2_with fail
                  refine bodyPost_ret (v := .tuple #[.slice none 0 0, .bool false]) (by simp [results, Tryd.results19, go_sem]) rfl (by rw [HE.out.1, HE.out.2]; exact RowQ.no hH.out.2.2.2.2.2)
      · have hno := hfail (fun k _ => fits_over hov)
        obtain ⟨e1, e2⟩ := HLB.out.1 hno
        have HE := Lib.hid (And.intro e1 e2); clear e1 e2 hno hfail
        rw [hov] at g3
        have hnum : ∃ fr sl st, wr.cell? ⟨g6, 0, none⟩ = some (.int .i64 fr) ∧ wr.cell? ⟨g6, 1, none⟩ = some (.slice a sl c) ∧ wr.cell? ⟨g6, 2, none⟩ = some (.int .i64 st) := ⟨_, _, _, g0, g1, g2⟩
        clear g0 g1 g2 hi
        obtain ⟨fr, sl, st, g0, g1, g2⟩ := hnum
        go_wp2_with fail
        refine bodyPost_ret (v := .tuple #[.slice none 0 0, .bool false]) (by simp [results, Tryd.results19, go_sem]) rfl (by rw [HE.out.1, HE.out.2]; exact RowQ.no hH.out.2.2.2.2.2)
    · have hle : rolls.length = s.size := by have := hH.out.1.2.2; omega
      have ht : o = none ∨ textG u = s.toList := by
        rcases hH.out.1.2.1 with h | h
        · exact .inl h
        · refine .inr ?_
          rw [h, List.take_of_length_le]; rw [sizeP]; omega
      have hend := pr_end h1 h2 hH.out.1.1 HO.out ht
      have htx := fun W hr => boText_any F h1 h2 rolls u hH.out.1.1 a7 c7 W (by omega) hr
      have HK := Lib.hid (And.intro htx (And.intro hend (And.intro hH.out.2.1 (And.intro hH.out.2.2.2.2.2 hr7)))); clear htx hend ht hH hi hr7 g0 g1 g2 g3
      have hkl : ¬ (rolls.length : Int) < (s.size : Int) := by omega
      clear hlt hle
      go_wp2_with fail
      refine (HK.out.1 _ HK.out.2.2.2.2).mono ?_; rintro e w2 ⟨rfl, b2⟩
      have hown2 := owns_kept HK.out.2.2.1 (fun g hg => b2.block g (owns_in HK.out.2.2.1 hg).2)
      have H2 := Lib.hid (And.intro hown2 (HK.out.2.2.2.1.trans (b2.mono HK.out.2.2.2.1.size))); clear hown2 b2
      have htl : (⟨(textG u).toArray⟩ : ByteArray).toList = textG u := by simp [ByteArray.toList_eq]
      have hdec : ((⟨(textG u).toArray⟩ : ByteArray).toList == s.toList) = decide (textG u = s.toList) := by rw [htl]; rw [Bool.eq_iff_iff]; simp
      have HD := Lib.hid hdec; clear hdec htl
      generalize (⟨(textG u).toArray⟩ : ByteArray) = tx at *
      by_cases he : textG u = s.toList
      · have h4 := HK.out.2.1
        rw [if_pos he] at h4
        obtain ⟨e1, e2⟩ := HLB.out.2 _ h4
        have HE := Lib.hid (And.intro e1 e2)
        have hd := HD.out
        rw [decide_eq_true he] at hd
        clear e1 e2 h4 he HD
        go_wp2_with fail
        refine bodyPost_ret (v := .tuple #[.slice a7 rolls.length c7, .bool true]) (by simp [results, Tryd.results19, go_sem]) rfl (by rw [HE.out.1, HE.out.2]; exact ⟨_, rfl, H2.out.1, H2.out.2⟩)
      · have h4 := HK.out.2.1
        rw [if_neg he] at h4
        obtain ⟨e1, e2⟩ := HLB.out.1 h4
        have HE := Lib.hid (And.intro e1 e2)
        have hd := HD.out
        rw [decide_eq_false he] at hd
        clear e1 e2 h4 he HD
        go_wp2_with fail
        refine bodyPost_ret (v := .tuple #[.slice none 0 0, .bool false]) (by simp [results, Tryd.results19, go_sem]) rfl (by rw [HE.out.1, HE.out.2]; exact RowQ.no H2.out.2)

set_option maxHeartbeats 1600000 in
theorem specParseRolls_any (f : Int) (s : ByteArray) (hs : (s.size : Int) ≤ 1048576) (o : Option (List Int)) (ho : PrIs f s.toList o) (w : World) :
    Calls Tryd.prog 6 #[.int .i64 f, .string s] w (RowQ (o.getD []) o.isSome w) := by
  have HB : Hid (∀ W, Calls Tryd.prog 19 #[.int .i64 f, .string s] W (RowQ (o.getD []) o.isSome W)) := Lib.hid (fun W => by
    by_cases hf : 1 ≤ f ∧ f ≤ 10
    · obtain ⟨F, rfl⟩ : ∃ F : Nat, f = (F : Int) := ⟨f.toNat, by omega⟩
      exact specParseOk_any F (by omega) (by omega) s hs o ho W
    · have he : o = none := ho.one (PrIs.bad hf)
      subst he
      show Calls Tryd.prog 19 #[.int .i64 f, .string s] W (RowQ [] false W)
      clear ho
      have HFM := Lib.hid (fun W => boFrames_any f W)
      rw [Bool.eq_false_iff.2 (fun h => hf (inR_frames.1 h))] at HFM
      clear hf
      go_enter Tryd.func19, Tryd.ntmps19
      go_wp2_with fail
      refine (HFM.out _).mono ?_; rintro e w1 ⟨rfl, rfl⟩
      go_wp2_with fail
      refine bodyPost_ret (v := .tuple #[.slice none 0 0, .bool false]) (by simp [results, Tryd.results19, go_sem]) rfl (RowQ.no (Below.refl _ _)))
  generalize o.getD [] = L at *
  generalize o.isSome = b at *
  clear ho
  go_enter Tryd.func6, Tryd.ntmps6
  go_wp2_with fail
  refine (HB.out _).mono ?_; rintro e w1 ⟨v1, rfl, o1, b1⟩
  obtain ⟨a1, c1, rfl, -⟩ := own_all o1
  have H1 := Lib.hid (And.intro o1 b1); clear o1 b1
  go_wp2_with fail
  refine bodyPost_ret (v := .tuple #[.slice a1 L.length c1, .bool b]) (by simp [results, Tryd.results6, go_sem]) rfl ⟨_, rfl, H1.out.1, H1.out.2⟩
end Go.Proofs.YtgkkjlpfkoplhaaDoor
