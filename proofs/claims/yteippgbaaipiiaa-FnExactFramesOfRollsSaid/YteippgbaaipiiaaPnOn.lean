/-
  Pins: the program plays on.
-/
import Derived.Test.YteippgbaaipiiaaPnSum
import Derived.ArgAppend
namespace Go.Proofs.Yteippgbaaipiiaa
open Go.RowKit
set_option linter.unusedVariables false
set_option linter.unusedSimpArgs false

theorem sliced_all (a : Option Addr) (n : Nat) (ha : ∀ x, a = some x → x.spot = none) : sliced a 0 n n 1 = .slice a n n := by
  unfold sliced
  rw [Nat.zero_mul]
  have e : a.map (fun x => x.add 0) = a := by
    cases a with
    | none => rfl
    | some x =>
      have := ha x rfl
      obtain ⟨b, off, sp⟩ := x
      simp at this
      subst this
      simp [Addr.add]
  split
  · simp
  · rw [e]; simp
/-- 'x[:n:n]'. -/
theorem slice_whole (a : Option Addr) (n c : Nat) (h2 : n ≤ c) (ha : ∀ x, a = some x → x.spot = none) (w : World) :
    (Instr.slice 22 (.slice a n c) none (some (.int .i64 (n : Int))) (some (.int .i64 (n : Int)))).run Try.prog w = .ok (.slice a n n) w := by
  obtain ⟨i, hi⟩ := infoI
  rw [run_slice_hm (P := Try.prog) (w := w) 22 a n c underI .i64 .i64 (n : Int) (n : Int) (by omega) (by omega) (by omega)]
  rw [elemI, run_sizeOf (P := Try.prog) (w := w) hi, cellsI, Result.andThen_ok, Int.toNat_natCast, sliced_all a n ha]
theorem own_cap {w : World} {B T n size : Nat} {v : Value} {xs : List Value} (h : w.ownsRow B T size v n xs) : ∃ a c, v = .slice a n c ∧ n ≤ c ∧ Reads w a xs ∧ (∀ x, a = some x → x.spot = none) := by
  obtain ⟨a, c, rfl, hr, -⟩ := Reads.own h
  obtain ⟨hl, ⟨hv, h2⟩ | ⟨g', cap, cur, hv, hb, hh, hn, r⟩⟩ := h
  · injection hv with h3 h4 h5
    subst h3 h5
    exact ⟨none, 0, rfl, by omega, hr, fun x e => by cases e⟩
  · injection hv with h3 h4 h5
    subst h3 h5
    exact ⟨_, _, rfl, hn, hr, fun x e => by cases e; rfl⟩

set_option maxHeartbeats 1600000 in
theorem withBall_any (l : List Int) (p : Int) (a : Option Addr) (c : Nat) (hl : l.length ≤ 1048576) (hc : l.length ≤ c) (hn : a = none → l = []) (ha : ∀ x, a = some x → x.spot = none) (w : World) (h : Reads w a (ints l)) :
    Calls Try.prog 95 #[.slice a l.length c, .int .i64 p] w fun e w' => ∃ v, e = .returned v ∧ w'.ownsRow w.heap.size 3 1 v (l ++ [p]).length (ints (l ++ [p])) ∧ Below w.heap.size w w' := by
  obtain ⟨i0, hi0, hz0, hz1, hz2⟩ := info_parts infoInt
  have hsl := fun w => slice_whole a l.length c hc ha w
  have bd := below_new w (.cells #[.int .i64 p] 3)
  have holds : ∀ b, a = some b → ∀ j u, (ints l)[j]? = some u → (w.alloc (.cells #[.int .i64 p] 3)).cell? (b.add j) = some u := by
    intro b e j u hj
    subst e
    have hjl : j < l.length := by have := (List.getElem?_eq_some_iff.1 hj).1; rwa [ints_len] at this
    obtain ⟨b2, off, e2, hlt, hcs⟩ := cells_of_reads h (by omega)
    have e3 : b = ⟨b2, off, none⟩ := Option.some.inj e2
    subst e3
    rw [add_pl, bd.cell (p := ⟨b2, off + j, none⟩) hlt, hcs j hjl, ← hj, ints_get l j hjl]
  have HH := Lib.hid (And.intro holds bd); clear holds bd h
  have HN := Lib.hid hn; clear hn
  go_enter Try.func95, Try.ntmps95
  go_wp2_with (at_builtin; refine wpList_append_grows _ rfl _ _ 22 rfl 3 i0 (.int .i64 0) 1 8 Try.underlying22 hi0 hz0 hz1 hz2 rfl (by decide) a l.length l.length (ints l) rfl ?_ ?_ HH.out.1 ⟨w.heap.size, 0, none⟩ 1 1 [.int .i64 p] rfl rfl (cell_one_new _ _ _) ?_ ?_ ?_ ?_ ?_)
  · intro e; rw [HN.out e]; exact ⟨rfl, rfl⟩
  · rw [ints_len]; omega
  · first | (intro u hu; simp at hu; subst hu; rfl) | rfl | simp
  · omega
  · unfold maxLen; omega
  · omega
  intro v' w3 hown hgrow
  have hb3 := HH.out.2.grown hgrow (by simp) (fun g e => by cases e)
  have hown2 : w3.ownsRow w.heap.size 3 1 v' (l ++ [p]).length (ints (l ++ [p])) := by
    have h5 := owns_base (B := w.heap.size) hown (by simp)
    have e1 : (l ++ [p]).length = l.length + 1 := by simp
    have e2 : ints (l ++ [p]) = ints l ++ [.int .i64 p] := by simp [ints]
    rw [e1, e2]
    exact h5
  have H3 := Lib.hid (And.intro hown2 hb3); clear hown hgrow hb3 hown2
  go_wp2_with fail
  go_ret
  exact ⟨_, rfl, H3.out.1, H3.out.2⟩

def OnA (pick : Int → Bool → Int) (F : Nat) (rolls full : List Int) (w : World) (gm : Value) (wr : World) : Prop :=
  ∃ s gl a c, gm = .slice a gl.length c ∧ gl.length ≤ c ∧ (a = none → gl = []) ∧ (∀ x, a = some x → x.spot = none) ∧ gameG F ([], []) gl = some s ∧ InvG F s ∧ gl ++ fillG pick F s = full ∧ Reads wr a (ints gl) ∧ Below w.heap.size w wr
def OnR (pick : Int → Bool → Int) (f : Int) (rolls : List Int) (o : Option St) (w : World) (e : Ending) (w' : World) : Prop :=
  (∀ s, o = some s → ∃ a c, e = .returned (.tuple #[.slice a (rolls ++ fillG pick f.toNat s).length c, .bool true]) ∧ (rolls ++ fillG pick f.toNat s).length ≤ c ∧ Reads w' a (ints (rolls ++ fillG pick f.toNat s))) ∧
  (o = none → ∃ a n c, e = .returned (.tuple #[.slice a n c, .bool false])) ∧ Below w.heap.size w w'
def lenOf : Value → Nat
  | .slice _ n _ => n
  | _ => 0
theorem game_len {F : Nat} {l : List Int} {s : St} (h1 : 1 ≤ F) (h2 : F ≤ 10) (h : gameG F ([], []) l = some s) : l.length ≤ 30 := by
  have hi := game_inv _ _ _ (inv_start h1) h
  have hr := game_rolls _ _ _ h
  have := flat_len hi
  have e : rollsG s = l := by simpa [rollsG] using hr
  rw [e] at this
  omega
theorem game_snoc {F : Nat} {l : List Int} {s : St} {p : Int} (h : gameG F ([], []) l = some s) (hf : fitsG F s p = true) : gameG F ([], []) (l ++ [p]) = some (stepG F s p) := by
  rw [game_append, h]
  simp [gameG, hf]

set_option maxHeartbeats 400000 in
theorem pickAll_any (st : Int) (last : Bool) (w : World) : Calls Try.prog 72 #[.int .i64 st, .bool last] w fun e w' => e = .returned (.int .i64 (pickAll st last)) ∧ w = w' := by
  cases last
  all_goals
    go_enter Try.func72, Try.ntmps72
    go_wp2
    go_ret
    exact ⟨rfl, rfl⟩

set_option maxHeartbeats 6400000 in
set_option maxRecDepth 100000 in
theorem onAll_any (f : Int) (rolls : List Int) (a : Option Addr) (c : Nat) (hc : rolls.length ≤ c) (hn : a = none → rolls = []) (ha : ∀ x, a = some x → x.spot = none) (w : World) (hl : (rolls.length : Int) ≤ 1000000000000) (h : Reads w a (ints rolls)) :
    Calls Try.prog 71 #[.int .i64 f, .slice a rolls.length c, .func (.func 72) #[] #[]] w fun e w' => OnR pickAll f rolls (goodR f rolls) w e w' := by
  have hs := sheetOf_any f rolls a c w hl h
  cases hg : goodR f rolls with
  | none =>
    rw [hg] at hs
    have HS := Lib.hid hs; clear hs hg h
    go_enter Try.func71, Try.ntmps71
    go_wp2_with fail
    refine wp_loop_rounds 1 ?_
    rw [rounds_succ]
    go_wp2_with fail
    refine HS.out.mono ?_; rintro e w1 ⟨-, hn', b1⟩
    obtain rfl := hn' rfl
    have B1 := Lib.hid b1; clear hn' b1
    go_wp2_with fail
    refine (next_nil _).mono ?_; rintro e w2 ⟨rfl, rfl⟩
    go_wp2_with fail
    go_ret2
    exact ⟨(fun s hs => by cases hs), (fun _ => ⟨_, _, _, rfl⟩), B1.out⟩
  | some s =>
    obtain ⟨F, rfl, h1, h2, hgm, hi, hro⟩ := goodR_some hg
    clear hs
    have h0 : OnA pickAll F rolls (rolls ++ fillG pickAll F s) w (.slice a rolls.length c) w := ⟨s, rolls, a, c, rfl, hc, hn, ha, hgm, hi, rfl, h, Below.refl _ _⟩
    have H0 := Lib.hid h0; clear h0 h hg hi hro hn ha
    have HGM := Lib.hid hgm; clear hgm
    generalize hfull : rolls ++ fillG pickAll F s = full at *
    have HFU := Lib.hid hfull; clear hfull
    go_enter Try.func71, Try.ntmps71
    go_wp2_with fail
    go_loopw [8] (fun gm wr => Hid (OnA pickAll F rolls full w gm wr)) (fun gm _ => 40 - lenOf gm)
    case atStart => exact H0
    case round =>
      clear H0
      obtain ⟨t, gl, a2, c2, e1, hcl, hn2, ha2, hg2, hi2, hfl, hrd, hbel⟩ := hrel.out
      subst e1
      clear hrel
      have hgl := game_len h1 h2 hg2
      have hsh := fun w' (hr : Reads w' a2 (ints gl)) => sheetOf_any (F : Int) gl a2 c2 w' (by omega) hr
      have hgr : goodR (F : Int) gl = some t := by rw [goodR_nat h1 h2]; exact hg2
      rw [hgr] at hsh
      have hnx := fun g c w hx => next_any F h1 h2 t hi2 g c w hx
      have HSH := Lib.hid hsh; clear hsh hgr
      have HH := Lib.hid (And.intro hg2 (And.intro hi2 (And.intro hfl (And.intro hrd (And.intro hbel (And.intro hn2 ha2)))))); clear hg2 hfl hrd hbel hn2 ha2
      cases ho : overG F t
      · rw [ho] at hnx
        simp only [Bool.false_eq_true, if_false] at hnx
        have hbd := leftP_bd t.2
        have hlast : ((t.1.length : Int) == (F : Int) - 1) = lastG F t := by rw [Bool.eq_iff_iff]; simp [lastG]; omega
        have hfits := fits_pick ho (pick := pickAll) fair_all
        have hfs := fill_step (pick := pickAll) fair_all hi2 ho
        have hstp := inv_step hi2 hfits
        have HF := Lib.hid (And.intro hfits (And.intro hfs hstp)); clear hfits hfs hstp hi2 ho
        have HN := Lib.hid hnx; clear hnx
        have he0 : (leftP t.2 == 0) = false := by simp; omega
        generalize hlb : lastG F t = lb at *
        generalize leftP t.2 = st at *
        generalize t.1.length = d at *
        have HLB := Lib.hid hlb; clear hlb
        go_wp2_with fail
        refine (HSH.out _ HH.out.2.2.2.1).mono ?_; rintro e w1 ⟨hs1, -, b1⟩
        obtain ⟨g, rfl, hsg, -⟩ := hs1 t rfl
        rw [show ((F : Nat) : Int).toNat = F from by simp] at hsg ⊢
        have B1 := Lib.hid (And.intro hsg (HH.out.2.2.2.2.1.trans (b1.mono HH.out.2.2.2.2.1.size)))
        have R1 := Lib.hid (HH.out.2.2.2.1.old b1); clear hs1 b1 hsg
        go_wp2_with fail
        refine (HN.out _ _ _ B1.out.1).mono ?_; rintro e w2 ⟨rfl, b2⟩
        have B2 := Lib.hid (B1.out.2.trans (b2.mono B1.out.2.size))
        have R2 := Lib.hid (R1.out.old b2); clear b2
        go_wp2_with fail
        refine (pickAll_any _ _ _).mono ?_; rintro e w3 ⟨rfl, rfl⟩
        go_wp2_with fail
        refine (withBall_any gl _ a2 c2 (by omega) hcl HH.out.2.2.2.2.2.1 HH.out.2.2.2.2.2.2 _ R2.out).mono ?_; rintro e w4 ⟨v, rfl, hown, b4⟩
        obtain ⟨a4, c4, rfl, hc4, hr4, ha4⟩ := own_cap hown
        have hrel4 : OnA pickAll F rolls full w (.slice a4 (gl ++ [pickAll st lb]).length c4) w4 := by
          refine ⟨stepG F t (pickAll st lb), gl ++ [pickAll st lb], a4, c4, rfl, hc4, ?_, ha4, ?_, HF.out.2.2, ?_, hr4, B2.out.trans (b4.mono B2.out.size)⟩
          · intro e
            subst e
            rcases hr4 with hr4 | ⟨_, _, e, _⟩
            · have := congrArg List.length hr4; simp [ints] at this
            · cases e
          · exact game_snoc HH.out.1 HF.out.1
          · have h5 := HH.out.2.2.1
            rw [HF.out.2.1] at h5
            rw [List.append_assoc]; exact h5
        have H4 := Lib.hid hrel4; clear hrel4 hown hr4 b4
        have hlen4 : (gl ++ [pickAll st lb]).length = gl.length + 1 := by simp
        rw [hlen4] at H4 ⊢
        clear hlen4 ha4 hc4
        go_wp2_with fail
        go_roundw
        case rel => exact H4
        case measure => simp [lenOf]; omega
      · rw [ho] at hnx
        simp only [if_true] at hnx
        have HN := Lib.hid hnx; clear hnx
        have hfe : gl = full := by have := HH.out.2.2.1; rw [fill_over ho, List.append_nil] at this; exact this
        have HFE := Lib.hid hfe; clear hfe hi2 ho
        go_wp2_with fail
        refine (HSH.out _ HH.out.2.2.2.1).mono ?_; rintro e w1 ⟨hs1, -, b1⟩
        obtain ⟨g, rfl, hsg, -⟩ := hs1 t rfl
        rw [show ((F : Nat) : Int).toNat = F from by simp] at hsg ⊢
        have B1 := Lib.hid (And.intro hsg (HH.out.2.2.2.2.1.trans (b1.mono HH.out.2.2.2.2.1.size)))
        have R1 := Lib.hid (HH.out.2.2.2.1.old b1); clear hs1 b1 hsg
        go_wp2_with fail
        refine (HN.out _ _ _ B1.out.1).mono ?_; rintro e w2 ⟨rfl, b2⟩
        have B2 := Lib.hid (B1.out.2.trans (b2.mono B1.out.2.size))
        have R2 := Lib.hid (R1.out.old b2); clear b2
        go_wp2_with fail
        go_ret2
        refine ⟨(fun s' hs' => ?_), (fun hn => by cases hn), B2.out⟩
        injection hs' with hs'
        subst hs'
        rw [show ((F : Nat) : Int).toNat = F from by simp, HFU.out, ← HFE.out]
        exact ⟨a2, c2, rfl, hcl, R2.out⟩

set_option maxHeartbeats 400000 in
theorem pickNone_any (st : Int) (last : Bool) (w : World) : Calls Try.prog 74 #[.int .i64 st, .bool last] w fun e w' => e = .returned (.int .i64 (pickNone st last)) ∧ w = w' := by
  cases last
  all_goals
    go_enter Try.func74, Try.ntmps74
    go_wp2
    go_ret
    exact ⟨rfl, rfl⟩

set_option maxHeartbeats 6400000 in
set_option maxRecDepth 100000 in
theorem onNone_any (f : Int) (rolls : List Int) (a : Option Addr) (c : Nat) (hc : rolls.length ≤ c) (hn : a = none → rolls = []) (ha : ∀ x, a = some x → x.spot = none) (w : World) (hl : (rolls.length : Int) ≤ 1000000000000) (h : Reads w a (ints rolls)) :
    Calls Try.prog 71 #[.int .i64 f, .slice a rolls.length c, .func (.func 74) #[] #[]] w fun e w' => OnR pickNone f rolls (goodR f rolls) w e w' := by
  have hs := sheetOf_any f rolls a c w hl h
  cases hg : goodR f rolls with
  | none =>
    rw [hg] at hs
    have HS := Lib.hid hs; clear hs hg h
    go_enter Try.func71, Try.ntmps71
    go_wp2_with fail
    refine wp_loop_rounds 1 ?_
    rw [rounds_succ]
    go_wp2_with fail
    refine HS.out.mono ?_; rintro e w1 ⟨-, hn', b1⟩
    obtain rfl := hn' rfl
    have B1 := Lib.hid b1; clear hn' b1
    go_wp2_with fail
    refine (next_nil _).mono ?_; rintro e w2 ⟨rfl, rfl⟩
    go_wp2_with fail
    go_ret2
    exact ⟨(fun s hs => by cases hs), (fun _ => ⟨_, _, _, rfl⟩), B1.out⟩
  | some s =>
    obtain ⟨F, rfl, h1, h2, hgm, hi, hro⟩ := goodR_some hg
    clear hs
    have h0 : OnA pickNone F rolls (rolls ++ fillG pickNone F s) w (.slice a rolls.length c) w := ⟨s, rolls, a, c, rfl, hc, hn, ha, hgm, hi, rfl, h, Below.refl _ _⟩
    have H0 := Lib.hid h0; clear h0 h hg hi hro hn ha
    have HGM := Lib.hid hgm; clear hgm
    generalize hfull : rolls ++ fillG pickNone F s = full at *
    have HFU := Lib.hid hfull; clear hfull
    go_enter Try.func71, Try.ntmps71
    go_wp2_with fail
    go_loopw [8] (fun gm wr => Hid (OnA pickNone F rolls full w gm wr)) (fun gm _ => 40 - lenOf gm)
    case atStart => exact H0
    case round =>
      clear H0
      obtain ⟨t, gl, a2, c2, e1, hcl, hn2, ha2, hg2, hi2, hfl, hrd, hbel⟩ := hrel.out
      subst e1
      clear hrel
      have hgl := game_len h1 h2 hg2
      have hsh := fun w' (hr : Reads w' a2 (ints gl)) => sheetOf_any (F : Int) gl a2 c2 w' (by omega) hr
      have hgr : goodR (F : Int) gl = some t := by rw [goodR_nat h1 h2]; exact hg2
      rw [hgr] at hsh
      have hnx := fun g c w hx => next_any F h1 h2 t hi2 g c w hx
      have HSH := Lib.hid hsh; clear hsh hgr
      have HH := Lib.hid (And.intro hg2 (And.intro hi2 (And.intro hfl (And.intro hrd (And.intro hbel (And.intro hn2 ha2)))))); clear hg2 hfl hrd hbel hn2 ha2
      cases ho : overG F t
      · rw [ho] at hnx
        simp only [Bool.false_eq_true, if_false] at hnx
        have hbd := leftP_bd t.2
        have hlast : ((t.1.length : Int) == (F : Int) - 1) = lastG F t := by rw [Bool.eq_iff_iff]; simp [lastG]; omega
        have hfits := fits_pick ho (pick := pickNone) fair_none
        have hfs := fill_step (pick := pickNone) fair_none hi2 ho
        have hstp := inv_step hi2 hfits
        have HF := Lib.hid (And.intro hfits (And.intro hfs hstp)); clear hfits hfs hstp hi2 ho
        have HN := Lib.hid hnx; clear hnx
        have he0 : (leftP t.2 == 0) = false := by simp; omega
        generalize hlb : lastG F t = lb at *
        generalize leftP t.2 = st at *
        generalize t.1.length = d at *
        have HLB := Lib.hid hlb; clear hlb
        go_wp2_with fail
        refine (HSH.out _ HH.out.2.2.2.1).mono ?_; rintro e w1 ⟨hs1, -, b1⟩
        obtain ⟨g, rfl, hsg, -⟩ := hs1 t rfl
        rw [show ((F : Nat) : Int).toNat = F from by simp] at hsg ⊢
        have B1 := Lib.hid (And.intro hsg (HH.out.2.2.2.2.1.trans (b1.mono HH.out.2.2.2.2.1.size)))
        have R1 := Lib.hid (HH.out.2.2.2.1.old b1); clear hs1 b1 hsg
        go_wp2_with fail
        refine (HN.out _ _ _ B1.out.1).mono ?_; rintro e w2 ⟨rfl, b2⟩
        have B2 := Lib.hid (B1.out.2.trans (b2.mono B1.out.2.size))
        have R2 := Lib.hid (R1.out.old b2); clear b2
        go_wp2_with fail
        refine (pickNone_any _ _ _).mono ?_; rintro e w3 ⟨rfl, rfl⟩
        go_wp2_with fail
        refine (withBall_any gl _ a2 c2 (by omega) hcl HH.out.2.2.2.2.2.1 HH.out.2.2.2.2.2.2 _ R2.out).mono ?_; rintro e w4 ⟨v, rfl, hown, b4⟩
        obtain ⟨a4, c4, rfl, hc4, hr4, ha4⟩ := own_cap hown
        have hrel4 : OnA pickNone F rolls full w (.slice a4 (gl ++ [pickNone st lb]).length c4) w4 := by
          refine ⟨stepG F t (pickNone st lb), gl ++ [pickNone st lb], a4, c4, rfl, hc4, ?_, ha4, ?_, HF.out.2.2, ?_, hr4, B2.out.trans (b4.mono B2.out.size)⟩
          · intro e
            subst e
            rcases hr4 with hr4 | ⟨_, _, e, _⟩
            · have := congrArg List.length hr4; simp [ints] at this
            · cases e
          · exact game_snoc HH.out.1 HF.out.1
          · have h5 := HH.out.2.2.1
            rw [HF.out.2.1] at h5
            rw [List.append_assoc]; exact h5
        have H4 := Lib.hid hrel4; clear hrel4 hown hr4 b4
        have hlen4 : (gl ++ [pickNone st lb]).length = gl.length + 1 := by simp
        rw [hlen4] at H4 ⊢
        clear hlen4 ha4 hc4
        go_wp2_with fail
        go_roundw
        case rel => exact H4
        case measure => simp [lenOf]; omega
      · rw [ho] at hnx
        simp only [if_true] at hnx
        have HN := Lib.hid hnx; clear hnx
        have hfe : gl = full := by have := HH.out.2.2.1; rw [fill_over ho, List.append_nil] at this; exact this
        have HFE := Lib.hid hfe; clear hfe hi2 ho
        go_wp2_with fail
        refine (HSH.out _ HH.out.2.2.2.1).mono ?_; rintro e w1 ⟨hs1, -, b1⟩
        obtain ⟨g, rfl, hsg, -⟩ := hs1 t rfl
        rw [show ((F : Nat) : Int).toNat = F from by simp] at hsg ⊢
        have B1 := Lib.hid (And.intro hsg (HH.out.2.2.2.2.1.trans (b1.mono HH.out.2.2.2.2.1.size)))
        have R1 := Lib.hid (HH.out.2.2.2.1.old b1); clear hs1 b1 hsg
        go_wp2_with fail
        refine (HN.out _ _ _ B1.out.1).mono ?_; rintro e w2 ⟨rfl, b2⟩
        have B2 := Lib.hid (B1.out.2.trans (b2.mono B1.out.2.size))
        have R2 := Lib.hid (R1.out.old b2); clear b2
        go_wp2_with fail
        go_ret2
        refine ⟨(fun s' hs' => ?_), (fun hn => by cases hn), B2.out⟩
        injection hs' with hs'
        subst hs'
        rw [show ((F : Nat) : Int).toNat = F from by simp, HFU.out, ← HFE.out]
        exact ⟨a2, c2, rfl, hcl, R2.out⟩

set_option maxHeartbeats 400000 in
theorem pickFew_any (st : Int) (last : Bool) (w : World) : Calls Try.prog 78 #[.int .i64 st, .bool last] w fun e w' => e = .returned (.int .i64 (pickFew st last)) ∧ w = w' := by
  cases last
  all_goals
    go_enter Try.func78, Try.ntmps78
    go_wp2
    go_ret
    exact ⟨rfl, rfl⟩

set_option maxHeartbeats 6400000 in
set_option maxRecDepth 100000 in
theorem onFew_any (f : Int) (rolls : List Int) (a : Option Addr) (c : Nat) (hc : rolls.length ≤ c) (hn : a = none → rolls = []) (ha : ∀ x, a = some x → x.spot = none) (w : World) (hl : (rolls.length : Int) ≤ 1000000000000) (h : Reads w a (ints rolls)) :
    Calls Try.prog 71 #[.int .i64 f, .slice a rolls.length c, .func (.func 78) #[] #[]] w fun e w' => OnR pickFew f rolls (goodR f rolls) w e w' := by
  have hs := sheetOf_any f rolls a c w hl h
  cases hg : goodR f rolls with
  | none =>
    rw [hg] at hs
    have HS := Lib.hid hs; clear hs hg h
    go_enter Try.func71, Try.ntmps71
    go_wp2_with fail
    refine wp_loop_rounds 1 ?_
    rw [rounds_succ]
    go_wp2_with fail
    refine HS.out.mono ?_; rintro e w1 ⟨-, hn', b1⟩
    obtain rfl := hn' rfl
    have B1 := Lib.hid b1; clear hn' b1
    go_wp2_with fail
    refine (next_nil _).mono ?_; rintro e w2 ⟨rfl, rfl⟩
    go_wp2_with fail
    go_ret2
    exact ⟨(fun s hs => by cases hs), (fun _ => ⟨_, _, _, rfl⟩), B1.out⟩
  | some s =>
    obtain ⟨F, rfl, h1, h2, hgm, hi, hro⟩ := goodR_some hg
    clear hs
    have h0 : OnA pickFew F rolls (rolls ++ fillG pickFew F s) w (.slice a rolls.length c) w := ⟨s, rolls, a, c, rfl, hc, hn, ha, hgm, hi, rfl, h, Below.refl _ _⟩
    have H0 := Lib.hid h0; clear h0 h hg hi hro hn ha
    have HGM := Lib.hid hgm; clear hgm
    generalize hfull : rolls ++ fillG pickFew F s = full at *
    have HFU := Lib.hid hfull; clear hfull
    go_enter Try.func71, Try.ntmps71
    go_wp2_with fail
    go_loopw [8] (fun gm wr => Hid (OnA pickFew F rolls full w gm wr)) (fun gm _ => 40 - lenOf gm)
    case atStart => exact H0
    case round =>
      clear H0
      obtain ⟨t, gl, a2, c2, e1, hcl, hn2, ha2, hg2, hi2, hfl, hrd, hbel⟩ := hrel.out
      subst e1
      clear hrel
      have hgl := game_len h1 h2 hg2
      have hsh := fun w' (hr : Reads w' a2 (ints gl)) => sheetOf_any (F : Int) gl a2 c2 w' (by omega) hr
      have hgr : goodR (F : Int) gl = some t := by rw [goodR_nat h1 h2]; exact hg2
      rw [hgr] at hsh
      have hnx := fun g c w hx => next_any F h1 h2 t hi2 g c w hx
      have HSH := Lib.hid hsh; clear hsh hgr
      have HH := Lib.hid (And.intro hg2 (And.intro hi2 (And.intro hfl (And.intro hrd (And.intro hbel (And.intro hn2 ha2)))))); clear hg2 hfl hrd hbel hn2 ha2
      cases ho : overG F t
      · rw [ho] at hnx
        simp only [Bool.false_eq_true, if_false] at hnx
        have hbd := leftP_bd t.2
        have hlast : ((t.1.length : Int) == (F : Int) - 1) = lastG F t := by rw [Bool.eq_iff_iff]; simp [lastG]; omega
        have hfits := fits_pick ho (pick := pickFew) fair_few
        have hfs := fill_step (pick := pickFew) fair_few hi2 ho
        have hstp := inv_step hi2 hfits
        have HF := Lib.hid (And.intro hfits (And.intro hfs hstp)); clear hfits hfs hstp hi2 ho
        have HN := Lib.hid hnx; clear hnx
        have he0 : (leftP t.2 == 0) = false := by simp; omega
        generalize hlb : lastG F t = lb at *
        generalize leftP t.2 = st at *
        generalize t.1.length = d at *
        have HLB := Lib.hid hlb; clear hlb
        go_wp2_with fail
        refine (HSH.out _ HH.out.2.2.2.1).mono ?_; rintro e w1 ⟨hs1, -, b1⟩
        obtain ⟨g, rfl, hsg, -⟩ := hs1 t rfl
        rw [show ((F : Nat) : Int).toNat = F from by simp] at hsg ⊢
        have B1 := Lib.hid (And.intro hsg (HH.out.2.2.2.2.1.trans (b1.mono HH.out.2.2.2.2.1.size)))
        have R1 := Lib.hid (HH.out.2.2.2.1.old b1); clear hs1 b1 hsg
        go_wp2_with fail
        refine (HN.out _ _ _ B1.out.1).mono ?_; rintro e w2 ⟨rfl, b2⟩
        have B2 := Lib.hid (B1.out.2.trans (b2.mono B1.out.2.size))
        have R2 := Lib.hid (R1.out.old b2); clear b2
        go_wp2_with fail
        refine (pickFew_any _ _ _).mono ?_; rintro e w3 ⟨rfl, rfl⟩
        go_wp2_with fail
        refine (withBall_any gl _ a2 c2 (by omega) hcl HH.out.2.2.2.2.2.1 HH.out.2.2.2.2.2.2 _ R2.out).mono ?_; rintro e w4 ⟨v, rfl, hown, b4⟩
        obtain ⟨a4, c4, rfl, hc4, hr4, ha4⟩ := own_cap hown
        have hrel4 : OnA pickFew F rolls full w (.slice a4 (gl ++ [pickFew st lb]).length c4) w4 := by
          refine ⟨stepG F t (pickFew st lb), gl ++ [pickFew st lb], a4, c4, rfl, hc4, ?_, ha4, ?_, HF.out.2.2, ?_, hr4, B2.out.trans (b4.mono B2.out.size)⟩
          · intro e
            subst e
            rcases hr4 with hr4 | ⟨_, _, e, _⟩
            · have := congrArg List.length hr4; simp [ints] at this
            · cases e
          · exact game_snoc HH.out.1 HF.out.1
          · have h5 := HH.out.2.2.1
            rw [HF.out.2.1] at h5
            rw [List.append_assoc]; exact h5
        have H4 := Lib.hid hrel4; clear hrel4 hown hr4 b4
        have hlen4 : (gl ++ [pickFew st lb]).length = gl.length + 1 := by simp
        rw [hlen4] at H4 ⊢
        clear hlen4 ha4 hc4
        go_wp2_with fail
        go_roundw
        case rel => exact H4
        case measure => simp [lenOf]; omega
      · rw [ho] at hnx
        simp only [if_true] at hnx
        have HN := Lib.hid hnx; clear hnx
        have hfe : gl = full := by have := HH.out.2.2.1; rw [fill_over ho, List.append_nil] at this; exact this
        have HFE := Lib.hid hfe; clear hfe hi2 ho
        go_wp2_with fail
        refine (HSH.out _ HH.out.2.2.2.1).mono ?_; rintro e w1 ⟨hs1, -, b1⟩
        obtain ⟨g, rfl, hsg, -⟩ := hs1 t rfl
        rw [show ((F : Nat) : Int).toNat = F from by simp] at hsg ⊢
        have B1 := Lib.hid (And.intro hsg (HH.out.2.2.2.2.1.trans (b1.mono HH.out.2.2.2.2.1.size)))
        have R1 := Lib.hid (HH.out.2.2.2.1.old b1); clear hs1 b1 hsg
        go_wp2_with fail
        refine (HN.out _ _ _ B1.out.1).mono ?_; rintro e w2 ⟨rfl, b2⟩
        have B2 := Lib.hid (B1.out.2.trans (b2.mono B1.out.2.size))
        have R2 := Lib.hid (R1.out.old b2); clear b2
        go_wp2_with fail
        go_ret2
        refine ⟨(fun s' hs' => ?_), (fun hn => by cases hn), B2.out⟩
        injection hs' with hs'
        subst hs'
        rw [show ((F : Nat) : Int).toNat = F from by simp, HFU.out, ← HFE.out]
        exact ⟨a2, c2, rfl, hcl, R2.out⟩

set_option maxHeartbeats 400000 in
theorem pickMany_any (st : Int) (last : Bool) (w : World) : Calls Try.prog 79 #[.int .i64 st, .bool last] w fun e w' => e = .returned (.int .i64 (pickMany st last)) ∧ w = w' := by
  cases last
  all_goals
    go_enter Try.func79, Try.ntmps79
    go_wp2
    go_ret
    exact ⟨rfl, rfl⟩

set_option maxHeartbeats 6400000 in
set_option maxRecDepth 100000 in
theorem onMany_any (f : Int) (rolls : List Int) (a : Option Addr) (c : Nat) (hc : rolls.length ≤ c) (hn : a = none → rolls = []) (ha : ∀ x, a = some x → x.spot = none) (w : World) (hl : (rolls.length : Int) ≤ 1000000000000) (h : Reads w a (ints rolls)) :
    Calls Try.prog 71 #[.int .i64 f, .slice a rolls.length c, .func (.func 79) #[] #[]] w fun e w' => OnR pickMany f rolls (goodR f rolls) w e w' := by
  have hs := sheetOf_any f rolls a c w hl h
  cases hg : goodR f rolls with
  | none =>
    rw [hg] at hs
    have HS := Lib.hid hs; clear hs hg h
    go_enter Try.func71, Try.ntmps71
    go_wp2_with fail
    refine wp_loop_rounds 1 ?_
    rw [rounds_succ]
    go_wp2_with fail
    refine HS.out.mono ?_; rintro e w1 ⟨-, hn', b1⟩
    obtain rfl := hn' rfl
    have B1 := Lib.hid b1; clear hn' b1
    go_wp2_with fail
    refine (next_nil _).mono ?_; rintro e w2 ⟨rfl, rfl⟩
    go_wp2_with fail
    go_ret2
    exact ⟨(fun s hs => by cases hs), (fun _ => ⟨_, _, _, rfl⟩), B1.out⟩
  | some s =>
    obtain ⟨F, rfl, h1, h2, hgm, hi, hro⟩ := goodR_some hg
    clear hs
    have h0 : OnA pickMany F rolls (rolls ++ fillG pickMany F s) w (.slice a rolls.length c) w := ⟨s, rolls, a, c, rfl, hc, hn, ha, hgm, hi, rfl, h, Below.refl _ _⟩
    have H0 := Lib.hid h0; clear h0 h hg hi hro hn ha
    have HGM := Lib.hid hgm; clear hgm
    generalize hfull : rolls ++ fillG pickMany F s = full at *
    have HFU := Lib.hid hfull; clear hfull
    go_enter Try.func71, Try.ntmps71
    go_wp2_with fail
    go_loopw [8] (fun gm wr => Hid (OnA pickMany F rolls full w gm wr)) (fun gm _ => 40 - lenOf gm)
    case atStart => exact H0
    case round =>
      clear H0
      obtain ⟨t, gl, a2, c2, e1, hcl, hn2, ha2, hg2, hi2, hfl, hrd, hbel⟩ := hrel.out
      subst e1
      clear hrel
      have hgl := game_len h1 h2 hg2
      have hsh := fun w' (hr : Reads w' a2 (ints gl)) => sheetOf_any (F : Int) gl a2 c2 w' (by omega) hr
      have hgr : goodR (F : Int) gl = some t := by rw [goodR_nat h1 h2]; exact hg2
      rw [hgr] at hsh
      have hnx := fun g c w hx => next_any F h1 h2 t hi2 g c w hx
      have HSH := Lib.hid hsh; clear hsh hgr
      have HH := Lib.hid (And.intro hg2 (And.intro hi2 (And.intro hfl (And.intro hrd (And.intro hbel (And.intro hn2 ha2)))))); clear hg2 hfl hrd hbel hn2 ha2
      cases ho : overG F t
      · rw [ho] at hnx
        simp only [Bool.false_eq_true, if_false] at hnx
        have hbd := leftP_bd t.2
        have hlast : ((t.1.length : Int) == (F : Int) - 1) = lastG F t := by rw [Bool.eq_iff_iff]; simp [lastG]; omega
        have hfits := fits_pick ho (pick := pickMany) fair_many
        have hfs := fill_step (pick := pickMany) fair_many hi2 ho
        have hstp := inv_step hi2 hfits
        have HF := Lib.hid (And.intro hfits (And.intro hfs hstp)); clear hfits hfs hstp hi2 ho
        have HN := Lib.hid hnx; clear hnx
        have he0 : (leftP t.2 == 0) = false := by simp; omega
        generalize hlb : lastG F t = lb at *
        generalize leftP t.2 = st at *
        generalize t.1.length = d at *
        have HLB := Lib.hid hlb; clear hlb
        go_wp2_with fail
        refine (HSH.out _ HH.out.2.2.2.1).mono ?_; rintro e w1 ⟨hs1, -, b1⟩
        obtain ⟨g, rfl, hsg, -⟩ := hs1 t rfl
        rw [show ((F : Nat) : Int).toNat = F from by simp] at hsg ⊢
        have B1 := Lib.hid (And.intro hsg (HH.out.2.2.2.2.1.trans (b1.mono HH.out.2.2.2.2.1.size)))
        have R1 := Lib.hid (HH.out.2.2.2.1.old b1); clear hs1 b1 hsg
        go_wp2_with fail
        refine (HN.out _ _ _ B1.out.1).mono ?_; rintro e w2 ⟨rfl, b2⟩
        have B2 := Lib.hid (B1.out.2.trans (b2.mono B1.out.2.size))
        have R2 := Lib.hid (R1.out.old b2); clear b2
        go_wp2_with fail
        refine (pickMany_any _ _ _).mono ?_; rintro e w3 ⟨rfl, rfl⟩
        go_wp2_with fail
        refine (withBall_any gl _ a2 c2 (by omega) hcl HH.out.2.2.2.2.2.1 HH.out.2.2.2.2.2.2 _ R2.out).mono ?_; rintro e w4 ⟨v, rfl, hown, b4⟩
        obtain ⟨a4, c4, rfl, hc4, hr4, ha4⟩ := own_cap hown
        have hrel4 : OnA pickMany F rolls full w (.slice a4 (gl ++ [pickMany st lb]).length c4) w4 := by
          refine ⟨stepG F t (pickMany st lb), gl ++ [pickMany st lb], a4, c4, rfl, hc4, ?_, ha4, ?_, HF.out.2.2, ?_, hr4, B2.out.trans (b4.mono B2.out.size)⟩
          · intro e
            subst e
            rcases hr4 with hr4 | ⟨_, _, e, _⟩
            · have := congrArg List.length hr4; simp [ints] at this
            · cases e
          · exact game_snoc HH.out.1 HF.out.1
          · have h5 := HH.out.2.2.1
            rw [HF.out.2.1] at h5
            rw [List.append_assoc]; exact h5
        have H4 := Lib.hid hrel4; clear hrel4 hown hr4 b4
        have hlen4 : (gl ++ [pickMany st lb]).length = gl.length + 1 := by simp
        rw [hlen4] at H4 ⊢
        clear hlen4 ha4 hc4
        go_wp2_with fail
        go_roundw
        case rel => exact H4
        case measure => simp [lenOf]; omega
      · rw [ho] at hnx
        simp only [if_true] at hnx
        have HN := Lib.hid hnx; clear hnx
        have hfe : gl = full := by have := HH.out.2.2.1; rw [fill_over ho, List.append_nil] at this; exact this
        have HFE := Lib.hid hfe; clear hfe hi2 ho
        go_wp2_with fail
        refine (HSH.out _ HH.out.2.2.2.1).mono ?_; rintro e w1 ⟨hs1, -, b1⟩
        obtain ⟨g, rfl, hsg, -⟩ := hs1 t rfl
        rw [show ((F : Nat) : Int).toNat = F from by simp] at hsg ⊢
        have B1 := Lib.hid (And.intro hsg (HH.out.2.2.2.2.1.trans (b1.mono HH.out.2.2.2.2.1.size)))
        have R1 := Lib.hid (HH.out.2.2.2.1.old b1); clear hs1 b1 hsg
        go_wp2_with fail
        refine (HN.out _ _ _ B1.out.1).mono ?_; rintro e w2 ⟨rfl, b2⟩
        have B2 := Lib.hid (B1.out.2.trans (b2.mono B1.out.2.size))
        have R2 := Lib.hid (R1.out.old b2); clear b2
        go_wp2_with fail
        go_ret2
        refine ⟨(fun s' hs' => ?_), (fun hn => by cases hn), B2.out⟩
        injection hs' with hs'
        subst hs'
        rw [show ((F : Nat) : Int).toNat = F from by simp, HFU.out, ← HFE.out]
        exact ⟨a2, c2, rfl, hcl, R2.out⟩
end Go.Proofs.Yteippgbaaipiiaa
