/-
  Pins: the model's boSplit.
-/
import Derived.Test.YteippgbaaipiiaaPnSplit
import Derived.Maps.AppendAt
namespace Go.Proofs.Yteippgbaaipiiaa
open Go.RowKit
set_option linter.unusedVariables false
set_option linter.unusedSimpArgs false

theorem wp_append_at {P : Program} {w : World} {o : Oper} {a : Act} {K : Act → World → Prop} {Q : Exit → Act → World → Prop} (s x : Operand) (t : TypeId)
    (ho : o.op = .call { callee := .builtin .append, args := #[s, x], argTypes := #[t, t] })
    (base : Nat) (e : TypeId) (i : TypeInfo) (z : Value) (size bytes : Nat) (ht : P.underlying t = some (.slice e)) (hi : P.info? e = some i) (hz : i.zero = some z)
    (hsize : i.size = size) (hby : i.bytes = bytes) (hzs : z.cells.size = size) (hsz : 0 < size)
    (v : Value) (n : Nat) (xs : List Value) (hs : a.eval s = v) (hown : w.ownsRow base e size v n xs)
    (ad : Addr) (m c : Nat) (news : List Value) (hx : a.eval x = .slice (some ad) m c) (hl : news.length = m * size) (hnews : ∀ j u, news[j]? = some u → w.cell? (ad.add j) = some u) (h1 : ∀ u ∈ news, u.oneCell' = true)
    (h63 : n + m ≤ maxLen) (hbytes : (n + m) * bytes ≤ 140737488355328) (hbase : base ≤ w.heap.size)
    (h : ∀ v' w', w'.ownsRow base e size v' (n + m) (xs ++ news) → w.grownBy w' v.ownBlock → (v'.ownBlock = v.ownBlock ∨ v'.ownBlock = some w.heap.size) → K (a.put o.dst v') w') :
    Oper.wp P o a w K Q := by
  obtain ⟨v', w', hr, h2, h3, h4, h5⟩ := run_append_own_at (P := P) w base t o.type e i z size bytes ht hi hz hsize hby hzs hsz v n xs hown ad m c news hl hnews h1 h63 hbytes hbase
  unfold Oper.wp execOp
  simp only [ho, resolve, invoke, builtin, Sem.run_bind, Sem.run_pure, Result.andThen_ok, List.map_toArray, List.map_cons, List.map_nil, hs, hx, hr]
  exact h v' w' h2 h3 h5

/-- The last row has grown: the rows beside it. -/
theorem rows_grown {w w' : World} {B d n : Nat} {v lv lv' : Value} {vs xs : List Value} {D : List (List Int)} (o1 : w.ownsRow B 22 1 v d (vs ++ [lv])) (o2 : w.ownsRow B 3 1 lv n xs) (o3 : DoneR w B vs D lv.ownBlock)
    (hg : w.grownBy w' lv.ownBlock) (hb : lv'.ownBlock = lv.ownBlock ∨ lv'.ownBlock = some w.heap.size) : w'.ownsRow B 22 1 v d (vs ++ [lv]) ∧ DoneR w' B vs D lv'.ownBlock := by
  refine ⟨owns_heap o1 (fun k e => hg.block k (owns_ge o1 e).2 (fun ek => ?_)), o3.1, fun j hj => ?_⟩
  · obtain ⟨_, ⟨rfl, _⟩ | ⟨g', cap, cur, rfl, _, hh, _⟩⟩ := o1
    · simp [Value.ownBlock] at e
    · simp [Value.ownBlock] at e
      subst e
      exact owns_apart hh (by decide) o2 ek.symm
  · obtain ⟨u, q1, q2, q3⟩ := o3.2 j hj
    refine ⟨u, q1, owns_heap q2 (fun k e => hg.block k (owns_ge q2 e).2 (fun ek => q3 k ek.symm (by rw [e]))), fun g e => ?_⟩
    rcases hb with hb | hb
    · exact q3 g (by rw [← hb]; exact e)
    · rw [hb] at e
      injection e with e
      subst e
      intro e2
      have := (owns_ge q2 e2).2
      omega
theorem SplitD.opened {w w' : World} {B : Nat} {v v' : Value} {D : List (List Int)} {vs : List Value} (o1 : w.ownsRow B 22 1 v D.length vs) (o2 : DoneR w B vs D none) (h1 : w'.ownsRow B 22 1 v' (D.length + 1) (vs ++ [.slice none 0 0])) (hg : w.grownBy w' v.ownBlock) : SplitW w' B v' D [] none := by
  refine ⟨vs, .slice none 0 0, rfl, h1, ⟨rfl, .inl ⟨rfl, rfl⟩⟩, ?_⟩
  refine o2.heap (fun j u k hj hu e => ?_)
  obtain ⟨u', q1, q2, _⟩ := o2.2 j hj
  rw [hu] at q1; injection q1 with q1; subst q1
  refine hg.block k (owns_ge q2 e).2 (fun ek => ?_)
  obtain ⟨_, ⟨rfl, _⟩ | ⟨g', cap, cur, rfl, _, hh, _⟩⟩ := o1
  · simp [Value.ownBlock] at ek
  · simp [Value.ownBlock] at ek
    subst ek
    exact owns_apart hh (by decide) q2 e

theorem SplitW.lt {w : World} {B : Nat} {v : Value} {D : List (List Int)} {cur : List Int} {lb : Option Nat} (h : SplitW w B v D cur lb) : (∀ g, lb = some g → g < w.heap.size) ∧ (∀ g, v.ownBlock = some g → g < w.heap.size) := by
  obtain ⟨vs, lv, o0, o1, o2, o3⟩ := h
  exact ⟨fun g e => (owns_ge o2 (by rw [o0]; exact e)).2, fun g e => (owns_ge o1 e).2⟩
theorem split_step {w : World} {B : Nat} {v : Value} {s t : St} {p : Int} {lb : Option Nat} (ht : t = (s.1 ++ [s.2 ++ [p]], []) ∨ t = (s.1, s.2 ++ [p])) (h : SplitW w B v s.1 (s.2 ++ [p]) lb) : (t.2 = [] → SplitD w B v t.1) ∧ (t.2 ≠ [] → SplitW w B v t.1 t.2 lb) := by
  rcases ht with rfl | rfl
  · exact ⟨fun _ => h.close, fun hh => absurd rfl hh⟩
  · exact ⟨fun hh => absurd hh (by simp), fun _ => h⟩
def SplX (w : World) (g6 : Nat) (s : St) (a2 : Option Addr) (c2 : Nat) (lb : Option Nat) (v : Value) (W : World) : Prop :=
  BoAt W g6 (s.1.length : Int) (.slice a2 s.2.length c2) (leftP s.2) false ∧ Reads W a2 (ints s.2) ∧ SplitW W w.heap.size v s.1 s.2 lb ∧ (s.2 = [] ∨ ∀ b off, a2 = some ⟨b, off, none⟩ → b ≠ g6 ∧ some b ≠ lb ∧ some b ≠ v.ownBlock) ∧ Below w.heap.size w W
theorem SplX.drew {w : World} {g6 : Nat} {s : St} {a2 : Option Addr} {c2 : Nat} {lb : Option Nat} {v : Value} {W : World} (h : SplX w g6 s a2 c2 lb v W) : SplX w g6 s a2 c2 lb v W.drew :=
  ⟨h.1, h.2.1, h.2.2.1, h.2.2.2.1, Below.drew h.2.2.2.2⟩
def SplA (F : Nat) (rolls : List Int) (sf : St) (w : World) (g6 k : Nat) (v : Value) (wr : World) : Prop :=
  ∃ s a c lb, InvG F s ∧ gameG F s (rolls.drop k) = some sf ∧ BoAt wr g6 (frA F s) (.slice a (bsA F s).length c) (stA F s) (overG F s) ∧ Reads wr a (ints (bsA F s)) ∧
    (∀ b off, a = some ⟨b, off, none⟩ → b ≠ g6 ∧ some b ≠ lb ∧ some b ≠ v.ownBlock) ∧ (s.2 = [] → SplitD wr w.heap.size v s.1) ∧ (s.2 ≠ [] → SplitW wr w.heap.size v s.1 s.2 lb) ∧ Below w.heap.size w wr
theorem SplA.mk {F : Nat} {rolls : List Int} {sf s : St} {w wr : World} {g6 k c : Nat} {v : Value} {a : Option Addr} {lb : Option Nat} (h1 : InvG F s) (h2 : gameG F s (rolls.drop k) = some sf) (h3 : BoAt wr g6 (frA F s) (.slice a (bsA F s).length c) (stA F s) (overG F s)) (h4 : Reads wr a (ints (bsA F s)))
    (h5 : ∀ b off, a = some ⟨b, off, none⟩ → b ≠ g6 ∧ some b ≠ lb ∧ some b ≠ v.ownBlock) (h6 : (s.2 = [] → SplitD wr w.heap.size v s.1) ∧ (s.2 ≠ [] → SplitW wr w.heap.size v s.1 s.2 lb)) (h7 : Below w.heap.size w wr) : SplA F rolls sf w g6 k v wr :=
  ⟨s, a, c, lb, h1, h2, h3, h4, h5, h6.1, h6.2, h7⟩
theorem owns_last_at {w : World} {B T n go cap : Nat} {lv : Value} {vs : List Value} (h : w.ownsRow B T 1 (.slice (some ⟨go, 0, none⟩) (n + 1) cap) (n + 1) (vs ++ [lv])) :
    w.cell? ⟨go, n, none⟩ = some lv ∧ w.frozen? ⟨go, n, none⟩ = false ∧ ∀ lv', (w.setCell ⟨go, n, none⟩ lv').ownsRow B T 1 (.slice (some ⟨go, 0, none⟩) (n + 1) cap) (n + 1) (vs ++ [lv']) := by
  obtain ⟨_, go2, cap2, e, _, _, _, h1, h2, h3⟩ := owns_last h
  injection e with e1 e2 e3
  injection e1 with e1
  injection e1 with e1 _ _
  subst e1 e3
  exact ⟨h1, h2, h3⟩
theorem BoAt.grown {w w' : World} {g T base n size : Nat} {fr : Int} {bl : Value} {st : Int} {ov : Bool} (h : BoAt w g fr bl st ov) {v : Value} {xs : List Value} (hT : 67 ≠ T) (ho : w.ownsRow base T size v n xs) (hg : w.grownBy w' v.ownBlock) : BoAt w' g fr bl st ov := by
  have hne := owns_apart h hT ho
  have hlt := h.lt
  unfold BoAt at *
  rw [hg.block g hlt (fun e => hne e.symm)]; exact h
theorem below_grown {w0 w w' : World} {B T n size : Nat} {v : Value} {xs : List Value} (h : Below B w0 w) (ho : w.ownsRow B T size v n xs) (hg : w.grownBy w' v.ownBlock) (hB : B ≤ w.heap.size) : Below B w0 w' :=
  h.grown hg hB (fun g e => (owns_ge ho e).1)
theorem reads_if {w w' : World} {a : Option Addr} {l : List Int} (h : Reads w a (ints l)) (hk : l = [] ∨ Reads w a (ints l) → Reads w' a (ints l)) : Reads w' a (ints l) := hk (.inr h)
theorem reads_nil {w : World} {a : Option Addr} {l : List Int} (h : l = []) : Reads w a (ints l) := by subst h; exact .inl rfl
theorem reads_grown {w w' : World} {a : Option Addr} {cs : List Value} (h : Reads w a cs) {row : Option Nat} (hg : w.grownBy w' row) (hne : ∀ b off, a = some ⟨b, off, none⟩ → some b ≠ row) : Reads w' a cs := by
  rcases h with h | ⟨b, off, rfl, hlt, hc⟩
  · exact .inl h
  · exact .inr ⟨b, off, rfl, Nat.lt_of_lt_of_le hlt hg.size, fun j hj => by rw [← hc j hj]; exact World.cell?_of_block (w := w) (hg.block b hlt (fun e => hne b off rfl e))⟩

set_option maxHeartbeats 6400000 in
set_option maxRecDepth 100000 in
theorem boSplit_any (F : Nat) (h1 : 1 ≤ F) (h2 : F ≤ 10) (rolls : List Int) (sf : St) (hg : gameG F ([], []) rolls = some sf) (a : Option Addr) (c : Nat) (w : World) (hl : (rolls.length : Int) ≤ 1000000000000) (h : Reads w a (ints rolls)) :
    Calls Try.prog 62 #[.int .i64 F, .slice a rolls.length c] w fun e w' => ∃ v, e = .returned v ∧ SplitD w' w.heap.size v (begunG sf) ∧ Below w.heap.size w w' := by
  have HR := Lib.hid h; clear h
  obtain ⟨i0, hi0, hz0, hz1, hz2⟩ := info_parts infoInt
  have HI := Lib.hid (And.intro hi0 (And.intro hz0 (And.intro hz1 hz2))); clear hi0 hz0 hz1 hz2
  obtain ⟨i1, hi0, hz0, hz1, hz2⟩ := info_parts infoSlice
  have HJ := Lib.hid (And.intro hi0 (And.intro hz0 (And.intro hz1 hz2))); clear hi0 hz0 hz1 hz2
  go_enter Try.func62, Try.ntmps62
  go_wp2_with fail
  refine (boStart_any _).mono ?_; rintro e w1 ⟨rfl, b1⟩
  have hz1 : w.heap.size ≤ w1.heap.size := b1.size
  have hp0 : SplA F rolls sf w w1.heap.size 0 (.slice none 0 0) (w1.alloc (.cells #[.int .i64 0, .slice none 0 0, .int .i64 10, .bool false] 67)) := by
    obtain ⟨e1, e2, e3, e4⟩ := start_place F h1
    refine ⟨([], []), none, 0, none, inv_start h1, by simpa using hg, ?_, ?_, (fun b off e => by cases e), (fun _ => ⟨[], ⟨rfl, .inl ⟨rfl, rfl⟩⟩, rfl, fun j hj => by simp at hj⟩), (fun hh => absurd rfl hh), b1.alloc hz1 _⟩
    · rw [e1, e2, e3, e4]; exact BoAt.new w1 _ _ _ _
    · rw [e2]; exact .inl rfl
  have HP0 := Lib.hid hp0; clear hp0
  have HG := Lib.hid hg; clear hg b1
  go_wp2_with fail
  generalize w1.alloc (.cells #[.int .i64 0, .slice none 0 0, .int .i64 10, .bool false] 67) = X at *
  generalize hg6 : w1.heap.size = g6 at *
  clear hg6
  have HG6 := Lib.hid hz1; clear hz1
  go_loopw [5, 12] (fun v i wr => ∃ k : Nat, i = .int .i64 k ∧ k ≤ rolls.length ∧ Hid (SplA F rolls sf w g6 k v wr)) (fun _ i _ => rolls.length - (intOf i).toNat)
  case atStart => exact ⟨0, rfl, Nat.zero_le _, HP0⟩
  case round =>
    clear HP0 HG
    obtain ⟨k, rfl, hk, hA⟩ := hrel
    obtain ⟨s, a2, c2, lb, hi, hgm, hat, hrd, hne, hsd, hsw, hbel⟩ := hA.out
    clear hA
    by_cases hlt : k < rolls.length
    · have hkl : (k : Int) < (rolls.length : Int) := by omega
      obtain ⟨b, off, ha, hcell⟩ := ints_cell (HR.out.old hbel) hlt
      subst ha
      have hdr : rolls.drop k = rolls.getD k 0 :: rolls.drop (k + 1) := by rw [List.drop_eq_getElem_cons hlt]; simp [hlt]
      rw [hdr, gameG] at hgm
      clear hdr
      generalize hp : rolls.getD k 0 = p at *
      clear hp
      cases hf : fitsG F s p
      · rw [hf] at hgm
        simp at hgm
      · rw [hf] at hgm
        simp only [if_true] at hgm
        have HGM := Lib.hid hgm; clear hgm
        obtain ⟨ho, hp0, hp1⟩ := fits_parts hf
        have e1 : frA F s = s.1.length := by simp [frA, ho]
        have e2 : bsA F s = s.2 := by simp [bsA, ho]
        have e3 : stA F s = leftP s.2 := by simp [stA, e2]
        rw [e1, e2, e3, ho] at hat
        rw [e2] at hrd
        clear e1 e2 e3
        have hl3 := (small_open (inv_open hi ho)).1
        have hdF := over_false hi ho
        have hroll := fun w' (hr : Reads w' a2 (ints s.2)) => roll_any F h1 h2 s p hi hf a2 c2 w' hr
        have HRO := Lib.hid (And.intro hroll (inv_step hi hf)); clear hroll
        have hst : stepG F s p = (s.1 ++ [s.2 ++ [p]], []) ∨ stepG F s p = (s.1, s.2 ++ [p]) := by unfold stepG; split <;> simp
        have HST := Lib.hid hst; clear hst hi hf ho
        obtain ⟨g0, g1, g2, g3⟩ := hat.cells
        by_cases hz : s.2 = []
        · have hln : s.2.length = 0 := by rw [hz]; rfl
          have hnil : ((s.2.length : Int) == 0) = true := by rw [hln]; rfl
          obtain ⟨vs, o1, o2⟩ := hsd hz
          have O := Lib.hid (And.intro o1 o2); clear o1 o2 hsd hsw
          have HAT := Lib.hid (And.intro hat (And.intro hrd hbel)); clear hat hrd
          have hzs := hbel.size
          clear hbel
          have HZ := Lib.hid (And.intro hz hln); clear hz hln
          have HNE := Lib.hid hne; clear hne
          go_wp2_with (at_builtin; refine wpList_append_own_at _ rfl _ _ 28 rfl w.heap.size 22 i1 (.slice none 0 0) 1 24 Try.underlying28 HJ.out.1 HJ.out.2.1 HJ.out.2.2.1 HJ.out.2.2.2 rfl (by decide) _ _ _ rfl (O.out.1.alloc _) ⟨wr.heap.size, 0, none⟩ 1 1 [.slice none 0 0] rfl rfl (cell_one_new _ _ _) ?_ ?_ ?_ ?_ ?_)
          · intro u hu; simp at hu; subst hu; rfl
          · unfold maxLen; omega
          · omega
          · simp; omega
          intro v6 w3 hown3 hgrow _ _
          have bd := below_new wr (.cells #[.slice none 0 0] 22)
          have hx : SplX w g6 s a2 c2 none v6 w3 := by
            refine ⟨(HAT.out.1.keep bd).grown (by decide) (O.out.1.alloc _) hgrow, reads_nil HZ.out.1, ?_, .inl HZ.out.1, below_grown (HAT.out.2.2.trans (bd.mono HAT.out.2.2.size)) (O.out.1.alloc _) hgrow (by simp; omega)⟩
            have hh := SplitD.opened (w := wr.alloc (.cells #[.slice none 0 0] 22)) (O.out.1.alloc _) (O.out.2.keep bd) hown3 hgrow
            rw [HZ.out.1]; exact hh
          clear hown3 hgrow bd g0 g1 g2 g3 hnil O HAT HNE
          rw [show s.2.length = s.2.length from rfl]
          go_wp2_with fail
          generalize w3 = W at *
          have HL3 := Lib.hid hl3; clear hl3
          have hx := hx.drew
          have HX := Lib.hid hx; clear hx
          obtain ⟨vs, lv, hlb, o1, o2, o3⟩ := HX.out.2.2.1
          obtain ⟨_, go, cap, hv, hgoB, _, hmx, _, _, _⟩ := owns_last o1
          subst hv
          have hgog : go ≠ g6 := fun e => owns_apart HX.out.1 (by decide) o1 (by simp [Value.ownBlock, e])
          have cl : W.drew.cell? ⟨go, s.1.length, none⟩ = some lv := (owns_last_at o1).1
          have hx0 : W.drew.cell? ⟨g6, 0, none⟩ = some (.int .i64 (s.1.length : Int)) := HX.out.1.cells.1
          have O := Lib.hid (And.intro o1 (And.intro o2 o3)); clear o1 o2 o3
          have HLB := Lib.hid hlb; clear hlb
          have HMX := Lib.hid hmx; clear hmx
          refine wp_region_held_drew (S := fun w' => w'.cell? ⟨g6, 0, none⟩ = some (.int .i64 (s.1.length : Int))) (by kernel_rfl) (hx0) (fun hHeld => ?_)
          clear hx0
          have hb1 : ((s.1.length : Int) < (s.1.length : Int) + 1) = True := eq_true (by omega)
          (refine wpAnyH_take (i := 0) (v := ?_) rfl (by kernel_rfl) (by kernel_rfl) (by kernel_rfl) (fun _ _ _ h => h) (Or.inl ⟨by kernel_rfl, ?_⟩) (by assumption) ?_; rotate_left; focus (intro w hSw; (try dsimp only at hSw); go_simp; try with_reducible rfl); (try simp only [List.getElem_toArray, List.getElem_cons_succ, List.getElem_cons_zero, Act.put, List.setIfInBounds_toArray, List.set_cons_zero, List.set_cons_succ])); (refine wpAnyH_take (i := 1) (v := ?_) rfl (by kernel_rfl) (by kernel_rfl) (by kernel_rfl) (fun _ _ _ h => h) (Or.inl ⟨by kernel_rfl, ?_⟩) (by assumption) ?_; rotate_left; focus (intro w hSw; (try dsimp only at hSw); go_simp; try with_reducible rfl); (try simp only [List.getElem_toArray, List.getElem_cons_succ, List.getElem_cons_zero, Act.put, List.setIfInBounds_toArray, List.set_cons_zero, List.set_cons_succ])); (refine wpAnyH_take (i := 2) (v := ?_) rfl (by kernel_rfl) (by kernel_rfl) (by kernel_rfl) (fun _ _ _ h => h) (Or.inl ⟨by kernel_rfl, ?_⟩) (by assumption) ?_; rotate_left; focus (intro w hSw; (try dsimp only at hSw); go_simp; try with_reducible rfl); (try simp only [List.getElem_toArray, List.getElem_cons_succ, List.getElem_cons_zero, Act.put, List.setIfInBounds_toArray, List.set_cons_zero, List.set_cons_succ])); (refine wpAnyH_take (i := 3) (v := ?_) rfl (by kernel_rfl) (by kernel_rfl) (by kernel_rfl) (fun _ _ _ h => h) (Or.inl ⟨by kernel_rfl, ?_⟩) (by assumption) ?_; rotate_left; focus (intro w hSw; (try dsimp only at hSw); go_simp; try with_reducible rfl); (try simp only [List.getElem_toArray, List.getElem_cons_succ, List.getElem_cons_zero, Act.put, List.setIfInBounds_toArray, List.set_cons_zero, List.set_cons_succ])); (refine wpAnyH_take (i := 4) (v := ?_) rfl (by kernel_rfl) (by kernel_rfl) (by kernel_rfl) (fun _ _ _ h => h) (Or.inl ⟨by kernel_rfl, ?_⟩) (by assumption) ?_; rotate_left; focus (intro w hSw; (try dsimp only at hSw); go_simp; try with_reducible rfl); (try simp only [List.getElem_toArray, List.getElem_cons_succ, List.getElem_cons_zero, Act.put, List.setIfInBounds_toArray, List.set_cons_zero, List.set_cons_succ])); (refine wpAnyH_take (i := 5) (v := ?_) rfl (by kernel_rfl) (by kernel_rfl) (by kernel_rfl) (fun _ _ _ h => h) (Or.inl ⟨by kernel_rfl, ?_⟩) (by assumption) ?_; rotate_left; focus (intro w hSw; (try dsimp only at hSw); go_simp; try with_reducible rfl); (try simp only [List.getElem_toArray, List.getElem_cons_succ, List.getElem_cons_zero, Act.put, List.setIfInBounds_toArray, List.set_cons_zero, List.set_cons_succ])); (refine wpAnyH_take (i := 6) (v := ?_) rfl (by kernel_rfl) (by kernel_rfl) (by kernel_rfl) (fun _ _ _ h => h) (Or.inl ⟨by kernel_rfl, ?_⟩) (by assumption) ?_; rotate_left; focus (intro w hSw; (try dsimp only at hSw); go_simp; try with_reducible rfl); (try simp only [List.getElem_toArray, List.getElem_cons_succ, List.getElem_cons_zero, Act.put, List.setIfInBounds_toArray, List.set_cons_zero, List.set_cons_succ])); (refine wpAnyH_take (i := 8) (v := ?_) rfl (by kernel_rfl) (by kernel_rfl) (by kernel_rfl) (fun _ _ _ h => h) (Or.inl ⟨by kernel_rfl, ?_⟩) (by assumption) ?_; rotate_left; focus (intro w hSw; (try dsimp only at hSw); go_simp; try with_reducible rfl); (try simp only [List.getElem_toArray, List.getElem_cons_succ, List.getElem_cons_zero, Act.put, List.setIfInBounds_toArray, List.set_cons_zero, List.set_cons_succ]))
          clear hb1
          generalize W.drew = W0 at *
          refine wpAnyH_ready (rs := [7, 9]) (by kernel_rfl) (by simp) (AllReadyH.cons rfl (fun K hK => ?_) (AllReadyH.cons rfl (fun K hK => ?_) AllReadyH.nil))
          · go_simp
            clear cl
            refine hK.out _ _ hHeld (fun hHeld => ?_)
            clear hK K
            (try simp only [List.getElem_toArray, List.getElem_cons_succ, List.getElem_cons_zero, Act.put, List.setIfInBounds_toArray, List.set_cons_zero, List.set_cons_succ])
            refine wpAnyH_ready (rs := [9]) (by kernel_rfl) (by simp) ?_; refine AllReadyH.cons rfl (fun K hK => ?_) AllReadyH.nil
            go_simp
            have bd := below_new W0 (.cells #[.int .i64 p] 3)
            have O9 := Lib.hid (And.intro (owns_below (w := W0) O.out.1 bd) (And.intro (owns_below (w := W0) O.out.2.1 bd) (DoneR.keep (w := W0) O.out.2.2 bd)))
            have HX9 := Lib.hid (And.intro (BoAt.keep (w := W0) HX.out.1 bd) (And.intro (Reads.old (w := W0) HX.out.2.1 bd) (HX.out.2.2.2.2.trans (bd.mono HX.out.2.2.2.2.size))))
            have K6 := Lib.hid (OneAt.new W0 p)
            clear bd hHeld
            generalize W0.alloc (.cells #[.int .i64 p] 3) = w9 at *
            refine hK.out _ _ HX9.out.1.cells.1 (fun hHeld => ?_)
            clear hK K
            (try simp only [List.getElem_toArray, List.getElem_cons_succ, List.getElem_cons_zero, Act.put, List.setIfInBounds_toArray, List.set_cons_zero, List.set_cons_succ])
            refine wpAnyH_ready (rs := [10]) (by kernel_rfl) (by simp) ?_; refine AllReadyH.cons rfl (fun K hK => ?_) AllReadyH.nil
            (try simp only [List.getElem_toArray, List.getElem_cons_succ, List.getElem_cons_zero, Act.put, List.setIfInBounds_toArray, List.set_cons_zero, List.set_cons_succ])
            rw [if_pos (by kernel_rfl)]
            refine wp_append_at (.tmp 30) (.tmp 32) 22 ?_ w.heap.size 3 i0 (.int .i64 0) 1 8 Try.underlying22 HI.out.1 HI.out.2.1 HI.out.2.2.1 HI.out.2.2.2 rfl (by decide) lv s.2.length (ints s.2) ?_ O9.out.2.1 _ 1 1 [.int .i64 p] ?_ (by simp) K6.out.news ?_ ?_ ?_ HX9.out.2.2.size ?_
            · rfl
            · rfl
            · rfl
            · intro u hu; simp at hu; subst hu; rfl
            · have := HL3.out; unfold maxLen; omega
            · have := HL3.out; omega
            intro v7 w7 hown hgrow hblk
            obtain ⟨a7, c7, rfl, -⟩ := Reads.own hown
            rw [show ints s.2 ++ [Value.int .i64 p] = ints (s.2 ++ [p]) from by simp [ints]] at hown
            obtain ⟨o1, o3⟩ := rows_grown O9.out.1 O9.out.2.1 O9.out.2.2 hgrow hblk
            have hat7 := HX9.out.1.grown (by decide) O9.out.2.1 hgrow
            have hbl7 := below_grown HX9.out.2.2 O9.out.2.1 hgrow HX9.out.2.2.size
            have hrd7 : Reads w7 a2 (ints s.2) := by
              rcases HX.out.2.2.2.1 with hh | hh
              · exact reads_nil hh
              · exact reads_grown HX9.out.2.1 hgrow (fun b off e => by rw [HLB.out]; exact (hh b off e).2.1)
            have H7 := Lib.hid (And.intro o1 (And.intro hown (And.intro o3 (And.intro hat7 (And.intro hbl7 hrd7)))))
            clear o1 hown o3 hat7 hbl7 hrd7 hgrow hblk hHeld K6 O9 HX9
            refine hK.out _ _ H7.out.2.2.2.1.cells.1 (fun hHeld => ?_)
            clear hK K
            (try simp only [List.getElem_toArray, List.getElem_cons_succ, List.getElem_cons_zero, Act.put, List.setIfInBounds_toArray, List.set_cons_zero, List.set_cons_succ])
            obtain ⟨cl7, fl7, hset7⟩ := owns_last_at H7.out.1
            have hsp8 := SplitW.grown (D := s.1) (p := p) (lv' := .slice a7 (s.2.length + 1) c7) H7.out.1 hset7 rfl H7.out.2.1 H7.out.2.2.1
            have hat8 := H7.out.2.2.2.1.other (o := s.1.length) (fun e => hgog e.symm) (.slice a7 (s.2.length + 1) c7)
            have hbl8 := H7.out.2.2.2.2.1.setCell (p := ⟨go, s.1.length, none⟩) hgoB (.slice a7 (s.2.length + 1) c7)
            have hrd8 : Reads (w7.setCell ⟨go, s.1.length, none⟩ (.slice a7 (s.2.length + 1) c7)) a2 (ints s.2) := by
              rcases HX.out.2.2.2.1 with hh | hh
              · exact reads_nil hh
              · exact reads_other H7.out.2.2.2.2.2 (fun b off e => (fun eb => (hh b off e).2.2 (by simp [Value.ownBlock, eb]))) (fun k hk => Below.heap_setCell _ _ _ _ hk) (by simp)
            have H8 := Lib.hid (And.intro hsp8 (And.intro hat8 (And.intro hbl8 hrd8)))
            clear hset7 hsp8 hat8 hbl8 hrd8
            have hb1 : ((s.1.length : Int) < (s.1.length : Int) + 1) = True := eq_true (by omega)
            (refine wpAnyH_take (i := 11) (v := ?_) rfl (by kernel_rfl) (by kernel_rfl) (by kernel_rfl) (fun _ _ _ h => h) (Or.inl ⟨by kernel_rfl, ?_⟩) (by assumption) ?_; rotate_left; focus (intro w hSw; (try dsimp only at hSw); go_simp; try with_reducible rfl); (try simp only [List.getElem_toArray, List.getElem_cons_succ, List.getElem_cons_zero, Act.put, List.setIfInBounds_toArray, List.set_cons_zero, List.set_cons_succ]))
            clear hb1
            refine wpAnyH_ready (rs := [12]) (by kernel_rfl) (by simp) ?_; refine AllReadyH.cons rfl (fun K hK => ?_) AllReadyH.nil
            go_simp
            clear cl7 fl7 H7 hHeld
            refine hK.out _ _ H8.out.2.1.cells.1 (fun hHeld => ?_)
            clear hK K hHeld
            (try simp only [List.getElem_toArray, List.getElem_cons_succ, List.getElem_cons_zero, Act.put, List.setIfInBounds_toArray, List.set_cons_zero, List.set_cons_succ])
            refine wpAnyH_done (by kernel_rfl) ?_ _
            generalize w7.setCell ⟨go, s.1.length, none⟩ (.slice a7 (s.2.length + 1) c7) = w8 at *
            obtain ⟨g0, g1, g2, g3⟩ := H8.out.2.1.cells
            go_wp2_with fail
            refine (HRO.out.1 _ H8.out.2.2.2).mono ?_; rintro e w10 ⟨a3, c3, rfl, hr3, hf3, b10⟩
            have hat10 := H8.out.2.1.keep b10
            have hsp10 := H8.out.1.keep b10
            have hbl10 := H8.out.2.2.1.trans (b10.mono H8.out.2.2.1.size)
            have hlt := H8.out.1.lt
            have hg6lt := H8.out.2.1.lt
            have hst := hat10.stored (frA F (stepG F s p) : Int) (.slice a3 (bsA F (stepG F s p)).length c3) (stA F (stepG F s p)) (overG F (stepG F s p))
            have hrst := reads_other hr3 (fun b off e => (by have := hf3 b off e; omega : b ≠ g6)) (heap_four w10 g6 (.int .i64 (frA F (stepG F s p) : Int)) (.slice a3 (bsA F (stepG F s p)).length c3) (.int .i64 (stA F (stepG F s p))) (.bool (overG F (stepG F s p)))) (by simp)
            have hspo := hsp10.other hat10 (by decide) (by decide) (heap_four w10 g6 (.int .i64 (frA F (stepG F s p) : Int)) (.slice a3 (bsA F (stepG F s p)).length c3) (.int .i64 (stA F (stepG F s p))) (.bool (overG F (stepG F s p))))
            have hbst := below_four hbl10 HG6.out (.int .i64 (frA F (stepG F s p) : Int)) (.slice a3 (bsA F (stepG F s p)).length c3) (.int .i64 (stA F (stepG F s p))) (.bool (overG F (stepG F s p)))
            have hnew : ∀ b off, a3 = some (⟨b, off, none⟩ : Addr) → b ≠ g6 ∧ some b ≠ (Value.slice a7 (s.2.length + 1) c7).ownBlock ∧ some b ≠ (Value.slice (some ⟨go, 0, none⟩) (s.1.length + 1) cap).ownBlock := fun b off e => by
              have h1 := hf3 b off e
              refine ⟨by omega, fun e2 => ?_, fun e2 => ?_⟩
              · have := hlt.1 b e2.symm; omega
              · have := hlt.2 b e2.symm; omega
            have HEND := Lib.hid (SplA.mk HRO.out.2 HGM.out hst hrst hnew (split_step HST.out hspo) hbst)
            clear g0 g1 g2 g3
            obtain ⟨g0, g1, g2, g3⟩ := hat10.cells
            have q0 := hat10.free 0
            have q1 := hat10.free 1
            have q2 := hat10.free 2
            have q3 := hat10.free 3
            clear hst hrst hspo hbst hnew hat10 hsp10 hbl10 hlt hg6lt hr3 hf3 b10 HX O HLB HMX
            generalize (frA F (stepG F s p) : Int) = fr at *
            generalize stA F (stepG F s p) = st' at *
            generalize overG F (stepG F s p) = ov' at *
            generalize (bsA F (stepG F s p)).length = n' at *
            go_wp2_with fail
            go_roundw
            case rel => exact ⟨k + 1, by go_num, by omega, HEND⟩
            case measure => simp [intOf]; omega
          · go_simp
            have bd := below_new W0 (.cells #[.int .i64 p] 3)
            have O9 := Lib.hid (And.intro (owns_below (w := W0) O.out.1 bd) (And.intro (owns_below (w := W0) O.out.2.1 bd) (DoneR.keep (w := W0) O.out.2.2 bd)))
            have HX9 := Lib.hid (And.intro (BoAt.keep (w := W0) HX.out.1 bd) (And.intro (Reads.old (w := W0) HX.out.2.1 bd) (HX.out.2.2.2.2.trans (bd.mono HX.out.2.2.2.2.size))))
            have K6 := Lib.hid (OneAt.new W0 p)
            clear bd hHeld
            generalize W0.alloc (.cells #[.int .i64 p] 3) = w9 at *
            refine hK.out _ _ HX9.out.1.cells.1 (fun hHeld => ?_)
            clear hK K
            (try simp only [List.getElem_toArray, List.getElem_cons_succ, List.getElem_cons_zero, Act.put, List.setIfInBounds_toArray, List.set_cons_zero, List.set_cons_succ])
            have cl9 : w9.cell? ⟨go, s.1.length, none⟩ = some lv := (owns_last_at O9.out.1).1
            clear cl
            refine wpAnyH_ready (rs := [7]) (by kernel_rfl) (by simp) ?_; refine AllReadyH.cons rfl (fun K hK => ?_) AllReadyH.nil
            go_simp
            clear cl9
            refine hK.out _ _ hHeld (fun hHeld => ?_)
            clear hK K
            (try simp only [List.getElem_toArray, List.getElem_cons_succ, List.getElem_cons_zero, Act.put, List.setIfInBounds_toArray, List.set_cons_zero, List.set_cons_succ])
            refine wpAnyH_ready (rs := [10]) (by kernel_rfl) (by simp) ?_; refine AllReadyH.cons rfl (fun K hK => ?_) AllReadyH.nil
            (try simp only [List.getElem_toArray, List.getElem_cons_succ, List.getElem_cons_zero, Act.put, List.setIfInBounds_toArray, List.set_cons_zero, List.set_cons_succ])
            rw [if_pos (by kernel_rfl)]
            refine wp_append_at (.tmp 30) (.tmp 32) 22 ?_ w.heap.size 3 i0 (.int .i64 0) 1 8 Try.underlying22 HI.out.1 HI.out.2.1 HI.out.2.2.1 HI.out.2.2.2 rfl (by decide) lv s.2.length (ints s.2) ?_ O9.out.2.1 _ 1 1 [.int .i64 p] ?_ (by simp) K6.out.news ?_ ?_ ?_ HX9.out.2.2.size ?_
            · rfl
            · rfl
            · rfl
            · intro u hu; simp at hu; subst hu; rfl
            · have := HL3.out; unfold maxLen; omega
            · have := HL3.out; omega
            intro v7 w7 hown hgrow hblk
            obtain ⟨a7, c7, rfl, -⟩ := Reads.own hown
            rw [show ints s.2 ++ [Value.int .i64 p] = ints (s.2 ++ [p]) from by simp [ints]] at hown
            obtain ⟨o1, o3⟩ := rows_grown O9.out.1 O9.out.2.1 O9.out.2.2 hgrow hblk
            have hat7 := HX9.out.1.grown (by decide) O9.out.2.1 hgrow
            have hbl7 := below_grown HX9.out.2.2 O9.out.2.1 hgrow HX9.out.2.2.size
            have hrd7 : Reads w7 a2 (ints s.2) := by
              rcases HX.out.2.2.2.1 with hh | hh
              · exact reads_nil hh
              · exact reads_grown HX9.out.2.1 hgrow (fun b off e => by rw [HLB.out]; exact (hh b off e).2.1)
            have H7 := Lib.hid (And.intro o1 (And.intro hown (And.intro o3 (And.intro hat7 (And.intro hbl7 hrd7)))))
            clear o1 hown o3 hat7 hbl7 hrd7 hgrow hblk hHeld K6 O9 HX9
            refine hK.out _ _ H7.out.2.2.2.1.cells.1 (fun hHeld => ?_)
            clear hK K
            (try simp only [List.getElem_toArray, List.getElem_cons_succ, List.getElem_cons_zero, Act.put, List.setIfInBounds_toArray, List.set_cons_zero, List.set_cons_succ])
            obtain ⟨cl7, fl7, hset7⟩ := owns_last_at H7.out.1
            have hsp8 := SplitW.grown (D := s.1) (p := p) (lv' := .slice a7 (s.2.length + 1) c7) H7.out.1 hset7 rfl H7.out.2.1 H7.out.2.2.1
            have hat8 := H7.out.2.2.2.1.other (o := s.1.length) (fun e => hgog e.symm) (.slice a7 (s.2.length + 1) c7)
            have hbl8 := H7.out.2.2.2.2.1.setCell (p := ⟨go, s.1.length, none⟩) hgoB (.slice a7 (s.2.length + 1) c7)
            have hrd8 : Reads (w7.setCell ⟨go, s.1.length, none⟩ (.slice a7 (s.2.length + 1) c7)) a2 (ints s.2) := by
              rcases HX.out.2.2.2.1 with hh | hh
              · exact reads_nil hh
              · exact reads_other H7.out.2.2.2.2.2 (fun b off e => (fun eb => (hh b off e).2.2 (by simp [Value.ownBlock, eb]))) (fun k hk => Below.heap_setCell _ _ _ _ hk) (by simp)
            have H8 := Lib.hid (And.intro hsp8 (And.intro hat8 (And.intro hbl8 hrd8)))
            clear hset7 hsp8 hat8 hbl8 hrd8
            have hb1 : ((s.1.length : Int) < (s.1.length : Int) + 1) = True := eq_true (by omega)
            (refine wpAnyH_take (i := 11) (v := ?_) rfl (by kernel_rfl) (by kernel_rfl) (by kernel_rfl) (fun _ _ _ h => h) (Or.inl ⟨by kernel_rfl, ?_⟩) (by assumption) ?_; rotate_left; focus (intro w hSw; (try dsimp only at hSw); go_simp; try with_reducible rfl); (try simp only [List.getElem_toArray, List.getElem_cons_succ, List.getElem_cons_zero, Act.put, List.setIfInBounds_toArray, List.set_cons_zero, List.set_cons_succ]))
            clear hb1
            refine wpAnyH_ready (rs := [12]) (by kernel_rfl) (by simp) ?_; refine AllReadyH.cons rfl (fun K hK => ?_) AllReadyH.nil
            go_simp
            clear cl7 fl7 H7 hHeld
            refine hK.out _ _ H8.out.2.1.cells.1 (fun hHeld => ?_)
            clear hK K hHeld
            (try simp only [List.getElem_toArray, List.getElem_cons_succ, List.getElem_cons_zero, Act.put, List.setIfInBounds_toArray, List.set_cons_zero, List.set_cons_succ])
            refine wpAnyH_done (by kernel_rfl) ?_ _
            generalize w7.setCell ⟨go, s.1.length, none⟩ (.slice a7 (s.2.length + 1) c7) = w8 at *
            obtain ⟨g0, g1, g2, g3⟩ := H8.out.2.1.cells
            go_wp2_with fail
            refine (HRO.out.1 _ H8.out.2.2.2).mono ?_; rintro e w10 ⟨a3, c3, rfl, hr3, hf3, b10⟩
            have hat10 := H8.out.2.1.keep b10
            have hsp10 := H8.out.1.keep b10
            have hbl10 := H8.out.2.2.1.trans (b10.mono H8.out.2.2.1.size)
            have hlt := H8.out.1.lt
            have hg6lt := H8.out.2.1.lt
            have hst := hat10.stored (frA F (stepG F s p) : Int) (.slice a3 (bsA F (stepG F s p)).length c3) (stA F (stepG F s p)) (overG F (stepG F s p))
            have hrst := reads_other hr3 (fun b off e => (by have := hf3 b off e; omega : b ≠ g6)) (heap_four w10 g6 (.int .i64 (frA F (stepG F s p) : Int)) (.slice a3 (bsA F (stepG F s p)).length c3) (.int .i64 (stA F (stepG F s p))) (.bool (overG F (stepG F s p)))) (by simp)
            have hspo := hsp10.other hat10 (by decide) (by decide) (heap_four w10 g6 (.int .i64 (frA F (stepG F s p) : Int)) (.slice a3 (bsA F (stepG F s p)).length c3) (.int .i64 (stA F (stepG F s p))) (.bool (overG F (stepG F s p))))
            have hbst := below_four hbl10 HG6.out (.int .i64 (frA F (stepG F s p) : Int)) (.slice a3 (bsA F (stepG F s p)).length c3) (.int .i64 (stA F (stepG F s p))) (.bool (overG F (stepG F s p)))
            have hnew : ∀ b off, a3 = some (⟨b, off, none⟩ : Addr) → b ≠ g6 ∧ some b ≠ (Value.slice a7 (s.2.length + 1) c7).ownBlock ∧ some b ≠ (Value.slice (some ⟨go, 0, none⟩) (s.1.length + 1) cap).ownBlock := fun b off e => by
              have h1 := hf3 b off e
              refine ⟨by omega, fun e2 => ?_, fun e2 => ?_⟩
              · have := hlt.1 b e2.symm; omega
              · have := hlt.2 b e2.symm; omega
            have HEND := Lib.hid (SplA.mk HRO.out.2 HGM.out hst hrst hnew (split_step HST.out hspo) hbst)
            clear g0 g1 g2 g3
            obtain ⟨g0, g1, g2, g3⟩ := hat10.cells
            have q0 := hat10.free 0
            have q1 := hat10.free 1
            have q2 := hat10.free 2
            have q3 := hat10.free 3
            clear hst hrst hspo hbst hnew hat10 hsp10 hbl10 hlt hg6lt hr3 hf3 b10 HX O HLB HMX
            generalize (frA F (stepG F s p) : Int) = fr at *
            generalize stA F (stepG F s p) = st' at *
            generalize overG F (stepG F s p) = ov' at *
            generalize (bsA F (stepG F s p)).length = n' at *
            go_wp2_with fail
            go_roundw
            case rel => exact ⟨k + 1, by go_num, by omega, HEND⟩
            case measure => simp [intOf]; omega
        · have hln : ¬ ((s.2.length : Int) == 0) = true := by simp; exact hz
          have hnil : ((s.2.length : Int) == 0) = false := by simpa using hln
          have hx : SplX w g6 s a2 c2 lb u5 wr := ⟨hat, hrd, hsw hz, .inr hne, hbel⟩
          clear hat hrd hsd hsw hbel hne hln
          have HX0 := Lib.hid hx; clear hx
          go_wp2_with fail
          have hx := HX0.out; clear HX0 g0 g1 g2 g3 hnil
          generalize wr = W at *
          have HL3 := Lib.hid hl3; clear hl3
          have hx := hx.drew
          have HX := Lib.hid hx; clear hx
          obtain ⟨vs, lv, hlb, o1, o2, o3⟩ := HX.out.2.2.1
          obtain ⟨_, go, cap, hv, hgoB, _, hmx, _, _, _⟩ := owns_last o1
          subst hv
          have hgog : go ≠ g6 := fun e => owns_apart HX.out.1 (by decide) o1 (by simp [Value.ownBlock, e])
          have cl : W.drew.cell? ⟨go, s.1.length, none⟩ = some lv := (owns_last_at o1).1
          have hx0 : W.drew.cell? ⟨g6, 0, none⟩ = some (.int .i64 (s.1.length : Int)) := HX.out.1.cells.1
          have O := Lib.hid (And.intro o1 (And.intro o2 o3)); clear o1 o2 o3
          have HLB := Lib.hid hlb; clear hlb
          have HMX := Lib.hid hmx; clear hmx
          refine wp_region_held_drew (S := fun w' => w'.cell? ⟨g6, 0, none⟩ = some (.int .i64 (s.1.length : Int))) (by kernel_rfl) (hx0) (fun hHeld => ?_)
          clear hx0
          have hb1 : ((s.1.length : Int) < (s.1.length : Int) + 1) = True := eq_true (by omega)
          (refine wpAnyH_take (i := 0) (v := ?_) rfl (by kernel_rfl) (by kernel_rfl) (by kernel_rfl) (fun _ _ _ h => h) (Or.inl ⟨by kernel_rfl, ?_⟩) (by assumption) ?_; rotate_left; focus (intro w hSw; (try dsimp only at hSw); go_simp; try with_reducible rfl); (try simp only [List.getElem_toArray, List.getElem_cons_succ, List.getElem_cons_zero, Act.put, List.setIfInBounds_toArray, List.set_cons_zero, List.set_cons_succ])); (refine wpAnyH_take (i := 1) (v := ?_) rfl (by kernel_rfl) (by kernel_rfl) (by kernel_rfl) (fun _ _ _ h => h) (Or.inl ⟨by kernel_rfl, ?_⟩) (by assumption) ?_; rotate_left; focus (intro w hSw; (try dsimp only at hSw); go_simp; try with_reducible rfl); (try simp only [List.getElem_toArray, List.getElem_cons_succ, List.getElem_cons_zero, Act.put, List.setIfInBounds_toArray, List.set_cons_zero, List.set_cons_succ])); (refine wpAnyH_take (i := 2) (v := ?_) rfl (by kernel_rfl) (by kernel_rfl) (by kernel_rfl) (fun _ _ _ h => h) (Or.inl ⟨by kernel_rfl, ?_⟩) (by assumption) ?_; rotate_left; focus (intro w hSw; (try dsimp only at hSw); go_simp; try with_reducible rfl); (try simp only [List.getElem_toArray, List.getElem_cons_succ, List.getElem_cons_zero, Act.put, List.setIfInBounds_toArray, List.set_cons_zero, List.set_cons_succ])); (refine wpAnyH_take (i := 3) (v := ?_) rfl (by kernel_rfl) (by kernel_rfl) (by kernel_rfl) (fun _ _ _ h => h) (Or.inl ⟨by kernel_rfl, ?_⟩) (by assumption) ?_; rotate_left; focus (intro w hSw; (try dsimp only at hSw); go_simp; try with_reducible rfl); (try simp only [List.getElem_toArray, List.getElem_cons_succ, List.getElem_cons_zero, Act.put, List.setIfInBounds_toArray, List.set_cons_zero, List.set_cons_succ])); (refine wpAnyH_take (i := 4) (v := ?_) rfl (by kernel_rfl) (by kernel_rfl) (by kernel_rfl) (fun _ _ _ h => h) (Or.inl ⟨by kernel_rfl, ?_⟩) (by assumption) ?_; rotate_left; focus (intro w hSw; (try dsimp only at hSw); go_simp; try with_reducible rfl); (try simp only [List.getElem_toArray, List.getElem_cons_succ, List.getElem_cons_zero, Act.put, List.setIfInBounds_toArray, List.set_cons_zero, List.set_cons_succ])); (refine wpAnyH_take (i := 5) (v := ?_) rfl (by kernel_rfl) (by kernel_rfl) (by kernel_rfl) (fun _ _ _ h => h) (Or.inl ⟨by kernel_rfl, ?_⟩) (by assumption) ?_; rotate_left; focus (intro w hSw; (try dsimp only at hSw); go_simp; try with_reducible rfl); (try simp only [List.getElem_toArray, List.getElem_cons_succ, List.getElem_cons_zero, Act.put, List.setIfInBounds_toArray, List.set_cons_zero, List.set_cons_succ])); (refine wpAnyH_take (i := 6) (v := ?_) rfl (by kernel_rfl) (by kernel_rfl) (by kernel_rfl) (fun _ _ _ h => h) (Or.inl ⟨by kernel_rfl, ?_⟩) (by assumption) ?_; rotate_left; focus (intro w hSw; (try dsimp only at hSw); go_simp; try with_reducible rfl); (try simp only [List.getElem_toArray, List.getElem_cons_succ, List.getElem_cons_zero, Act.put, List.setIfInBounds_toArray, List.set_cons_zero, List.set_cons_succ])); (refine wpAnyH_take (i := 8) (v := ?_) rfl (by kernel_rfl) (by kernel_rfl) (by kernel_rfl) (fun _ _ _ h => h) (Or.inl ⟨by kernel_rfl, ?_⟩) (by assumption) ?_; rotate_left; focus (intro w hSw; (try dsimp only at hSw); go_simp; try with_reducible rfl); (try simp only [List.getElem_toArray, List.getElem_cons_succ, List.getElem_cons_zero, Act.put, List.setIfInBounds_toArray, List.set_cons_zero, List.set_cons_succ]))
          clear hb1
          generalize W.drew = W0 at *
          refine wpAnyH_ready (rs := [7, 9]) (by kernel_rfl) (by simp) (AllReadyH.cons rfl (fun K hK => ?_) (AllReadyH.cons rfl (fun K hK => ?_) AllReadyH.nil))
          · go_simp
            clear cl
            refine hK.out _ _ hHeld (fun hHeld => ?_)
            clear hK K
            (try simp only [List.getElem_toArray, List.getElem_cons_succ, List.getElem_cons_zero, Act.put, List.setIfInBounds_toArray, List.set_cons_zero, List.set_cons_succ])
            refine wpAnyH_ready (rs := [9]) (by kernel_rfl) (by simp) ?_; refine AllReadyH.cons rfl (fun K hK => ?_) AllReadyH.nil
            go_simp
            have bd := below_new W0 (.cells #[.int .i64 p] 3)
            have O9 := Lib.hid (And.intro (owns_below (w := W0) O.out.1 bd) (And.intro (owns_below (w := W0) O.out.2.1 bd) (DoneR.keep (w := W0) O.out.2.2 bd)))
            have HX9 := Lib.hid (And.intro (BoAt.keep (w := W0) HX.out.1 bd) (And.intro (Reads.old (w := W0) HX.out.2.1 bd) (HX.out.2.2.2.2.trans (bd.mono HX.out.2.2.2.2.size))))
            have K6 := Lib.hid (OneAt.new W0 p)
            clear bd hHeld
            generalize W0.alloc (.cells #[.int .i64 p] 3) = w9 at *
            refine hK.out _ _ HX9.out.1.cells.1 (fun hHeld => ?_)
            clear hK K
            (try simp only [List.getElem_toArray, List.getElem_cons_succ, List.getElem_cons_zero, Act.put, List.setIfInBounds_toArray, List.set_cons_zero, List.set_cons_succ])
            refine wpAnyH_ready (rs := [10]) (by kernel_rfl) (by simp) ?_; refine AllReadyH.cons rfl (fun K hK => ?_) AllReadyH.nil
            (try simp only [List.getElem_toArray, List.getElem_cons_succ, List.getElem_cons_zero, Act.put, List.setIfInBounds_toArray, List.set_cons_zero, List.set_cons_succ])
            rw [if_pos (by kernel_rfl)]
            refine wp_append_at (.tmp 30) (.tmp 32) 22 ?_ w.heap.size 3 i0 (.int .i64 0) 1 8 Try.underlying22 HI.out.1 HI.out.2.1 HI.out.2.2.1 HI.out.2.2.2 rfl (by decide) lv s.2.length (ints s.2) ?_ O9.out.2.1 _ 1 1 [.int .i64 p] ?_ (by simp) K6.out.news ?_ ?_ ?_ HX9.out.2.2.size ?_
            · rfl
            · rfl
            · rfl
            · intro u hu; simp at hu; subst hu; rfl
            · have := HL3.out; unfold maxLen; omega
            · have := HL3.out; omega
            intro v7 w7 hown hgrow hblk
            obtain ⟨a7, c7, rfl, -⟩ := Reads.own hown
            rw [show ints s.2 ++ [Value.int .i64 p] = ints (s.2 ++ [p]) from by simp [ints]] at hown
            obtain ⟨o1, o3⟩ := rows_grown O9.out.1 O9.out.2.1 O9.out.2.2 hgrow hblk
            have hat7 := HX9.out.1.grown (by decide) O9.out.2.1 hgrow
            have hbl7 := below_grown HX9.out.2.2 O9.out.2.1 hgrow HX9.out.2.2.size
            have hrd7 : Reads w7 a2 (ints s.2) := by
              rcases HX.out.2.2.2.1 with hh | hh
              · exact reads_nil hh
              · exact reads_grown HX9.out.2.1 hgrow (fun b off e => by rw [HLB.out]; exact (hh b off e).2.1)
            have H7 := Lib.hid (And.intro o1 (And.intro hown (And.intro o3 (And.intro hat7 (And.intro hbl7 hrd7)))))
            clear o1 hown o3 hat7 hbl7 hrd7 hgrow hblk hHeld K6 O9 HX9
            refine hK.out _ _ H7.out.2.2.2.1.cells.1 (fun hHeld => ?_)
            clear hK K
            (try simp only [List.getElem_toArray, List.getElem_cons_succ, List.getElem_cons_zero, Act.put, List.setIfInBounds_toArray, List.set_cons_zero, List.set_cons_succ])
            obtain ⟨cl7, fl7, hset7⟩ := owns_last_at H7.out.1
            have hsp8 := SplitW.grown (D := s.1) (p := p) (lv' := .slice a7 (s.2.length + 1) c7) H7.out.1 hset7 rfl H7.out.2.1 H7.out.2.2.1
            have hat8 := H7.out.2.2.2.1.other (o := s.1.length) (fun e => hgog e.symm) (.slice a7 (s.2.length + 1) c7)
            have hbl8 := H7.out.2.2.2.2.1.setCell (p := ⟨go, s.1.length, none⟩) hgoB (.slice a7 (s.2.length + 1) c7)
            have hrd8 : Reads (w7.setCell ⟨go, s.1.length, none⟩ (.slice a7 (s.2.length + 1) c7)) a2 (ints s.2) := by
              rcases HX.out.2.2.2.1 with hh | hh
              · exact reads_nil hh
              · exact reads_other H7.out.2.2.2.2.2 (fun b off e => (fun eb => (hh b off e).2.2 (by simp [Value.ownBlock, eb]))) (fun k hk => Below.heap_setCell _ _ _ _ hk) (by simp)
            have H8 := Lib.hid (And.intro hsp8 (And.intro hat8 (And.intro hbl8 hrd8)))
            clear hset7 hsp8 hat8 hbl8 hrd8
            have hb1 : ((s.1.length : Int) < (s.1.length : Int) + 1) = True := eq_true (by omega)
            (refine wpAnyH_take (i := 11) (v := ?_) rfl (by kernel_rfl) (by kernel_rfl) (by kernel_rfl) (fun _ _ _ h => h) (Or.inl ⟨by kernel_rfl, ?_⟩) (by assumption) ?_; rotate_left; focus (intro w hSw; (try dsimp only at hSw); go_simp; try with_reducible rfl); (try simp only [List.getElem_toArray, List.getElem_cons_succ, List.getElem_cons_zero, Act.put, List.setIfInBounds_toArray, List.set_cons_zero, List.set_cons_succ]))
            clear hb1
            refine wpAnyH_ready (rs := [12]) (by kernel_rfl) (by simp) ?_; refine AllReadyH.cons rfl (fun K hK => ?_) AllReadyH.nil
            go_simp
            clear cl7 fl7 H7 hHeld
            refine hK.out _ _ H8.out.2.1.cells.1 (fun hHeld => ?_)
            clear hK K hHeld
            (try simp only [List.getElem_toArray, List.getElem_cons_succ, List.getElem_cons_zero, Act.put, List.setIfInBounds_toArray, List.set_cons_zero, List.set_cons_succ])
            refine wpAnyH_done (by kernel_rfl) ?_ _
            generalize w7.setCell ⟨go, s.1.length, none⟩ (.slice a7 (s.2.length + 1) c7) = w8 at *
            obtain ⟨g0, g1, g2, g3⟩ := H8.out.2.1.cells
            go_wp2_with fail
            refine (HRO.out.1 _ H8.out.2.2.2).mono ?_; rintro e w10 ⟨a3, c3, rfl, hr3, hf3, b10⟩
            have hat10 := H8.out.2.1.keep b10
            have hsp10 := H8.out.1.keep b10
            have hbl10 := H8.out.2.2.1.trans (b10.mono H8.out.2.2.1.size)
            have hlt := H8.out.1.lt
            have hg6lt := H8.out.2.1.lt
            have hst := hat10.stored (frA F (stepG F s p) : Int) (.slice a3 (bsA F (stepG F s p)).length c3) (stA F (stepG F s p)) (overG F (stepG F s p))
            have hrst := reads_other hr3 (fun b off e => (by have := hf3 b off e; omega : b ≠ g6)) (heap_four w10 g6 (.int .i64 (frA F (stepG F s p) : Int)) (.slice a3 (bsA F (stepG F s p)).length c3) (.int .i64 (stA F (stepG F s p))) (.bool (overG F (stepG F s p)))) (by simp)
            have hspo := hsp10.other hat10 (by decide) (by decide) (heap_four w10 g6 (.int .i64 (frA F (stepG F s p) : Int)) (.slice a3 (bsA F (stepG F s p)).length c3) (.int .i64 (stA F (stepG F s p))) (.bool (overG F (stepG F s p))))
            have hbst := below_four hbl10 HG6.out (.int .i64 (frA F (stepG F s p) : Int)) (.slice a3 (bsA F (stepG F s p)).length c3) (.int .i64 (stA F (stepG F s p))) (.bool (overG F (stepG F s p)))
            have hnew : ∀ b off, a3 = some (⟨b, off, none⟩ : Addr) → b ≠ g6 ∧ some b ≠ (Value.slice a7 (s.2.length + 1) c7).ownBlock ∧ some b ≠ (Value.slice (some ⟨go, 0, none⟩) (s.1.length + 1) cap).ownBlock := fun b off e => by
              have h1 := hf3 b off e
              refine ⟨by omega, fun e2 => ?_, fun e2 => ?_⟩
              · have := hlt.1 b e2.symm; omega
              · have := hlt.2 b e2.symm; omega
            have HEND := Lib.hid (SplA.mk HRO.out.2 HGM.out hst hrst hnew (split_step HST.out hspo) hbst)
            clear g0 g1 g2 g3
            obtain ⟨g0, g1, g2, g3⟩ := hat10.cells
            have q0 := hat10.free 0
            have q1 := hat10.free 1
            have q2 := hat10.free 2
            have q3 := hat10.free 3
            clear hst hrst hspo hbst hnew hat10 hsp10 hbl10 hlt hg6lt hr3 hf3 b10 HX O HLB HMX
            generalize (frA F (stepG F s p) : Int) = fr at *
            generalize stA F (stepG F s p) = st' at *
            generalize overG F (stepG F s p) = ov' at *
            generalize (bsA F (stepG F s p)).length = n' at *
            go_wp2_with fail
            go_roundw
            case rel => exact ⟨k + 1, by go_num, by omega, HEND⟩
            case measure => simp [intOf]; omega
          · go_simp
            have bd := below_new W0 (.cells #[.int .i64 p] 3)
            have O9 := Lib.hid (And.intro (owns_below (w := W0) O.out.1 bd) (And.intro (owns_below (w := W0) O.out.2.1 bd) (DoneR.keep (w := W0) O.out.2.2 bd)))
            have HX9 := Lib.hid (And.intro (BoAt.keep (w := W0) HX.out.1 bd) (And.intro (Reads.old (w := W0) HX.out.2.1 bd) (HX.out.2.2.2.2.trans (bd.mono HX.out.2.2.2.2.size))))
            have K6 := Lib.hid (OneAt.new W0 p)
            clear bd hHeld
            generalize W0.alloc (.cells #[.int .i64 p] 3) = w9 at *
            refine hK.out _ _ HX9.out.1.cells.1 (fun hHeld => ?_)
            clear hK K
            (try simp only [List.getElem_toArray, List.getElem_cons_succ, List.getElem_cons_zero, Act.put, List.setIfInBounds_toArray, List.set_cons_zero, List.set_cons_succ])
            have cl9 : w9.cell? ⟨go, s.1.length, none⟩ = some lv := (owns_last_at O9.out.1).1
            clear cl
            refine wpAnyH_ready (rs := [7]) (by kernel_rfl) (by simp) ?_; refine AllReadyH.cons rfl (fun K hK => ?_) AllReadyH.nil
            go_simp
            clear cl9
            refine hK.out _ _ hHeld (fun hHeld => ?_)
            clear hK K
            (try simp only [List.getElem_toArray, List.getElem_cons_succ, List.getElem_cons_zero, Act.put, List.setIfInBounds_toArray, List.set_cons_zero, List.set_cons_succ])
            refine wpAnyH_ready (rs := [10]) (by kernel_rfl) (by simp) ?_; refine AllReadyH.cons rfl (fun K hK => ?_) AllReadyH.nil
            (try simp only [List.getElem_toArray, List.getElem_cons_succ, List.getElem_cons_zero, Act.put, List.setIfInBounds_toArray, List.set_cons_zero, List.set_cons_succ])
            rw [if_pos (by kernel_rfl)]
            refine wp_append_at (.tmp 30) (.tmp 32) 22 ?_ w.heap.size 3 i0 (.int .i64 0) 1 8 Try.underlying22 HI.out.1 HI.out.2.1 HI.out.2.2.1 HI.out.2.2.2 rfl (by decide) lv s.2.length (ints s.2) ?_ O9.out.2.1 _ 1 1 [.int .i64 p] ?_ (by simp) K6.out.news ?_ ?_ ?_ HX9.out.2.2.size ?_
            · rfl
            · rfl
            · rfl
            · intro u hu; simp at hu; subst hu; rfl
            · have := HL3.out; unfold maxLen; omega
            · have := HL3.out; omega
            intro v7 w7 hown hgrow hblk
            obtain ⟨a7, c7, rfl, -⟩ := Reads.own hown
            rw [show ints s.2 ++ [Value.int .i64 p] = ints (s.2 ++ [p]) from by simp [ints]] at hown
            obtain ⟨o1, o3⟩ := rows_grown O9.out.1 O9.out.2.1 O9.out.2.2 hgrow hblk
            have hat7 := HX9.out.1.grown (by decide) O9.out.2.1 hgrow
            have hbl7 := below_grown HX9.out.2.2 O9.out.2.1 hgrow HX9.out.2.2.size
            have hrd7 : Reads w7 a2 (ints s.2) := by
              rcases HX.out.2.2.2.1 with hh | hh
              · exact reads_nil hh
              · exact reads_grown HX9.out.2.1 hgrow (fun b off e => by rw [HLB.out]; exact (hh b off e).2.1)
            have H7 := Lib.hid (And.intro o1 (And.intro hown (And.intro o3 (And.intro hat7 (And.intro hbl7 hrd7)))))
            clear o1 hown o3 hat7 hbl7 hrd7 hgrow hblk hHeld K6 O9 HX9
            refine hK.out _ _ H7.out.2.2.2.1.cells.1 (fun hHeld => ?_)
            clear hK K
            (try simp only [List.getElem_toArray, List.getElem_cons_succ, List.getElem_cons_zero, Act.put, List.setIfInBounds_toArray, List.set_cons_zero, List.set_cons_succ])
            obtain ⟨cl7, fl7, hset7⟩ := owns_last_at H7.out.1
            have hsp8 := SplitW.grown (D := s.1) (p := p) (lv' := .slice a7 (s.2.length + 1) c7) H7.out.1 hset7 rfl H7.out.2.1 H7.out.2.2.1
            have hat8 := H7.out.2.2.2.1.other (o := s.1.length) (fun e => hgog e.symm) (.slice a7 (s.2.length + 1) c7)
            have hbl8 := H7.out.2.2.2.2.1.setCell (p := ⟨go, s.1.length, none⟩) hgoB (.slice a7 (s.2.length + 1) c7)
            have hrd8 : Reads (w7.setCell ⟨go, s.1.length, none⟩ (.slice a7 (s.2.length + 1) c7)) a2 (ints s.2) := by
              rcases HX.out.2.2.2.1 with hh | hh
              · exact reads_nil hh
              · exact reads_other H7.out.2.2.2.2.2 (fun b off e => (fun eb => (hh b off e).2.2 (by simp [Value.ownBlock, eb]))) (fun k hk => Below.heap_setCell _ _ _ _ hk) (by simp)
            have H8 := Lib.hid (And.intro hsp8 (And.intro hat8 (And.intro hbl8 hrd8)))
            clear hset7 hsp8 hat8 hbl8 hrd8
            have hb1 : ((s.1.length : Int) < (s.1.length : Int) + 1) = True := eq_true (by omega)
            (refine wpAnyH_take (i := 11) (v := ?_) rfl (by kernel_rfl) (by kernel_rfl) (by kernel_rfl) (fun _ _ _ h => h) (Or.inl ⟨by kernel_rfl, ?_⟩) (by assumption) ?_; rotate_left; focus (intro w hSw; (try dsimp only at hSw); go_simp; try with_reducible rfl); (try simp only [List.getElem_toArray, List.getElem_cons_succ, List.getElem_cons_zero, Act.put, List.setIfInBounds_toArray, List.set_cons_zero, List.set_cons_succ]))
            clear hb1
            refine wpAnyH_ready (rs := [12]) (by kernel_rfl) (by simp) ?_; refine AllReadyH.cons rfl (fun K hK => ?_) AllReadyH.nil
            go_simp
            clear cl7 fl7 H7 hHeld
            refine hK.out _ _ H8.out.2.1.cells.1 (fun hHeld => ?_)
            clear hK K hHeld
            (try simp only [List.getElem_toArray, List.getElem_cons_succ, List.getElem_cons_zero, Act.put, List.setIfInBounds_toArray, List.set_cons_zero, List.set_cons_succ])
            refine wpAnyH_done (by kernel_rfl) ?_ _
            generalize w7.setCell ⟨go, s.1.length, none⟩ (.slice a7 (s.2.length + 1) c7) = w8 at *
            obtain ⟨g0, g1, g2, g3⟩ := H8.out.2.1.cells
            go_wp2_with fail
            refine (HRO.out.1 _ H8.out.2.2.2).mono ?_; rintro e w10 ⟨a3, c3, rfl, hr3, hf3, b10⟩
            have hat10 := H8.out.2.1.keep b10
            have hsp10 := H8.out.1.keep b10
            have hbl10 := H8.out.2.2.1.trans (b10.mono H8.out.2.2.1.size)
            have hlt := H8.out.1.lt
            have hg6lt := H8.out.2.1.lt
            have hst := hat10.stored (frA F (stepG F s p) : Int) (.slice a3 (bsA F (stepG F s p)).length c3) (stA F (stepG F s p)) (overG F (stepG F s p))
            have hrst := reads_other hr3 (fun b off e => (by have := hf3 b off e; omega : b ≠ g6)) (heap_four w10 g6 (.int .i64 (frA F (stepG F s p) : Int)) (.slice a3 (bsA F (stepG F s p)).length c3) (.int .i64 (stA F (stepG F s p))) (.bool (overG F (stepG F s p)))) (by simp)
            have hspo := hsp10.other hat10 (by decide) (by decide) (heap_four w10 g6 (.int .i64 (frA F (stepG F s p) : Int)) (.slice a3 (bsA F (stepG F s p)).length c3) (.int .i64 (stA F (stepG F s p))) (.bool (overG F (stepG F s p))))
            have hbst := below_four hbl10 HG6.out (.int .i64 (frA F (stepG F s p) : Int)) (.slice a3 (bsA F (stepG F s p)).length c3) (.int .i64 (stA F (stepG F s p))) (.bool (overG F (stepG F s p)))
            have hnew : ∀ b off, a3 = some (⟨b, off, none⟩ : Addr) → b ≠ g6 ∧ some b ≠ (Value.slice a7 (s.2.length + 1) c7).ownBlock ∧ some b ≠ (Value.slice (some ⟨go, 0, none⟩) (s.1.length + 1) cap).ownBlock := fun b off e => by
              have h1 := hf3 b off e
              refine ⟨by omega, fun e2 => ?_, fun e2 => ?_⟩
              · have := hlt.1 b e2.symm; omega
              · have := hlt.2 b e2.symm; omega
            have HEND := Lib.hid (SplA.mk HRO.out.2 HGM.out hst hrst hnew (split_step HST.out hspo) hbst)
            clear g0 g1 g2 g3
            obtain ⟨g0, g1, g2, g3⟩ := hat10.cells
            have q0 := hat10.free 0
            have q1 := hat10.free 1
            have q2 := hat10.free 2
            have q3 := hat10.free 3
            clear hst hrst hspo hbst hnew hat10 hsp10 hbl10 hlt hg6lt hr3 hf3 b10 HX O HLB HMX
            generalize (frA F (stepG F s p) : Int) = fr at *
            generalize stA F (stepG F s p) = st' at *
            generalize overG F (stepG F s p) = ov' at *
            generalize (bsA F (stepG F s p)).length = n' at *
            go_wp2_with fail
            go_roundw
            case rel => exact ⟨k + 1, by go_num, by omega, HEND⟩
            case measure => simp [intOf]; omega
    · obtain rfl : k = rolls.length := by omega
      rw [List.drop_length, gameG] at hgm
      injection hgm with hgm
      subst hgm
      have hfin : SplitD wr w.heap.size u5 (begunG s) := by
        unfold begunG
        by_cases hz : s.2 = []
        · rw [if_pos hz]; exact hsd hz
        · rw [if_neg hz]; exact (hsw hz).close
      have HF := Lib.hid (And.intro hfin hbel)
      clear hat hrd hne hsd hsw hbel hfin hi
      go_wp2_with fail
      go_ret
      exact ⟨_, rfl, HF.out.1, HF.out.2⟩
end Go.Proofs.Yteippgbaaipiiaa
