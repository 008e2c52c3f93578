/-
  Pins: the program's FramesOfRolls.
-/
import Derived.Test.YteippgbaaipiiaaPnSs
import Derived.Laws.StructEq
import Derived.Deep.QuietTactic
namespace Go.Proofs.Yteippgbaaipiiaa
open Go.RowKit
set_option linter.unusedVariables false
set_option linter.unusedSimpArgs false

theorem blk_lt {vs : List Value} {u : Value} {j : Nat} (h : j < vs.length) : blk (vs ++ [u]) j = blk vs j := by
  unfold blk; simp [List.getElem?_append_left h]
theorem blk_last {vs : List Value} {g n c : Nat} : blk (vs ++ [.slice (some ⟨g, 0, none⟩) n c]) vs.length = g := by
  unfold blk; simp [Value.ownBlock]
theorem snoc_lt {D : List (List Int)} {bs : List Int} {j : Nat} (h : j < D.length) : (D ++ [bs]).getD j [] = D.getD j [] := by
  simp [List.getElem?_append_left h]
theorem snoc_last {D : List (List Int)} {bs : List Int} : (D ++ [bs]).getD D.length [] = bs := by simp
/-- The rows of the frames so far: each a frame's own copy. -/
def FrD (w1 : World) (D : List (List Int)) (v : Value) (wr : World) : Prop :=
  ∃ vs, wr.ownsRow w1.heap.size 22 1 v D.length vs ∧ Heads vs D ∧ (∀ j, j < D.length → PnAt wr (blk vs j) (D.getD j []) ∧ w1.heap.size ≤ blk vs j) ∧ Apart vs D ∧ Below w1.heap.size w1 wr
theorem FrD.keep {w1 wr w' : World} {D : List (List Int)} {v : Value} (h : FrD w1 D v wr) (hb : Below wr.heap.size wr w') : FrD w1 D v w' := by
  obtain ⟨vs, h1, h2, h3, h4, h5⟩ := h
  exact ⟨vs, owns_below h1 hb, h2, fun j hj => ⟨(h3 j hj).1.keep hb, (h3 j hj).2⟩, h4, h5.trans (hb.mono h5.size)⟩
theorem FrD.push {w1 wr w3 : World} {D : List (List Int)} {v v' : Value} {vs : List Value} {bs : List Int} {g n : Nat} (h1 : wr.ownsRow w1.heap.size 22 1 v D.length vs) (h2 : Heads vs D) (h3 : ∀ j, j < D.length → PnAt wr (blk vs j) (D.getD j []) ∧ w1.heap.size ≤ blk vs j) (h4 : Apart vs D) (h5 : Below w1.heap.size w1 wr)
    (ho : w3.ownsRow w1.heap.size 22 1 v' (D.length + 1) (vs ++ [.slice (some ⟨g, 0, none⟩) bs.length n])) (hg : wr.grownBy w3 v.ownBlock) (hp : PnAt wr g bs) (hB : w1.heap.size ≤ g) (hne : ∀ j, j < D.length → blk vs j ≠ g) : FrD w1 (D ++ [bs]) v' w3 := by
  have hpn : ∀ {k cs}, PnAt wr k cs → PnAt w3 k cs := fun {k cs} hk => by
    have hap := owns_apart hk (by decide) h1
    unfold PnAt at *
    rw [hg.block k (PnAt.lt hk) (fun e => hap e.symm)]; exact hk
  refine ⟨vs ++ [.slice (some ⟨g, 0, none⟩) bs.length n], by rw [List.length_append]; exact ho, ⟨by simp [h2.1], fun j hj => ?_⟩, fun j hj => ?_, fun i j hij hj => ?_, below_grown h5 h1 hg h5.size⟩
  all_goals rw [List.length_append, List.length_singleton] at hj
  · by_cases e : j < D.length
    · obtain ⟨c, hc⟩ := h2.2 j e
      refine ⟨c, ?_⟩
      rw [blk_lt (by rw [h2.1]; exact e), snoc_lt e, List.getElem?_append_left (by rw [h2.1]; exact e)]; exact hc
    · obtain rfl : j = D.length := by omega
      refine ⟨n, ?_⟩
      rw [snoc_last, ← h2.1, blk_last]; simp
  · by_cases e : j < D.length
    · rw [blk_lt (by rw [h2.1]; exact e), snoc_lt e]; exact ⟨hpn (h3 j e).1, (h3 j e).2⟩
    · obtain rfl : j = D.length := by omega
      rw [snoc_last, ← h2.1, blk_last]; exact ⟨hpn hp, hB⟩
  · rw [blk_lt (by rw [h2.1]; omega)]
    by_cases e : j < D.length
    · rw [blk_lt (by rw [h2.1]; exact e)]; exact h4 i j hij e
    · obtain rfl : j = D.length := by omega
      rw [show blk (vs ++ [.slice (some ⟨g, 0, none⟩) bs.length n]) D.length = g from by rw [← h2.1]; exact blk_last]
      exact hne i (by omega)

theorem FrD.base {w w1 wr : World} {D : List (List Int)} {v : Value} (h : FrD w1 D v wr) (hb : Below w.heap.size w w1) : FrD w D v wr := by
  obtain ⟨vs, h1, h2, h3, h4, h5⟩ := h
  have := hb.size
  exact ⟨vs, owns_base h1 this, h2, fun j hj => ⟨(h3 j hj).1, by have := (h3 j hj).2; omega⟩, h4, hb.trans (h5.mono this)⟩
theorem FrD.slice {w1 wr : World} {D : List (List Int)} {v : Value} (h : FrD w1 D v wr) : ∃ a c, v = .slice a D.length c := by
  obtain ⟨vs, h1, -⟩ := h
  obtain ⟨a, c, e, -⟩ := own_cap h1
  exact ⟨a, c, e⟩
/-- What FramesOfRolls of the program hands back. -/
def FrR (D : List (List Int)) (o : Bool) (w : World) (e : Ending) (w' : World) : Prop :=
  ∃ v, e = .returned (.tuple #[v, .bool o]) ∧ FrD w D v w'
def begV : Option St → List (List Int)
  | none => []
  | some s => begunG s
theorem FrD.nil (w w' : World) (hb : Below w.heap.size w w') : FrD w [] (.slice none 0 0) w' :=
  ⟨[], ⟨rfl, .inl ⟨rfl, rfl⟩⟩, ⟨rfl, fun j hj => absurd hj (Nat.not_lt_zero _)⟩, fun j hj => absurd hj (Nat.not_lt_zero _), fun i j _ hj => absurd hj (Nat.not_lt_zero _), hb⟩

@[go_sem] theorem eqFrame (a b c d e f : Int) (w : World) : (Op.equalIn 10000 55 (.agg #[.int .i64 a, .int .i64 b, .int .i64 c]) (.agg #[.int .i64 d, .int .i64 e, .int .i64 f])).run Try.prog w = .ok (a == d && b == e && c == f) w := by
  have u3 := Try.underlying3
  have a3 := Try.isAgg3
  have z3 := Try.sizeOf3
  rw [show (10000 : Nat) = 9999 + 1 from rfl, Op.equalIn]
  simp only [Sem.run_bind, run_underlying Try.underlying55, Result.andThen_ok]
  simp only [Std.Legacy.Range.forIn_eq_forIn_range', Std.Legacy.Range.size, Nat.sub_zero, Nat.add_sub_cancel, Nat.div_one, List.range'_succ, List.range'_zero, List.forIn_cons, List.forIn_nil]
  go_simp
  by_cases h1 : a = d <;> by_cases h2 : b = e <;> by_cases h3 : c = f <;> simp [h1, h2, h3]

def FnS (X : World) (g : Nat) (x y z : Int) (w' : World) : Prop :=
  w'.cell? ⟨g, 0, none⟩ = some (.int .i64 x) ∧ w'.cell? ⟨g, 1, none⟩ = some (.int .i64 y) ∧ w'.cell? ⟨g, 2, none⟩ = some (.int .i64 z) ∧ g < w'.heap.size ∧ Below X.heap.size X w'
theorem fn_keep {X w1 w2 : World} {g : Nat} {x y z : Int} (h : FnS X g x y z w1) (hb : Below w1.heap.size w1 w2) : FnS X g x y z w2 := by
  obtain ⟨h1, h2, h3, h4, h5⟩ := h
  have := hb.size
  exact ⟨by rw [hb.cell (p := ⟨g, 0, none⟩) h4]; exact h1, by rw [hb.cell (p := ⟨g, 1, none⟩) h4]; exact h2, by rw [hb.cell (p := ⟨g, 2, none⟩) h4]; exact h3, by omega, h5.trans (hb.mono h5.size)⟩

set_option maxHeartbeats 6400000 in
set_option maxRecDepth 100000 in
theorem implFrames_any (f : Int) (rolls : List Int) (a : Option Addr) (c : Nat) (w : World) (hl : (rolls.length : Int) ≤ 1000000000000) (h : Reads w a (ints rolls)) :
    Calls Try.prog 26 #[.int .i64 f, .slice a rolls.length c] w fun e w' => FrR (begV (goodR f rolls)) (goodR f rolls).isSome w e w' := by
  have hs := sheetOf_any f rolls a c w hl h
  cases hg : goodR f rolls with
  | none =>
    rw [hg] at hs
    have HS := Lib.hid hs; clear hs hg h
    go_enter Try.func26, Try.ntmps26
    go_wp2_with fail
    refine HS.out.mono ?_; rintro e w1 ⟨-, hn, b1⟩
    obtain rfl := hn rfl
    clear hn
    go_wp2_with fail
    refine wp_loop_rounds 1 ?_
    rw [rounds_succ]
    go_wp2_with fail
    refine bodyPost_ret (v := .tuple #[.slice none 0 0, .bool false]) (by simp [results, Try.results26, go_sem]) rfl ⟨_, rfl, FrD.nil _ _ b1⟩
  | some s =>
    rw [hg] at hs
    obtain ⟨F, rfl, h1, h2, -, hi, -⟩ := goodR_some hg
    obtain ⟨kk, hkk⟩ := sheet_begun hi
    have hsl := sheet_len hi.1
    have hsm := sheet_small hi
    have hbn := begun_ne hi
    have hbl := begun_len hi
    have HS : Hid (Calls Try.prog 59 #[.int .i64 (F : Int), .slice a rolls.length c] w fun e w' => (∃ g, e = .returned (.tuple #[.slice (some ⟨g, 0, none⟩) F F, .bool true]) ∧ ShAt w' g (sheetG F s)) ∧ Below w.heap.size w w') := Lib.hid (hs.mono (fun e w' hh => by
      obtain ⟨g, e1, e2, -⟩ := hh.1 s rfl
      rw [show ((F : Nat) : Int).toNat = F from by simp] at e1 e2
      exact ⟨⟨g, e1, e2⟩, hh.2.2⟩))
    show Calls Try.prog 26 #[.int .i64 F, .slice a rolls.length c] w fun e w' => FrR (begunG s) true w e w'
    generalize begunG s = B at *
    generalize sheetG F s = S at *
    have HK := Lib.hid (And.intro hkk (And.intro hsl (And.intro hsm (And.intro hbn hbl)))); clear hkk hsl hsm hbn hbl hs hg h hi
    obtain ⟨i1, hi0, hz0, hz1, hz2⟩ := info_parts infoSlice
    have HJ := Lib.hid (And.intro hi0 (And.intro hz0 (And.intro hz1 hz2))); clear hi0 hz0 hz1 hz2
    go_enter Try.func26, Try.ntmps26
    go_wp2_with fail
    refine HS.out.mono ?_; rintro e w1 ⟨⟨g, rfl, hsh⟩, b1⟩
    have H1 := Lib.hid (And.intro hsh b1); clear hsh b1 HS
    go_wp2_with fail
    go_loopw [8, 19] (fun q i wr => ∃ k : Nat, i = .int .i64 k ∧ k ≤ F ∧ Hid (FrD w1 (B.take k) q wr)) (fun _ i _ => F - (intOf i).toNat)
    case atStart => exact ⟨0, rfl, Nat.zero_le _, Lib.hid (FrD.nil _ _ (Below.refl _ _))⟩
    case round =>
      obtain ⟨k, rfl, hk, HF⟩ := hrel
      by_cases hlt : k < F
      · have hkF : (k : Int) < (F : Int) := by omega
        obtain ⟨va, vc, ev⟩ := HF.out.slice
        subst ev
        obtain ⟨c0, c1, c2⟩ := (H1.out.1.keep HF.out.choose_spec.2.2.2.2).cells (j := k) (by rw [HK.out.2.1]; exact hlt)
        have hD10 : (B.take k).length ≤ 10 := by rw [List.length_take]; omega
        have htk : (B.getD k [] = [] → B.take (k + 1) = B.take k) ∧ (B.getD k [] ≠ [] → B.take (k + 1) = B.take k ++ [B.getD k []]) := by
          by_cases e : k < B.length
          · have e2 : B.getD k [] = B[k] := by simp [e]
            refine ⟨fun e3 => ?_, fun _ => ?_⟩
            · exact absurd (e2 ▸ e3) (HK.out.2.2.2.1 _ (List.getElem_mem e))
            · rw [List.take_succ_eq_append_getElem e, e2]
          · refine ⟨fun _ => ?_, fun e3 => ?_⟩
            · rw [List.take_of_length_le (by omega), List.take_of_length_le (by omega)]
            · exact absurd (by simp [List.getElem?_eq_none (l := B) (i := k) (by omega)]) e3
        have HTK := Lib.hid htk; clear htk
        generalize B.take k = D at *
        have hsm := HK.out.2.2.1 k
        have hbs : S.getD k [] = B.getD k [] := by
          rw [HK.out.1]
          by_cases e : k < B.length
          · simp [List.getElem?_append_left e]
          · rw [List.getD_eq_getElem?_getD, List.getElem?_append_right (by omega), List.getD_eq_getElem?_getD, List.getElem?_eq_none (l := B) (by omega)]
            cases hh : (List.replicate kk ([] : List Int))[k - B.length]? with
            | none => rfl
            | some y =>
              have := List.eq_of_mem_replicate (List.mem_of_getElem? hh)
              subst this; rfl
        rw [hbs] at c0 c1 c2 hsm
        clear hbs
        generalize hbk : B.getD k [] = bs at *
        have hP : PnAt (wr.alloc (.cells #[.int .i64 (bs.getD 0 (-1)), .int .i64 (bs.getD 1 (-1)), .int .i64 (bs.getD 2 (-1))] 55)) wr.heap.size bs := PnAt.new wr bs
        have hba := fun w => balls_any bs hsm w
        rw [show frV bs = .agg #[.int .i64 (bs.getD 0 (-1)), .int .i64 (bs.getD 1 (-1)), .int .i64 (bs.getD 2 (-1))] from rfl] at hba
        have hxe : bs = [] → bs.getD 0 (-1) = -1 ∧ bs.getD 1 (-1) = -1 ∧ bs.getD 2 (-1) = -1 := by intro e; subst e; exact ⟨rfl, rfl, rfl⟩
        have hxn : bs ≠ [] → ¬ bs.getD 0 (-1) = -1 := by
          intro e e2
          cases bs with
          | nil => exact e rfl
          | cons p q =>
            have := hsm.2 p (List.mem_cons_self ..)
            simp at e2; omega
        generalize bs.getD 0 (-1) = x at *
        generalize bs.getD 1 (-1) = y at *
        generalize bs.getD 2 (-1) = z at *
        have hpre : FnS (wr.alloc (.cells #[.int .i64 x, .int .i64 y, .int .i64 z] 55)) wr.heap.size x y z (wr.alloc (.cells #[.int .i64 x, .int .i64 y, .int .i64 z] 55)) :=
          ⟨cell_of_row _ _ 0 #[.int .i64 x, .int .i64 y, .int .i64 z] _ (0, 0) (heap_alloc_last wr _), cell_of_row _ _ 1 #[.int .i64 x, .int .i64 y, .int .i64 z] _ (0, 0) (heap_alloc_last wr _), cell_of_row _ _ 2 #[.int .i64 x, .int .i64 y, .int .i64 z] _ (0, 0) (heap_alloc_last wr _), hP.lt, Below.refl _ _⟩
        have bda := below_new wr (.cells #[.int .i64 x, .int .i64 y, .int .i64 z] 55)
        have HA := Lib.hid (And.intro hpre (And.intro bda (And.intro hbk hsm))); clear hpre bda hP hbk hsm
        have HBA := Lib.hid hba; clear hba
        have heg : Try.prog.eqGuardType Try.prog.depth 55 = false := by kernel_rfl
        go_wp2_with fail
        clear c0 c1 c2
        generalize wr.alloc (.cells #[.int .i64 x, .int .i64 y, .int .i64 z] 55) = X at *
        generalize hgg : wr.heap.size = gc at *
        by_cases hb : bs = []
        · obtain ⟨rfl, rfl, rfl⟩ := hxe hb
          clear hxe hxn
          refine wp_region_held_drew (S := fun w' => w'.cell? ⟨gc, 0, none⟩ = some (.int .i64 (-1)) ∧ w'.cell? ⟨gc, 1, none⟩ = some (.int .i64 (-1)) ∧ w'.cell? ⟨gc, 2, none⟩ = some (.int .i64 (-1)) ∧ gc < w'.heap.size ∧ Below X.heap.size X w') (by kernel_rfl) ⟨HA.out.1.1, HA.out.1.2.1, HA.out.1.2.2.1, HA.out.1.2.2.2.1, HA.out.1.2.2.2.2.drew⟩ (fun hHeld => ?_)
          (refine wpAnyH_take (i := 0) (v := ?_) rfl (by kernel_rfl) (by kernel_rfl) (by kernel_rfl) (fun _ _ _ h => h) (Or.inl ⟨by kernel_rfl, ?_⟩) (by assumption) ?_; rotate_left; focus (intro w hSw; (try dsimp only at hSw); go_simp; try with_reducible rfl); (try simp only [List.getElem_toArray, List.getElem_cons_succ, List.getElem_cons_zero, Act.put, List.setIfInBounds_toArray, List.set_cons_zero, List.set_cons_succ]))
          refine wpAnyH_ready (rs := [1]) (by kernel_rfl) (by simp) ?_; refine AllReadyH.cons rfl (fun K hK => ?_) AllReadyH.nil
          go_simp
          go_at_call 63
          refine (emptyFrame_any _).mono ?_; rintro e w' ⟨rfl, bd⟩
          have KS := Lib.hid (fn_keep hHeld bd); clear hHeld bd
          go_wp2_with fail
          refine hK.out _ _ KS.out (fun hHeld => ?_)
          clear hK K KS
          (try simp only [List.getElem_toArray, List.getElem_cons_succ, List.getElem_cons_zero, Act.put, List.setIfInBounds_toArray, List.set_cons_zero, List.set_cons_succ])
          (refine wpAnyH_take (i := 2) (v := ?_) rfl (by kernel_rfl) (by kernel_rfl) (by kernel_rfl) (fun _ _ _ h => h) (Or.inl ⟨by kernel_rfl, ?_⟩) (by assumption) ?_; rotate_left; focus (intro w hSw; (try dsimp only at hSw); go_simp; try with_reducible rfl); (try simp only [List.getElem_toArray, List.getElem_cons_succ, List.getElem_cons_zero, Act.put, List.setIfInBounds_toArray, List.set_cons_zero, List.set_cons_succ]))
          refine wpAnyH_done (by kernel_rfl) ?_ _
          have HQ := Lib.hid ((HF.out.keep (by rw [hgg]; exact HA.out.2.1)).keep hHeld.2.2.2.2); clear hHeld HBA heg
          go_wp2_with fail
          go_roundw
          case rel => exact ⟨k + 1, by go_num, by omega, Lib.hid (by rw [HTK.out.1 hb]; exact HQ.out)⟩
          case measure => simp [intOf]; omega
        · have hx := hxn hb
          clear hxe hxn
          have hx1 : (x == -1) = false := by simpa using hx
          clear hx
          refine wp_region_held_drew (S := fun w' => w'.cell? ⟨gc, 0, none⟩ = some (.int .i64 x) ∧ w'.cell? ⟨gc, 1, none⟩ = some (.int .i64 y) ∧ w'.cell? ⟨gc, 2, none⟩ = some (.int .i64 z) ∧ gc < w'.heap.size ∧ Below X.heap.size X w') (by kernel_rfl) ⟨HA.out.1.1, HA.out.1.2.1, HA.out.1.2.2.1, HA.out.1.2.2.2.1, HA.out.1.2.2.2.2.drew⟩ (fun hHeld => ?_)
          (refine wpAnyH_take (i := 0) (v := ?_) rfl (by kernel_rfl) (by kernel_rfl) (by kernel_rfl) (fun _ _ _ h => h) (Or.inl ⟨by kernel_rfl, ?_⟩) (by assumption) ?_; rotate_left; focus (intro w hSw; (try dsimp only at hSw); go_simp; try with_reducible rfl); (try simp only [List.getElem_toArray, List.getElem_cons_succ, List.getElem_cons_zero, Act.put, List.setIfInBounds_toArray, List.set_cons_zero, List.set_cons_succ]))
          refine wpAnyH_ready (rs := [1]) (by kernel_rfl) (by simp) ?_; refine AllReadyH.cons rfl (fun K hK => ?_) AllReadyH.nil
          go_simp
          go_at_call 63
          refine (emptyFrame_any _).mono ?_; rintro e w' ⟨rfl, bd⟩
          have KS := Lib.hid (fn_keep hHeld bd); clear hHeld bd
          go_wp2_with fail
          refine hK.out _ _ KS.out (fun hHeld => ?_)
          clear hK K KS
          (try simp only [List.getElem_toArray, List.getElem_cons_succ, List.getElem_cons_zero, Act.put, List.setIfInBounds_toArray, List.set_cons_zero, List.set_cons_succ])
          (refine wpAnyH_take (i := 2) (v := ?_) rfl (by kernel_rfl) (by kernel_rfl) (by kernel_rfl) (fun _ _ _ h => h) (Or.inl ⟨by kernel_rfl, ?_⟩) (by assumption) ?_; rotate_left; focus (intro w hSw; (try dsimp only at hSw); go_simp; try with_reducible rfl); (try simp only [List.getElem_toArray, List.getElem_cons_succ, List.getElem_cons_zero, Act.put, List.setIfInBounds_toArray, List.set_cons_zero, List.set_cons_succ]))
          refine wpAnyH_done (by kernel_rfl) ?_ _
          have HQ := Lib.hid ((HF.out.keep (by rw [hgg]; exact HA.out.2.1)).keep hHeld.2.2.2.2)
          obtain ⟨g0, g1, g2, -, -⟩ := hHeld
          clear heg
          go_wp2_with fail
          refine (HBA.out _).mono ?_; rintro e w5 ⟨rfl, hp5, b5⟩
          obtain ⟨vs, o1, o2, o3, o4, o5⟩ := HQ.out
          have H5 := Lib.hid (And.intro (owns_below o1 b5) (And.intro o2 (And.intro (fun j hj => (And.intro ((o3 j hj).1.keep b5) (o3 j hj).2 : PnAt w5 (blk vs j) (D.getD j []) ∧ w1.heap.size ≤ blk vs j)) (And.intro o4 (And.intro (o5.trans (b5.mono o5.size)) (And.intro hp5 (And.intro o5.size (fun j (hj : j < D.length) => (o3 j hj).1.lt))))))))
          have hz5 : w1.heap.size ≤ w5.heap.size := by have := b5.size; have := o5.size; omega
          clear o1 o2 o3 o4 o5 hp5 b5 g0 g1 g2 HBA
          go_wp2_with (at_builtin; refine wpList_append_own_at _ rfl _ _ 28 rfl w1.heap.size 22 i1 (.slice none 0 0) 1 24 Try.underlying28 HJ.out.1 HJ.out.2.1 HJ.out.2.2.1 HJ.out.2.2.2 rfl (by decide) _ _ _ rfl (H5.out.1.alloc _) ⟨w5.heap.size, 0, none⟩ 1 1 [.slice (some ⟨w'.heap.size, 0, none⟩) bs.length bs.length] rfl rfl (cell_one_new _ _ _) ?_ ?_ ?_ ?_ ?_)
          · intro u hu; simp at hu; subst hu; rfl
          · unfold maxLen; omega
          · omega
          · simp; omega
          intro v6 w6 hown hgrow _ hblk
          have hpush := FrD.push (bs := bs) (H5.out.1.alloc _) H5.out.2.1 (fun j hj => ⟨(H5.out.2.2.1 j hj).1.old _, (H5.out.2.2.1 j hj).2⟩) H5.out.2.2.2.1 (H5.out.2.2.2.2.1.alloc hz5 _) hown hgrow (H5.out.2.2.2.2.2.1.old _) H5.out.2.2.2.2.2.2.1 (fun j hj => Nat.ne_of_lt (H5.out.2.2.2.2.2.2.2 j hj))
          have H6 := Lib.hid hpush; clear hpush hown hgrow hblk H5
          go_wp2_with fail
          go_roundw
          case rel => exact ⟨k + 1, by go_num, by omega, Lib.hid (by rw [HTK.out.2 hb]; exact H6.out)⟩
          case measure => simp [intOf]; omega
      · obtain rfl : k = F := by omega
        have he : B.take k = B := List.take_of_length_le HK.out.2.2.2.2
        rw [he] at HF
        obtain ⟨va, vc, ev⟩ := HF.out.slice
        subst ev
        go_wp2_with fail
        refine bodyPost_ret (v := .tuple #[.slice va B.length vc, .bool true]) (by simp [results, Try.results26, go_sem]) rfl ⟨_, rfl, HF.out.base H1.out.2⟩
end Go.Proofs.Yteippgbaaipiiaa
