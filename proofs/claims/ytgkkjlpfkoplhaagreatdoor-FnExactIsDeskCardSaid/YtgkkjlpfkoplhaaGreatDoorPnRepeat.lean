/-
  Pins: the sheet as it is made: slices.Repeat of one empty frame.
-/
import Derived.Test.YtgkkjlpfkoplhaaGreatDoorPnStand
import Derived.Test.YtgkkjlpfkoplhaaGreatDoorPnCopy
import Derived.Maps.AppendAt
namespace Go.Proofs.YtgkkjlpfkoplhaaGreatDoor.Pn
open Go.RowKit
set_option linter.unusedVariables false
set_option linter.unusedSimpArgs false

set_option maxHeartbeats 3200000 in
theorem mul64_any (F : Nat) (h1 : 1 ≤ F) (h2 : F ≤ 10) (w : World) :
    Calls Tryz.prog 91 #[.int .u64 1, .int .u64 F] w fun e w' => e = .returned (.tuple #[.int .u64 0, .int .u64 F]) ∧ w = w' := by
  have hF : F = 1 ∨ F = 2 ∨ F = 3 ∨ F = 4 ∨ F = 5 ∨ F = 6 ∨ F = 7 ∨ F = 8 ∨ F = 9 ∨ F = 10 := by omega
  rcases hF with rfl | rfl | rfl | rfl | rfl | rfl | rfl | rfl | rfl | rfl
  all_goals
    clear h1 h2
    go_enter Tryz.func91, Tryz.ntmps91
    go_wp2
    go_ret2
    exact ⟨rfl, rfl⟩

set_option maxHeartbeats 3200000 in
theorem mul_any (F : Nat) (h1 : 1 ≤ F) (h2 : F ≤ 10) (w : World) :
    Calls Tryz.prog 71 #[.int .u64 1, .int .u64 F] w fun e w' => e = .returned (.tuple #[.int .u64 0, .int .u64 F]) ∧ w = w' := by
  go_enter Tryz.func71, Tryz.ntmps71
  go_wp2_with fail
  refine (mul64_any F h1 h2 _).mono ?_; rintro e w1 ⟨rfl, rfl⟩
  go_wp2_with fail
  go_ret2
  exact ⟨rfl, rfl⟩

/-- The cells of a sheet. -/
def sheetC (S : List (List Int)) : List Value := S.flatMap fun bs => [.int .i64 (bs.getD 0 (-1)), .int .i64 (bs.getD 1 (-1)), .int .i64 (bs.getD 2 (-1))]
theorem sheetC_len (S : List (List Int)) : (sheetC S).length = 3 * S.length := by
  induction S with
  | nil => rfl
  | cons d l ih => simp only [sheetC, List.flatMap_cons, List.length_append] at *; simp at *; omega
theorem sheetC_append (l m : List (List Int)) : sheetC (l ++ m) = sheetC l ++ sheetC m := by simp [sheetC]
theorem sheetC_get : ∀ (S : List (List Int)) (j : Nat), j < S.length → (sheetC S)[j * 3]? = some (.int .i64 ((S.getD j []).getD 0 (-1))) ∧ (sheetC S)[j * 3 + 1]? = some (.int .i64 ((S.getD j []).getD 1 (-1))) ∧ (sheetC S)[j * 3 + 2]? = some (.int .i64 ((S.getD j []).getD 2 (-1)))
  | d :: l, 0, _ => by simp [sheetC]
  | d :: l, j + 1, h => by
    have := sheetC_get l j (by simpa using h)
    simp only [sheetC, List.flatMap_cons] at *
    rw [show (j + 1) * 3 = j * 3 + 1 + 1 + 1 from by omega]
    simpa using this
def ShAt (w : World) (g : Nat) (S : List (List Int)) : Prop := w.heap[g]? = some (.cells (sheetC S).toArray 85 (0, 0))
theorem ShAt.lt {w : World} {g : Nat} {S : List (List Int)} (h : ShAt w g S) : g < w.heap.size := (Array.getElem?_eq_some_iff.1 h).1
theorem ShAt.keep {w w' : World} {g : Nat} {S : List (List Int)} (h : ShAt w g S) (hb : Below w.heap.size w w') : ShAt w' g S := by
  unfold ShAt at *; rw [hb.block _ (Array.getElem?_eq_some_iff.1 h).1]; exact h
theorem ShAt.cell {w : World} {g : Nat} {S : List (List Int)} (h : ShAt w g S) (k : Nat) : w.cell? ⟨g, k, none⟩ = (sheetC S)[k]? := by
  rw [cell_of_row w g k _ _ _ h]; simp
theorem ShAt.cells {w : World} {g : Nat} {S : List (List Int)} (h : ShAt w g S) {j : Nat} (hj : j < S.length) :
    w.cell? ⟨g, j * 3, none⟩ = some (.int .i64 ((S.getD j []).getD 0 (-1))) ∧ w.cell? ⟨g, j * 3 + 1, none⟩ = some (.int .i64 ((S.getD j []).getD 1 (-1))) ∧ w.cell? ⟨g, j * 3 + 2, none⟩ = some (.int .i64 ((S.getD j []).getD 2 (-1))) := by
  obtain ⟨h0, h1, h2⟩ := sheetC_get S j hj
  exact ⟨by rw [h.cell]; exact h0, by rw [h.cell]; exact h1, by rw [h.cell]; exact h2⟩
theorem sheetC_empty (F : Nat) : sheetC (List.replicate F []) = List.replicate (3 * F) (.int .i64 (-1)) := by
  induction F with
  | zero => rfl
  | succ F ih =>
    rw [List.replicate_succ, show 3 * (F + 1) = 3 * F + 1 + 1 + 1 from by omega]
    simp only [List.replicate_succ]
    simp only [sheetC, List.flatMap_cons] at *
    rw [ih]; rfl

theorem add_pl (b o j : Nat) : (⟨b, o, none⟩ : Addr).add j = ⟨b, o + j, none⟩ := by unfold Addr.add; split <;> simp_all

/-- The first 3 n cells of a row hold -1. -/
def Neg (cur : Array Value) (n F : Nat) : Prop := cur.size = F * 3 ∧ ∀ j, j < n * 3 → cur[j]? = some (.int .i64 (-1))
theorem Neg.all {cur : Array Value} {F : Nat} (h : Neg cur F F) : cur = (sheetC (List.replicate F [])).toArray := by
  obtain ⟨h1, h2⟩ := h
  apply Array.ext'
  rw [sheetC_empty]
  apply List.ext_getElem?
  intro i
  by_cases hi : i < F * 3
  · have := h2 i hi
    rw [Array.getElem?_toList, this, List.getElem?_replicate, if_pos (by omega)]
  · rw [List.getElem?_eq_none (by simp; omega), List.getElem?_eq_none (by simp; omega)]
theorem Neg.step {cur : Array Value} {n m F : Nat} (h : Neg cur n F) (hm : n + m ≤ F) :
    Neg (cur.toList.take (n * 3) ++ List.replicate (m * 3) (Value.int IntKind.i64 (-1)) ++ cur.toList.drop (n * 3 + (List.replicate (m * 3) (Value.int IntKind.i64 (-1))).length)).toArray (n + m) F := by
  obtain ⟨h1, h2⟩ := h
  refine ⟨by simp; omega, fun j hj => ?_⟩
  have hlen : cur.toList.length = F * 3 := by simpa using h1
  by_cases hj1 : j < n * 3
  · have := h2 j hj1
    simp only [List.getElem?_toArray, List.append_assoc]
    rw [List.getElem?_append_left (by simp; omega), List.getElem?_take_of_lt hj1, Array.getElem?_toList]
    exact this
  · simp only [List.getElem?_toArray, List.append_assoc]
    rw [List.getElem?_append_right (by simp; omega)]
    have e : (cur.toList.take (n * 3)).length = n * 3 := by simp; omega
    rw [e, List.getElem?_append_left (by simp; omega), List.getElem?_replicate, if_pos (by omega)]

theorem row_made {w : World} {base g n c : Nat} {e : TypeId} {xs : List Value} (h : w.ownsRow base e 3 (.slice (some ⟨g, 0, none⟩) n c) n xs) :
    ∃ cur, w.heap[g]? = some (.cells cur e (0, 0)) ∧ cur.size = c * 3 := by
  obtain ⟨hl, h | ⟨g', cap, cur, hv, hg, hh, hn, hcap, hcs, htk⟩⟩ := h
  · exact absurd h.1 (by simp)
  · cases hv
    exact ⟨cur, hh, hcs⟩

theorem infoFrame : (Tryz.prog.info? 85).map (fun i => (i.zero, i.size, i.bytes)) = some (some (.agg #[.int .i64 0, .int .i64 0, .int .i64 0]), 3, 24) := by kernel_rfl

theorem info3 : ∃ i, Tryz.prog.info? 85 = some i ∧ i.size = 3 := by
  have h : (Tryz.prog.info? 85).map (·.size) = some 3 := by kernel_rfl
  cases hi : Tryz.prog.info? 85 with
  | none => rw [hi] at h; cases h
  | some i => rw [hi] at h; exact ⟨i, rfl, by simpa using h⟩
theorem cells3 : Tryz.prog.cellsOf 85 = 3 := by kernel_rfl
theorem elemSheet : Tryz.prog.elem 57 = 85 := by kernel_rfl
theorem underSheet : Tryz.prog.underlying 57 = some (.slice (Tryz.prog.elem 57)) := by rw [elemSheet]; exact Tryz.underlying57
theorem sliced_lo (g k F : Nat) (hk : k < F) : sliced (some ⟨g, 0, none⟩) ((k : Nat) : Int).toNat F F 3 = .slice (some ⟨g, k * 3, none⟩) (F - k) (F - k) := by
  have hne : ¬ F = k := by omega
  have e : (⟨g, 0, none⟩ : Addr).add (k * 3) = ⟨g, k * 3, none⟩ := by unfold Addr.add; split <;> simp_all
  unfold sliced
  rw [Int.toNat_natCast, if_neg hne, Option.map_some, e]
theorem sliced_hi (g k F : Nat) (hk : k < F) : sliced (some ⟨g, 0, none⟩) 0 ((k : Nat) : Int).toNat F 3 = .slice (some ⟨g, 0, none⟩) k F := by
  unfold sliced
  rw [Int.toNat_natCast, if_neg (by omega), Option.map_some, Nat.zero_mul]; rfl
theorem slice_lo (g k F : Nat) (hk : k < F) (w : World) :
    (Instr.slice 57 (.slice (some ⟨g, 0, none⟩) F F) (some (.int .i64 (k : Int))) none none).run Tryz.prog w = .ok (.slice (some ⟨g, k * 3, none⟩) (F - k) (F - k)) w := by
  obtain ⟨i, h1, h2⟩ := info3
  rw [run_slice_l (P := Tryz.prog) (w := w) 57 (some ⟨g, 0, none⟩) F F underSheet .i64 (k : Int) (by omega) (by omega)]
  rw [elemSheet, run_sizeOf (P := Tryz.prog) (w := w) h1, cells3, Result.andThen_ok, sliced_lo g k F hk]
theorem slice_hi (g k F : Nat) (hk : k < F) (w : World) :
    (Instr.slice 57 (.slice (some ⟨g, 0, none⟩) F F) none (some (.int .i64 (k : Int))) none).run Tryz.prog w = .ok (.slice (some ⟨g, 0, none⟩) k F) w := by
  obtain ⟨i, h1, h2⟩ := info3
  rw [run_slice_h (P := Tryz.prog) (w := w) 57 (some ⟨g, 0, none⟩) F F underSheet .i64 (k : Int) (by omega) (by omega)]
  rw [elemSheet, run_sizeOf (P := Tryz.prog) (w := w) h1, cells3, Result.andThen_ok, sliced_hi g k F hk]

def RepAt (w : World) (g F : Nat) (n : Value) (wr : World) : Prop := ∃ k : Nat, n = .int .i64 k ∧ 1 ≤ k ∧ k ≤ F ∧ (∃ cur, wr.heap[g]? = some (.cells cur 85 (0, 0)) ∧ Neg cur k F) ∧ Below g w wr

set_option maxHeartbeats 400000 in
set_option maxRecDepth 20000 in
theorem repeat_any (F : Nat) (h1 : 1 ≤ F) (h2 : F ≤ 10) (b c : Nat) (w : World) (hx : PnAt w b []) :
    Calls Tryz.prog 44 #[.slice (some ⟨b, 0, none⟩) 1 c, .int .i64 F] w fun e w' => ∃ g, e = .returned (.slice (some ⟨g, 0, none⟩) F F) ∧ ShAt w' g (List.replicate F []) ∧ w.heap.size ≤ g ∧ Below w.heap.size w w' := by
  obtain ⟨i0, hi, hz0, hz1, hz2⟩ := info_parts infoFrame
  have hsz : (Tryz.prog.info? 85).map (·.size) = some 3 := by kernel_rfl
  have hwr : IntKind.u64.wrap (F : Int) = (F : Int) := by
    have hF : F = 1 ∨ F = 2 ∨ F = 3 ∨ F = 4 ∨ F = 5 ∨ F = 6 ∨ F = 7 ∨ F = 8 ∨ F = 9 ∨ F = 10 := by omega
    rcases hF with rfl | rfl | rfl | rfl | rfl | rfl | rfl | rfl | rfl | rfl <;> rfl
  have HSZ := Lib.hid hsz; clear hsz
  have HX := Lib.hid hx; clear hx
  go_enter Tryz.func44, Tryz.ntmps44
  go_wp2_with fail
  refine (mul_any F h1 h2 _).mono ?_; rintro e w1 ⟨rfl, rfl⟩
  clear hwr
  go_wp2_with (at_make; refine wpList_make_full _ rfl _ _ _ rfl w.heap.size _ i0 _ 3 Tryz.underlying57 hi hz0 hz1 .i64 .i64 _ _ F rfl rfl rfl rfl ?_ ?_ (Nat.le_refl _) ?_)
  · rw [hz2]; omega
  · unfold maxLen; omega
  intro w2 hown hgrow
  obtain ⟨cur, hcur, hcs⟩ := row_made hown
  have hbel : Below w.heap.size w w2 := (Below.refl _ _).grown hgrow (Nat.le_refl _) (fun k hk => by cases hk)
  have hx2 : PnAt w2 b [] := HX.out.keep hbel
  have hbl := HX.out.lt
  clear hown hgrow hi hz0 hz1 hz2
  generalize hgg : w.heap.size = g at *
  have HG := Lib.hid hgg; clear hgg
  have HC := Lib.hid hcur; clear hcur
  have HB := Lib.hid hbel; clear hbel
  have HX2 := Lib.hid hx2; clear hx2
  have hmin : 1 = Nat.min 1 F := by simp [Nat.min_def]; omega
  have HM := Lib.hid hmin; clear hmin
  go_wp2_with (refine wpList_copy3 rfl (.tmp 31) (.tmp 32) _ _ rfl 85 Tryz.underlying57 HSZ.out g 0 F F ⟨b, 0, none⟩ 1 c rfl rfl cur 85 HC.out (List.replicate (1 * 3) (.int .i64 (-1))) 1 HM.out ?_ ?_ ?_ ?_ g w HB.out (Nat.le_refl _) ?_)
  · simp
  · intro j v hj
    have hj3 : j < 3 := by
      have := (List.getElem?_eq_some_iff.1 hj).1
      simpa using this
    have := HX2.out.cell j hj3
    rw [add_pl b 0 j, Nat.zero_add, this]
    rw [List.getElem?_replicate, if_pos (by omega)] at hj
    rw [← hj]; simp
  · simp; omega
  · intro v hv
    have := List.eq_of_mem_replicate hv
    subst this; rfl
  intro w3 hw3 hb3
  have hneg := Neg.step (cur := cur) (n := 0) (m := 1) (F := F) ⟨by omega, fun j hj => by omega⟩ (by omega)
  rw [Nat.zero_mul] at hneg
  have H3 := Lib.hid (And.intro hw3.out hneg); clear hw3 hneg
  go_wp2_with fail
  go_loopw [8] (fun n wr => Hid (RepAt w g F n wr)) (fun n _ => F - (intOf n).toNat)
  case atStart => exact Lib.hid ⟨1, rfl, Nat.le_refl _, h1, ⟨_, H3.out.1, H3.out.2⟩, hb3⟩
  case round =>
    clear H3 hb3 HX2 HM HB HC
    obtain ⟨k, rfl, k1, k2, ⟨cur2, hc2, hn2⟩, hb2⟩ := hrel.out
    clear hrel
    by_cases hlt : k < F
    · have b1 : (k : Int) < (F : Int) := by omega
      have hm : ∃ m : Nat, m = Nat.min k (F - k) ∧ k + m ≤ F ∧ 1 ≤ m ∧ m ≤ k := ⟨_, rfl, by simp [Nat.min_def]; split <;> omega, by simp [Nat.min_def]; split <;> omega, by simp [Nat.min_def]; split <;> omega⟩
      obtain ⟨m, hm1, hm2, hm3, hm4⟩ := hm
      have HM := Lib.hid hm1; clear hm1
      have hst := Neg.step hn2 hm2
      have HST := Lib.hid hst; clear hst
      have HC2 := Lib.hid hc2; clear hc2
      have HN2 := Lib.hid hn2; clear hn2
      have HB2 := Lib.hid hb2; clear hb2
      have hw1 : IntKind.i64.wrap ((k : Int) + (m : Int)) = ((k + m : Nat) : Int) := by rw [IntWalk.i64_in _ (by omega)]; push_cast; rfl
      go_wp2_with fail
      have hlo := fun w => slice_lo g k F hlt w
      have hhi := fun w => slice_hi g k F hlt w
      refine wp_region_any (by kernel_rfl) ?_
      change wpAny _ _ _ _ _ _ _ wr.drew
      (refine wpAny_take (i := 0) (v := ?_) rfl (by kernel_rfl) (by kernel_rfl) (by kernel_rfl) (fun _ _ _ h => h) (Or.inl ⟨by kernel_rfl, ?_⟩) ?_; rotate_left; focus (intro w; go_simp; try with_reducible rfl); (try simp only [List.getElem_toArray, List.getElem_cons_succ, List.getElem_cons_zero, Act.put, List.setIfInBounds_toArray, List.set_cons_zero, List.set_cons_succ])); (refine wpAny_take (i := 1) (v := ?_) rfl (by kernel_rfl) (by kernel_rfl) (by kernel_rfl) (fun _ _ _ h => h) (Or.inl ⟨by kernel_rfl, ?_⟩) ?_; rotate_left; focus (intro w; go_simp; try with_reducible rfl); (try simp only [List.getElem_toArray, List.getElem_cons_succ, List.getElem_cons_zero, Act.put, List.setIfInBounds_toArray, List.set_cons_zero, List.set_cons_succ])); (refine wpAny_take (i := 2) (v := ?_) rfl (by kernel_rfl) (by kernel_rfl) (by kernel_rfl) (fun _ _ _ h => h) (Or.inl ⟨by kernel_rfl, ?_⟩) ?_; rotate_left; focus (intro w; go_simp; try with_reducible rfl); (try simp only [List.getElem_toArray, List.getElem_cons_succ, List.getElem_cons_zero, Act.put, List.setIfInBounds_toArray, List.set_cons_zero, List.set_cons_succ])); (refine wpAny_take (i := 4) (v := ?_) rfl (by kernel_rfl) (by kernel_rfl) (by kernel_rfl) (fun _ _ _ h => h) (Or.inl ⟨by kernel_rfl, ?_⟩) ?_; rotate_left; focus (intro w; go_simp; try with_reducible rfl); (try simp only [List.getElem_toArray, List.getElem_cons_succ, List.getElem_cons_zero, Act.put, List.setIfInBounds_toArray, List.set_cons_zero, List.set_cons_succ])); (refine wpAny_take (i := 5) (v := ?_) rfl (by kernel_rfl) (by kernel_rfl) (by kernel_rfl) (fun _ _ _ h => h) (Or.inl ⟨by kernel_rfl, ?_⟩) ?_; rotate_left; focus (intro w; go_simp; try with_reducible rfl); (try simp only [List.getElem_toArray, List.getElem_cons_succ, List.getElem_cons_zero, Act.put, List.setIfInBounds_toArray, List.set_cons_zero, List.set_cons_succ]))
      (refine wpAny_take (i := 3) (v := ?_) rfl (by kernel_rfl) (by kernel_rfl) (by kernel_rfl) (fun _ _ _ h => h) (Or.inl ⟨by kernel_rfl, ?_⟩) ?_; rotate_left; focus (intro w; go_simp; try with_reducible rfl); (try simp only [List.getElem_toArray, List.getElem_cons_succ, List.getElem_cons_zero, Act.put, List.setIfInBounds_toArray, List.set_cons_zero, List.set_cons_succ])); (refine wpAny_take (i := 6) (v := ?_) rfl (by kernel_rfl) (by kernel_rfl) (by kernel_rfl) (fun _ _ _ h => h) (Or.inl ⟨by kernel_rfl, ?_⟩) ?_; rotate_left; focus (intro w; go_simp; try with_reducible rfl); (try simp only [List.getElem_toArray, List.getElem_cons_succ, List.getElem_cons_zero, Act.put, List.setIfInBounds_toArray, List.set_cons_zero, List.set_cons_succ]))
      clear hlo hhi
      refine wpAny_ready (rs := [7]) (by kernel_rfl) (by simp) (AllReady.cons rfl (fun K hK => ?_) AllReady.nil)
      have HK := Lib.hid hK; clear hK
      (try simp only [List.getElem_toArray, List.getElem_cons_succ, List.getElem_cons_zero, Act.put, List.setIfInBounds_toArray, List.set_cons_zero, List.set_cons_succ])
      rw [if_pos (by kernel_rfl)]
      refine oper_copy3 (w := wr.drew) (.tmp 41) (.tmp 44) 57 57 ?_ 85 Tryz.underlying57 HSZ.out g (k * 3) (F - k) (F - k) ⟨g, 0, none⟩ k F ?_ ?_ cur2 85 HC2.out (List.replicate (m * 3) (.int .i64 (-1))) m HM.out ?_ ?_ ?_ ?_ g w (Below.drew HB2.out) (Nat.le_refl _) ?_
      · rfl
      · rfl
      · rfl
      · simp
      · intro j v hj
        rw [List.getElem?_replicate] at hj
        split at hj
        · rename_i hjm
          injection hj with hj
          rw [add_pl g 0 j, Nat.zero_add, ← hj]
          have := HN2.out.2 j (by omega)
          rw [show wr.drew.cell? ⟨g, j, none⟩ = wr.cell? ⟨g, j, none⟩ from rfl, cell_of_row wr g j _ _ _ HC2.out]
          exact this
        · cases hj
      · have := HN2.out.1; simp; omega
      · intro v hv
        have := List.eq_of_mem_replicate hv
        subst this; rfl
      intro w4 hw4 hb4
      refine HK.out _ _ ?_
      clear HK K
      (try simp only [List.getElem_toArray, List.getElem_cons_succ, List.getElem_cons_zero, Act.put, List.setIfInBounds_toArray, List.set_cons_zero, List.set_cons_succ])
      rw [show goInt (m : Int) = .int .i64 (m : Int) from rfl]
      (refine wpAny_take (i := 8) (v := ?_) rfl (by kernel_rfl) (by kernel_rfl) (by kernel_rfl) (fun _ _ _ h => h) (Or.inl ⟨by kernel_rfl, ?_⟩) ?_; rotate_left; focus (intro w; go_simp; try with_reducible rfl); (try simp only [List.getElem_toArray, List.getElem_cons_succ, List.getElem_cons_zero, Act.put, List.setIfInBounds_toArray, List.set_cons_zero, List.set_cons_succ])); (refine wpAny_take (i := 9) (v := ?_) rfl (by kernel_rfl) (by kernel_rfl) (by kernel_rfl) (fun _ _ _ h => h) (Or.inl ⟨by kernel_rfl, ?_⟩) ?_; rotate_left; focus (intro w; go_simp; try with_reducible rfl); (try simp only [List.getElem_toArray, List.getElem_cons_succ, List.getElem_cons_zero, Act.put, List.setIfInBounds_toArray, List.set_cons_zero, List.set_cons_succ]))
      refine wpAny_done (by kernel_rfl) ?_ _
      (try simp only [List.getElem_toArray, List.getElem_cons_succ, List.getElem_cons_zero, Act.put, List.setIfInBounds_toArray, List.set_cons_zero, List.set_cons_succ])
      have H4 := Lib.hid (And.intro hw4.out HST.out)
      clear hw4 HST HM HC2 HN2 HB2
      go_wp2_with fail
      go_roundw
      case rel => exact Lib.hid ⟨k + m, rfl, by omega, hm2, ⟨_, H4.out.1, H4.out.2⟩, hb4⟩
      case measure => simp [intOf]; omega
    · obtain rfl : k = F := by omega
      have hc := hn2.all
      rw [hc] at hc2
      have HC := Lib.hid hc2; clear hc2 hc hn2
      have HB2 := Lib.hid hb2; clear hb2
      go_wp2_with fail
      go_ret
      exact ⟨g, rfl, HC.out, by rw [HG.out]; exact Nat.le_refl _, by rw [HG.out]; exact HB2.out⟩
end Go.Proofs.YtgkkjlpfkoplhaaGreatDoor.Pn
