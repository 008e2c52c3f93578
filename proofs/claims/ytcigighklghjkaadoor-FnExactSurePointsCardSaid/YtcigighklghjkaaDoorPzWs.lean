/-
  Puzzles: the clues without one: the model.
-/
import Derived.Test.YtcigighklghjkaaDoorPzWo
namespace Go.Proofs.YtcigighklghjkaaDoor
open Go.RowKit
set_option linter.unusedVariables false
set_option linter.unusedSimpArgs false

theorem wp_append_clu {w : World} {o : Oper} {a : Act} {K : Act → World → Prop} {Q : Exit → Act → World → Prop} (s x : Operand)
    (ho : o.op = .call { callee := .builtin .append, args := #[s, x], argTypes := #[36, 36] })
    (B : Nat) (w0 : World) (v : Value) (n : Nat) (xs ys : List Cl) (ad : Option Addr) (m c : Nat) (hs : a.eval s = v) (hx : a.eval x = .slice ad m c) (hm : m = ys.length)
    (hown : w.ownsRow B 26 3 v n (clus xs)) (hr : Reads w ad (clus ys)) (hbel : Below B w0 w) (hB : B ≤ w.heap.size) (hsz : n + ys.length ≤ 4000000) (hne : ad ≠ none)
    (h : ∀ v' w', w'.ownsRow B 26 3 v' (n + ys.length) (clus (xs ++ ys)) → Below B w0 w' → w.grownBy w' v.ownBlock → K (a.put o.dst v') w') :
    o.wp Tryd.prog a w K Q := by
  subst hm
  obtain ⟨i0, hi, hz0, hz1, hz2⟩ := info_parts infoClue
  cases ad with
  | none => exact absurd rfl hne
  | some ad =>
    have hnews : ∀ j u, (clus ys)[j]? = some u → w.cell? (ad.add j) = some u := by
      intro j u hj
      rcases hr with hr | ⟨b, off, he, hlt, hc⟩
      · rw [hr] at hj; simp at hj
      · cases he
        have hjl : j < (clus ys).length := (List.getElem?_eq_some_iff.1 hj).1
        have e : (⟨b, off, none⟩ : Addr).add j = ⟨b, off + j, none⟩ := by unfold Addr.add; split <;> simp_all
        rw [e, hc j hjl, hj]
    obtain ⟨v', w', hrun, h2, h3, h4, h5⟩ := run_append_own_at (P := Tryd.prog) w B 36 o.type 26 i0 (.agg #[.int .i64 0, .int .i64 0, .int .i64 0]) 3 24 Tryd.underlying36 hi hz0 hz1 hz2 rfl (by decide) v n (clus xs) hown ad ys.length c (clus ys) (by rw [clus_len]; omega) hnews clus_one (by unfold maxLen; omega) (by omega) hB
    refine Lib.wp_append_run w s x _ _ ho v _ hs hx v' w' hrun (h v' w' (by rw [clus_append]; exact h2) (hbel.grown h3 hB (fun g hg => ?_)) h3)
    obtain ⟨_, h | ⟨g', cap, cur, hv, hb', _⟩⟩ := hown
    · rw [h.1] at hg; cases hg
    · rw [hv] at hg; simp [Value.ownBlock] at hg; omega

theorem run_upto (ad : Option Addr) (n c k : Nat) (hk : k ≤ c) (W : World) : (Instr.slice 36 (.slice ad n c) none (some (.int .i64 (k : Int))) none).run Tryd.prog W = .ok (.slice (if c = 0 then ad else ad.map (·.add 0)) k c) W := by
  obtain ⟨i0, hi0, -, -, -⟩ := info_parts infoClue
  have h1 := run_sizeOf (P := Tryd.prog) (w := W) hi0
  have e1 : (0 : Int) ≤ (k : Int) := by omega
  have e2 : (k : Int) ≤ (c : Int) := by omega
  simp [Instr.slice, run_underlying Tryd.underlying36, Instr.sliceBounds, run_sliceBound, h1, e1, e2, hk]
theorem run_from (ad : Option Addr) (n c k : Nat) (hk : k ≤ n) (W : World) : (Instr.slice 36 (.slice ad n c) (some (.int .i64 (k : Int))) none none).run Tryd.prog W = .ok (.slice (cutA ad k c) (n - k) (c - k)) W := by
  obtain ⟨i0, hi0, -, -, -⟩ := info_parts infoClue
  have h1 := run_sizeOf (P := Tryd.prog) (w := W) hi0
  rw [show Tryd.prog.cellsOf 26 = 3 from by kernel_rfl] at h1
  have e1 : (0 : Int) ≤ (k : Int) := by omega
  have e2 : (k : Int) ≤ (n : Int) := by omega
  simp [Instr.slice, run_underlying Tryd.underlying36, Instr.sliceBounds, run_sliceBound, h1, e1, e2, hk, cutA]
theorem upto_same (ad : Option Addr) (c : Nat) : (if c = 0 then ad else ad.map (·.add 0)) = ad := by
  split
  · rfl
  · cases ad with
    | none => rfl
    | some a => simp [Addr.add]
theorem reads_from {w : World} {ad : Option Addr} {l : List Cl} (h : Reads w ad (clus l)) {k c : Nat} (hk : k ≤ l.length) (hc : l.length ≤ c) : Reads w (cutA ad k c) (clus (l.drop k)) := by
  by_cases e : c = k
  · left; rw [List.drop_of_length_le (by omega)]; rfl
  · by_cases e2 : l.length = k
    · left; rw [List.drop_of_length_le (by omega)]; rfl
    · have h2 := reads_cut h (i := k) (j := l.length) hk (Nat.le_refl _)
      rw [partL_from] at h2
      unfold cutA at h2 ⊢
      rw [if_neg e2] at h2
      rw [if_neg e]; exact h2
theorem reads_upto {w : World} {ad : Option Addr} {l : List Cl} (h : Reads w ad (clus l)) (k : Nat) : Reads w ad (clus (l.take k)) := by
  by_cases hk : k ≤ l.length
  · rcases h with h | ⟨b, off, rfl, hlt, hc⟩
    · left; rw [clus_nil h]; simp [clus, flatC, ints]
    · refine .inr ⟨b, off, rfl, hlt, fun j hj => ?_⟩
      have h1 := clus_len l
      have h2 := clus_len (l.take k)
      rw [List.length_take] at h2
      rw [hc j (by omega), clus_take l k hk, List.getElem?_take_of_lt (by omega)]
  · rw [List.take_of_length_le (by omega)]; exact h
theorem clus_empty (w : World) : (w.alloc (.cells #[] 26)).ownsRow w.heap.size 26 3 (.slice (some ⟨w.heap.size, 0, none⟩) 0 0) 0 (clus []) := owns_fresh w 26 3

set_option maxHeartbeats 3200000 in
theorem pzWithout_any (l : List Cl) (ad : Option Addr) (c k : Nat) (w : World) (hl : l.length ≤ 1000) (hlc : l.length ≤ c) (hk : k < l.length) (hr : Reads w ad (clus l)) :
    Calls Tryd.prog 65 #[.slice ad l.length c, .int .i64 k] w fun e w' => ∃ a c', e = .returned (.slice a (dropC l k).length c') ∧ w'.ownsRow w.heap.size 26 3 (.slice a (dropC l k).length c') (dropC l k).length (clus (dropC l k)) ∧ Below w.heap.size w w' := by
  have hn : ad ≠ none := by
    rcases hr with h | ⟨b, off, rfl, -, -⟩
    · rw [clus_nil h] at hk; simp at hk
    · simp
  obtain ⟨M, hM⟩ : ∃ M, M = k + 1 := ⟨_, rfl⟩
  have K4 : IntKind.i64.wrap ((k : Int) + 1) = (M : Int) := by rw [IntKind.wrap_i64]; omega
  have s1 := run_upto ad l.length c k (by omega)
  rw [upto_same] at s1
  have s2 := run_from ad l.length c M (by omega)
  have hd : dropC l k = l.take k ++ l.drop M := by rw [hM]; rfl
  have hlk : (l.take k).length = k := by rw [List.length_take]; omega
  have HR := Lib.hid (And.intro (fun W (hb : Below w.heap.size w W) => reads_upto (hr.old hb) k) (And.intro (fun W (hb : Below w.heap.size w W) => reads_from (hr.old hb) (k := M) (c := c) (by omega) hlc) (And.intro hn (And.intro (cutA_some (i := M) (j := c) hn) (And.intro hd hlk)))))
  have HM := Lib.hid (And.intro hM (And.intro hk hl)); clear hM hd hlk hr hn
  generalize cutA ad M c = a2 at *
  have HO := Lib.hid (And.intro (clus_empty w.drew) ((Below.drew (Below.refl w.heap.size w)).alloc (Nat.le_refl _) (.cells #[] 26)))
  go_enter Tryd.func65, Tryd.ntmps65
  go_wp2_with fail
  refine wp_region_held_drew (S := fun _ => True) (by kernel_rfl) trivial (fun hHeld => ?_)
  (refine wpAnyH_take (i := 1) (v := ?_) rfl (by kernel_rfl) (by kernel_rfl) (by kernel_rfl) (fun _ _ _ h => h) (Or.inl ⟨by kernel_rfl, ?_⟩) (by assumption) ?_; rotate_left; focus (intro w hSw; (try dsimp only at hSw); go_simp; try with_reducible rfl); (try simp only [List.getElem_toArray, List.getElem_cons_succ, List.getElem_cons_zero, Act.put, List.setIfInBounds_toArray, List.set_cons_zero, List.set_cons_succ])); (refine wpAnyH_take (i := 2) (v := ?_) rfl (by kernel_rfl) (by kernel_rfl) (by kernel_rfl) (fun _ _ _ h => h) (Or.inl ⟨by kernel_rfl, ?_⟩) (by assumption) ?_; rotate_left; focus (intro w hSw; (try dsimp only at hSw); go_simp; try with_reducible rfl); (try simp only [List.getElem_toArray, List.getElem_cons_succ, List.getElem_cons_zero, Act.put, List.setIfInBounds_toArray, List.set_cons_zero, List.set_cons_succ])); (refine wpAnyH_take (i := 3) (v := ?_) rfl (by kernel_rfl) (by kernel_rfl) (by kernel_rfl) (fun _ _ _ h => h) (Or.inl ⟨by kernel_rfl, ?_⟩) (by assumption) ?_; rotate_left; focus (intro w hSw; (try dsimp only at hSw); go_simp; try with_reducible rfl); (try simp only [List.getElem_toArray, List.getElem_cons_succ, List.getElem_cons_zero, Act.put, List.setIfInBounds_toArray, List.set_cons_zero, List.set_cons_succ])); (refine wpAnyH_take (i := 5) (v := ?_) rfl (by kernel_rfl) (by kernel_rfl) (by kernel_rfl) (fun _ _ _ h => h) (Or.inl ⟨by kernel_rfl, ?_⟩) (by assumption) ?_; rotate_left; focus (intro w hSw; (try dsimp only at hSw); go_simp; try with_reducible rfl); (try simp only [List.getElem_toArray, List.getElem_cons_succ, List.getElem_cons_zero, Act.put, List.setIfInBounds_toArray, List.set_cons_zero, List.set_cons_succ])); (refine wpAnyH_take (i := 6) (v := ?_) rfl (by kernel_rfl) (by kernel_rfl) (by kernel_rfl) (fun _ _ _ h => h) (Or.inl ⟨by kernel_rfl, ?_⟩) (by assumption) ?_; rotate_left; focus (intro w hSw; (try dsimp only at hSw); go_simp; try with_reducible rfl); (try simp only [List.getElem_toArray, List.getElem_cons_succ, List.getElem_cons_zero, Act.put, List.setIfInBounds_toArray, List.set_cons_zero, List.set_cons_succ])); (refine wpAnyH_take (i := 7) (v := ?_) rfl (by kernel_rfl) (by kernel_rfl) (by kernel_rfl) (fun _ _ _ h => h) (Or.inl ⟨by kernel_rfl, ?_⟩) (by assumption) ?_; rotate_left; focus (intro w hSw; (try dsimp only at hSw); go_simp; try with_reducible rfl); (try simp only [List.getElem_toArray, List.getElem_cons_succ, List.getElem_cons_zero, Act.put, List.setIfInBounds_toArray, List.set_cons_zero, List.set_cons_succ])); (refine wpAnyH_take (i := 8) (v := ?_) rfl (by kernel_rfl) (by kernel_rfl) (by kernel_rfl) (fun _ _ _ h => h) (Or.inl ⟨by kernel_rfl, ?_⟩) (by assumption) ?_; rotate_left; focus (intro w hSw; (try dsimp only at hSw); go_simp; try with_reducible rfl); (try simp only [List.getElem_toArray, List.getElem_cons_succ, List.getElem_cons_zero, Act.put, List.setIfInBounds_toArray, List.set_cons_zero, List.set_cons_succ]))
  refine wpAnyH_ready (rs := [0]) (by kernel_rfl) (by simp) ?_; refine AllReadyH.cons rfl (fun K hK => ?_) AllReadyH.nil
  go_simp
  first
    | refine hK.out _ _ trivial (fun hHeld => ?_)
    | refine hK _ _ trivial (fun hHeld => ?_)
  clear hK K
  (try simp only [List.getElem_toArray, List.getElem_cons_succ, List.getElem_cons_zero, Act.put, List.setIfInBounds_toArray, List.set_cons_zero, List.set_cons_succ])
  refine wpAnyH_ready (rs := [4]) (by kernel_rfl) (by simp) ?_; refine AllReadyH.cons rfl (fun K hK => ?_) AllReadyH.nil
  refine wp_append_clu _ _ rfl w.heap.size w _ 0 [] (l.take k) ad k c rfl rfl HR.out.2.2.2.2.2.symm HO.out.1 (HR.out.1 _ HO.out.2) HO.out.2 HO.out.2.size (by rw [HR.out.2.2.2.2.2]; have := HM.out; omega) HR.out.2.2.1 ?_
  intro v4 w4 o4 b4 g4
  rw [Nat.zero_add, HR.out.2.2.2.2.2, List.nil_append] at o4
  have H4 := Lib.hid (And.intro o4 b4); clear o4 b4 g4 HO
  first
    | refine hK.out _ _ trivial (fun hHeld => ?_)
    | refine hK _ _ trivial (fun hHeld => ?_)
  clear hK K
  (try simp only [List.getElem_toArray, List.getElem_cons_succ, List.getElem_cons_zero, Act.put, List.setIfInBounds_toArray, List.set_cons_zero, List.set_cons_succ])
  refine wpAnyH_ready (rs := [9]) (by kernel_rfl) (by simp) ?_; refine AllReadyH.cons rfl (fun K hK => ?_) AllReadyH.nil
  refine wp_append_clu _ _ rfl w.heap.size w _ k (l.take k) (l.drop M) a2 (l.length - M) (c - M) rfl rfl (by rw [List.length_drop]) H4.out.1 (HR.out.2.1 _ H4.out.2) H4.out.2 H4.out.2.size (by rw [List.length_drop]; have := HM.out; omega) HR.out.2.2.2.1 ?_
  intro v5 w5 o5 b5 g5
  have hln : k + (l.drop M).length = (dropC l k).length := by rw [HR.out.2.2.2.2.1, List.length_append, HR.out.2.2.2.2.2]
  rw [hln, ← HR.out.2.2.2.2.1] at o5
  obtain ⟨a3, c3, rfl, hc3, hrd3, -⟩ := own_cap o5
  have H5 := Lib.hid (And.intro o5 b5); clear o5 b5 g5 hln hrd3 hc3 H4
  first
    | refine hK.out _ _ trivial (fun hHeld => ?_)
    | refine hK _ _ trivial (fun hHeld => ?_)
  clear hK K
  (try simp only [List.getElem_toArray, List.getElem_cons_succ, List.getElem_cons_zero, Act.put, List.setIfInBounds_toArray, List.set_cons_zero, List.set_cons_succ])
  (refine wpAnyH_take (i := 10) (v := ?_) rfl (by kernel_rfl) (by kernel_rfl) (by kernel_rfl) (fun _ _ _ h => h) (Or.inl ⟨by kernel_rfl, ?_⟩) (by assumption) ?_; rotate_left; focus (intro w hSw; (try dsimp only at hSw); go_simp; try with_reducible rfl); (try simp only [List.getElem_toArray, List.getElem_cons_succ, List.getElem_cons_zero, Act.put, List.setIfInBounds_toArray, List.set_cons_zero, List.set_cons_succ]))
  refine wpAnyH_done (by kernel_rfl) ?_ _
  go_wp2_with fail
  go_ret
  exact ⟨a3, c3, rfl, H5.out.1, H5.out.2⟩
end Go.Proofs.YtcigighklghjkaaDoor
