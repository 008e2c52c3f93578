/-
  Frames: the first break with so many points: the program's.
-/
import Derived.Test.YtaplkciomagmiabDoorFwImp
namespace Go.Proofs.YtaplkciomagmiabDoor
open Go.RowKit
set_option linter.unusedVariables false
set_option linter.unusedSimpArgs false

def okB (m : Nat) (p : Int) (c : UInt8) : Bool := decide (0 ≤ p - scB c) && decide (0 < bp m (p - scB c))
/-- The first break with p points. -/
def firstP : Nat → Int → List UInt8
  | 0, _ => []
  | m + 1, p => if p ≤ 0 then [] else match (nextL (m + 1)).find? (okB m p) with
    | none => []
    | some c => c :: firstP m (p - scB c)
theorem firstP_end (m : Nat) {p : Int} (h : p ≤ 0) : firstP m p = [] := by
  cases m with
  | zero => rfl
  | succ m => rw [firstP, if_pos h]
theorem firstP_some {m : Nat} {p : Int} {c : UInt8} (h0 : 0 < p) (h : (nextL (m + 1)).find? (okB m p) = some c) : firstP (m + 1) p = c :: firstP m (p - scB c) := by
  rw [firstP, if_neg (by omega), h]
theorem findU_drop {l : List UInt8} {p : UInt8 → Bool} {j : Nat} (h : j < l.length) : (l.drop j).find? p = if p (l.getD j 0) = true then some (l.getD j 0) else (l.drop (j + 1)).find? p := by
  rw [List.drop_eq_getElem_cons h, List.find?_cons]
  have e : l.getD j 0 = l[j] := by simp [h]
  rw [e]
  cases p l[j] <;> simp
theorem bp_zero (n : Nat) : 0 < bp n 0 := by
  cases n with
  | zero => decide
  | succ n =>
    have h := sumU_nn (fun c => bp n (0 - scB c)) (nextL (n + 1)) (fun c _ => bp_nn n _)
    show 0 < dlt 0 + _
    have : dlt 0 = 1 := rfl
    omega
theorem sumU_pos {f : UInt8 → Int} : ∀ {l : List UInt8}, (∀ d ∈ l, 0 ≤ f d) → 0 < sumU l f → ∃ d ∈ l, 0 < f d
  | [], _, h => by simp [sumU_nil] at h
  | d :: l, h0, h => by
    rw [sumU_cons] at h
    by_cases q : 0 < f d
    · exact ⟨d, by simp, q⟩
    · have := h0 d (by simp)
      obtain ⟨e, he, hq⟩ := sumU_pos (l := l) (fun e he => h0 e (by simp [he])) (by omega)
      exact ⟨e, by simp [he], hq⟩
theorem bp_more {m : Nat} (hm : m ≤ 36) {p : Int} (h0 : 0 < p) (h : 0 < bp m p) : ∃ m', m = m' + 1 ∧ ∃ c, (nextL (m' + 1)).find? (okB m' p) = some c ∧ c ∈ nextL (m' + 1) ∧ 0 ≤ p - scB c ∧ 0 < bp m' (p - scB c) := by
  cases m with
  | zero =>
    exfalso
    have : bp 0 p = 0 := by show dlt p = 0; unfold dlt; rw [if_neg (by omega)]
    omega
  | succ m =>
    refine ⟨m, rfl, ?_⟩
    have e : bp (m + 1) p = sumU (nextL (m + 1)) fun c => bp m (p - scB c) := by
      show dlt p + _ = _
      unfold dlt; rw [if_neg (by omega), Int.zero_add]
    rw [e] at h
    obtain ⟨d, hd, hq⟩ := sumU_pos (fun c _ => bp_nn m _) h
    have hok : okB m p d = true := by
      unfold okB
      have : 0 ≤ p - scB d := Decidable.byContradiction fun z => by
        have := bp_neg m (by omega) (p - scB d) (by omega); omega
      rw [decide_eq_true this, decide_eq_true hq]; rfl
    cases hf : (nextL (m + 1)).find? (okB m p) with
    | none => exact absurd hok (by have := List.find?_eq_none.1 hf d hd; simpa using this)
    | some c =>
      have hc := List.find?_some hf
      unfold okB at hc
      simp at hc
      exact ⟨c, rfl, List.mem_of_find?_eq_some hf, by omega, hc.2⟩
theorem bp_none {m : Nat} (hm : m + 1 ≤ 36) {p : Int} (h0 : 0 < p) (h : bp (m + 1) p = 0) : (nextL (m + 1)).find? (okB m p) = none := by
  rw [List.find?_eq_none]
  intro c hc hok
  unfold okB at hok
  simp at hok
  have e : bp (m + 1) p = sumU (nextL (m + 1)) fun c => bp m (p - scB c) := by
    show dlt p + _ = _
    unfold dlt; rw [if_neg (by omega), Int.zero_add]
  rw [e] at h
  have key : ∀ l : List UInt8, c ∈ l → 0 < sumU l fun c => bp m (p - scB c) := by
    intro l
    induction l with
    | nil => intro hx; cases hx
    | cons d l ih =>
      intro hx
      rw [sumU_cons]
      rcases List.mem_cons.1 hx with rfl | hx
      · have := sumU_nn (fun c => bp m (p - scB c)) l (fun c _ => bp_nn m _); have := hok.2; omega
      · have := ih hx; have := bp_nn m (p - scB d); omega
  have := key _ hc
  omega
def pickP : Nat → Int → Option UInt8
  | 0, _ => none
  | m + 1, p => (nextL (m + 1)).find? (okB m p)
def pickD : Nat → Int → Nat → Option UInt8
  | 0, _, _ => none
  | m + 1, p, q => ((nextL (m + 1)).drop q).find? (okB m p)
theorem pickD_zero (m : Nat) (p : Int) : pickD m p 0 = pickP m p := by cases m <;> rfl
theorem pickD_end (m : Nat) (p : Int) : pickD m p (nextL m).length = none := by
  cases m with
  | zero => rfl
  | succ m =>
    show ((nextL (m + 1)).drop (nextL (m + 1)).length).find? (okB m p) = none
    rw [List.drop_length]; rfl
def fbV : Option UInt8 → Value
  | none => .tuple #[.int .i32 0, .bool false]
  | some c => .tuple #[.int .i32 c.toNat, .bool true]
theorem FrAt.iter2 {w : World} {g k : Nat} {r : Int} {c : Bool} {l : Int} (h : FrAt w g r c l) (hne : g ≠ k) (s : ByteArray) (pos : Nat) : FrAt (w.iterAt k s pos) g r c l := by
  unfold FrAt at *; rw [Lib.iterAt_other _ _ _ _ _ hne]; exact h

set_option maxRecDepth 100000 in
set_option maxHeartbeats 6400000 in
theorem firstBall_any (m p : Nat) (hm : m ≤ 36) (hp : p ≤ 147) (w : World) :
    Calls Tryd.prog 34 #[frV m, .int .i64 p] w fun e w' => e = .returned (fbV (pickP m p)) ∧ Below w.heap.size w w' := by
  have HN := Lib.hid (ballsToPot_n m)
  have A0 := FrAt.new w (frR m) (frC m) (frL m)
  have b0 := below_new w (.cells #[.int .i64 (frR m), .bool (frC m), .int .i64 (frL m)] 29)
  have hlen0 := next_size_len m
  have hlen6 := nextL_len6 hm
  obtain ⟨R, hR⟩ : ∃ R, R = pickP m p := ⟨_, rfl⟩
  rw [← hR]
  have HR := Lib.hid hR; clear hR
  go_enter Tryd.func34, Tryd.ntmps34
  go_wp2_with fail
  refine (HN.out _).mono ?_; rintro e w1 ⟨rfl, b1⟩
  have H1 := Lib.hid (And.intro (A0.keep b1) (b0.trans (b1.mono b0.size))); clear A0 b0 b1
  obtain ⟨K, hK⟩ : ∃ K, K = w1.heap.size := ⟨_, rfl⟩
  have HS : Hid (FrAt (w1.iter (nextS m) 0) w.heap.size (frR m) (frC m) (frL m) ∧ (w1.iter (nextS m) 0).heap[K]? = some (.stringIter (nextS m) 0) ∧ Below w.heap.size w (w1.iter (nextS m) 0)) := Lib.hid ⟨H1.out.1.old _, by rw [hK]; exact World.iter_heap _ _ _, H1.out.2.alloc H1.out.2.size _⟩
  have HKK : Hid (w.heap.size < K) := Lib.hid (by rw [hK]; exact H1.out.1.lt)
  clear H1
  go_wp2_with fail
  rw [← hK]
  have HKe := Lib.hid hK; clear hK
  go_loopw [7] (fun _ wr => ∃ q : Nat, q ≤ (nextL m).length ∧ Hid (R = pickD m p q) ∧ Hid (FrAt wr w.heap.size (frR m) (frC m) (frL m) ∧ wr.heap[K]? = some (.stringIter (nextS m) q) ∧ Below w.heap.size w wr)) (fun _ wr => (nextL m).length - wr.iterPos K)
  case atStart => exact ⟨0, Nat.zero_le _, Lib.hid (by rw [HR.out, pickD_zero]), HS⟩
  case round =>
    clear HS HR
    obtain ⟨q, hq, hR, hQ⟩ := hrel
    have hit := hQ.out.2.1
    have HIP := Lib.hid (iterPos_of hit)
    by_cases hql : q < (nextL m).length
    · obtain ⟨m, rfl⟩ : ∃ m', m = m' + 1 := ⟨m - 1, by
        have : m ≠ 0 := fun z => by subst z; simp [nextL_0] at hql
        omega⟩
      have hR2 : R = ((nextL (m + 1)).drop q).find? (okB m p) := hR.out
      rw [findU_drop hql] at hR2
      have hqs : q < (nextS (m + 1)).size := by rw [hlen0]; exact hql
      have hby := next_byte hql
      have hcb := scB_next (n := m + 1) hm ((nextL (m + 1)).getD q 0) (by simp [hql])
      have hasc0 : ((nextL (m + 1)).getD q 0).toNat < 128 := by unfold scB at hcb; omega
      have hnx := fun ty => Lib.run_next_ascii_at (P := Tryd.prog) wr K (nextS (m + 1)) q ty hit hqs (by rw [hby]; exact hasc0)
      rw [hby] at hnx
      generalize (nextL (m + 1)).getD q 0 = ch at *
      have hbyc : (ch.toNat : Int) = scB ch + 48 := by unfold scB; omega
      obtain ⟨s, hs⟩ : ∃ s : Nat, scB ch = (s : Int) := ⟨(scB ch).toNat, by omega⟩
      rw [hs] at hcb hbyc
      have hok : okB m p ch = (decide (0 ≤ (p : Int) - s) && decide (0 < bp m ((p : Int) - s))) := by unfold okB; rw [hs]
      have hit1 := Lib.iterAt_heap wr K (nextS (m + 1)) q (q + 1) hit
      have HW1 : Hid (FrAt (wr.iterAt K (nextS (m + 1)) (q + 1)) w.heap.size (frR (m + 1)) (frC (m + 1)) (frL (m + 1)) ∧ (wr.iterAt K (nextS (m + 1)) (q + 1)).heap[K]? = some (.stringIter (nextS (m + 1)) (q + 1)) ∧ Below w.heap.size w (wr.iterAt K (nextS (m + 1)) (q + 1))) := Lib.hid ⟨hQ.out.1.iter2 (by have := HKK.out; omega) _ _, hit1, Lib.below_iterAt hQ.out.2.2 (by have := HKK.out; omega) _ _⟩
      have HBeh := Lib.hid (frameBehind_n m (by omega))
      have HBy := Lib.hid (byPoints_any m (by omega))
      have hfb : fbV (some ch) = .tuple #[.int .i32 ((s : Int) + 48), .bool true] := by show Value.tuple #[.int .i32 (ch.toNat : Int), .bool true] = _; rw [hbyc]
      rw [hbyc] at hnx
      clear hit hit1 hQ hs hby hasc0 hbyc hR
      generalize wr.iterAt K (nextS (m + 1)) (q + 1) = wa at *
      have hr0 : (0 : Int) ≤ (s : Int) + 48 := by omega
      have hsc : (s : Int) + 48 - 48 = (s : Int) := by omega
      by_cases hr : 0 ≤ (p : Int) - s
      · obtain ⟨r, hrr⟩ : ∃ r : Nat, (p : Int) - (s : Int) = (r : Int) := ⟨((p : Int) - s).toNat, by omega⟩
        have hix : ∀ w, (Instr.index 52 (.agg (ptA m)) (.int .i64 (r : Int))).run Tryd.prog w = .ok (.int .i64 (bp m r)) w := fun w => index_pt m r (by omega) w
        rw [decide_eq_true hr, Bool.true_and, hrr] at hok
        have HIX := Lib.hid hix; clear hix
        rw [hrr] at hr
        obtain ⟨d0, d1, d2, -, -, -⟩ := HW1.out.1.cells
        by_cases hy : 0 < bp m (r : Int)
        · rw [decide_eq_true hy] at hok
          rw [if_pos hok] at hR2
          have HR2 := Lib.hid (And.intro hR2 hfb)
          clear hok hR2 hfb
          generalize bp m (r : Int) = y at *
          go_wp2_with fail
          refine (ballScore_any ((s : Int) + 48) hr0 (by omega) _).mono ?_; rintro e w7 ⟨rfl, rfl⟩
          rw [hsc]
          go_wp2_with fail
          refine (HBeh.out _).mono ?_; rintro e w8 ⟨rfl, b8⟩
          go_wp2_with fail
          refine (HBy.out _).mono ?_; rintro e w9 ⟨rfl, b9⟩
          have hix := HIX.out
          have H9 := Lib.hid ((HW1.out.2.2.trans (b8.mono HW1.out.2.2.size)).trans (b9.mono (by have := HW1.out.2.2.size; have := b8.size; omega)))
          clear b8 b9 d0 d1 d2 HW1
          go_wp2_with fail
          go_ret2
          exact ⟨by rw [HR2.out.1, HR2.out.2]; rfl, H9.out⟩
        · rw [decide_eq_false hy] at hok
          rw [if_neg (by rw [hok]; simp)] at hR2
          have HR2 := Lib.hid hR2
          clear hok hR2 hfb
          generalize bp m (r : Int) = y at *
          go_wp2_with fail
          refine (ballScore_any ((s : Int) + 48) hr0 (by omega) _).mono ?_; rintro e w7 ⟨rfl, rfl⟩
          rw [hsc]
          go_wp2_with fail
          refine (HBeh.out _).mono ?_; rintro e w8 ⟨rfl, b8⟩
          go_wp2_with fail
          refine (HBy.out _).mono ?_; rintro e w9 ⟨rfl, b9⟩
          have hix := HIX.out
          have H9 : Hid (FrAt w9 w.heap.size (frR (m + 1)) (frC (m + 1)) (frL (m + 1)) ∧ w9.heap[K]? = some (.stringIter (nextS (m + 1)) (q + 1)) ∧ Below w.heap.size w w9) := by
            have hlt : K < wa.heap.size := (Array.getElem?_eq_some_iff.1 HW1.out.2.1).1
            exact Lib.hid ⟨(HW1.out.1.keep b8).keep b9, by rw [b9.block K (by have := b8.size; omega), b8.block K hlt]; exact HW1.out.2.1, (HW1.out.2.2.trans (b8.mono HW1.out.2.2.size)).trans (b9.mono (by have := HW1.out.2.2.size; have := b8.size; omega))⟩
          clear b8 b9 d0 d1 d2 HW1
          go_wp2_with fail
          go_roundw
          case rel => exact ⟨q + 1, by omega, HR2, H9⟩
          case measure => rw [iterPos_of H9.out.2.1, HIP.out]; omega
      · rw [decide_eq_false hr, Bool.false_and] at hok
        rw [if_neg (by rw [hok]; simp)] at hR2
        have HR2 := Lib.hid hR2
        clear hok hR2 hfb
        go_wp2_with fail
        refine (ballScore_any ((s : Int) + 48) hr0 (by omega) _).mono ?_; rintro e w7 ⟨rfl, rfl⟩
        rw [hsc]
        go_wp2_with fail
        go_roundw
        case rel => exact ⟨q + 1, by omega, HR2, HW1⟩
        case measure => rw [iterPos_of HW1.out.2.1, HIP.out]; omega
    · obtain rfl : q = (nextL m).length := by omega
      have hnx := fun ty => Lib.run_next_end_at (P := Tryd.prog) wr K (nextS m) (nextL m).length ty hit (by rw [hlen0]; omega)
      have hRn : R = none := by rw [hR.out, pickD_end]
      have HF := Lib.hid (And.intro hRn hQ.out.2.2)
      have hqlf : ¬ (nextL m).length < (nextL m).length := hql
      clear hit hQ hR hRn
      go_wp2_with fail
      go_ret2
      exact ⟨by rw [HF.out.1]; rfl, HF.out.2⟩
end Go.Proofs.YtaplkciomagmiabDoor
