/-
  Pins: frames that are left: what is behind one, its points.
-/
import Derived.Test.YthbkclgdoopbpaaPtEnd
import Derived.Test.YthbkclgdoopbpaaObAt
import Derived.StillTailTactics
import Derived.Deep.RegionHeld3
namespace Go.Proofs.Ythbkclgdoopbpaa
open Go.RowKit
set_option linter.unusedVariables false
set_option linter.unusedSimpArgs false

theorem wholeGame_any (m : Int) (w : World) : Calls Try.prog 37 #[.int .i64 m] w fun e w' => e = .returned (.agg #[.int .i64 m, .int .i64 1, .int .i64 1, .int .i64 1]) ∧ Below w.heap.size w w' := by
  go_enter Try.func37, Try.ntmps37
  go_wp2_with fail
  refine bodyPost_ret (v := .agg #[.int .i64 m, .int .i64 1, .int .i64 1, .int .i64 1]) (by simp [results, Try.results37, go_sem, *]) rfl ⟨rfl, by (repeat (first | exact Below.refl _ _ | exact ‹Below _ _ _› | refine Below.drew ?_ | refine Below.alloc ?_ (by first | omega | (simp; done) | (simp; omega)) _ | refine Below.setCell ?_ (by first | omega | (simp; done) | (simp; omega)) _ | refine Below.trans ?_ (Below.mono ‹Below _ _ _› (by first | omega | (simp; done) | (simp; omega)))))⟩

/-- Frames that are left, as a value. -/
def lfV (m s : Nat) : Value := .agg #[.int .i64 (m : Int), .int .i64 (oneT s : Int), .int .i64 (twoT s : Int), .int .i64 1]
def bsI (f : List Nat) : List Int := f.map fun (x : Nat) => (x : Int)
theorem bsI_len (f : List Nat) : (bsI f).length = f.length := by simp [bsI]
theorem bsI_get (f : List Nat) {k : Nat} (h : k < f.length) : (bsI f).getD k (-1) = (f.getD k 0 : Nat) := by simp [bsI, h]
theorem bsI_inj {f g : List Nat} (h : bsI f = bsI g) : f = g := by
  unfold bsI at h
  exact List.map_inj_right (fun _ _ h => Int.ofNat.inj h) |>.1 h
def shapeF (f : List Nat) : Bool := (f.length == 1 && f.getD 0 0 == 10) || ((f.length == 2 || f.length == 3) && decide (f.getD 0 0 ≤ 10) && decide (f.getD 1 0 ≤ 10) && decide (f.getD 2 0 ≤ 10))
theorem frN_shape : ∀ f ∈ frN, shapeF f = true := by decide +kernel
theorem frL_shape : ∀ f ∈ frL, shapeF f = true := by decide +kernel
theorem frs_shape {m : Nat} {f : List Nat} (h : f ∈ frs m) : shapeF f = true := by
  unfold frs at h
  split at h
  · exact frL_shape f h
  · exact frN_shape f h
/-- The three shapes. -/
theorem shape_cases {f : List Nat} (h : shapeF f = true) : f = [10] ∨ (∃ a b, f = [a, b] ∧ a ≤ 10 ∧ b ≤ 10) ∨ ∃ a b c, f = [a, b, c] ∧ a ≤ 10 ∧ b ≤ 10 ∧ c ≤ 10 := by
  match f, h with
  | [], h => simp [shapeF] at h
  | [a], h => simp [shapeF] at h; exact .inl (by rw [h])
  | [a, b], h => simp [shapeF] at h; exact .inr (.inl ⟨a, b, rfl, h.1, h.2⟩)
  | [a, b, c], h => simp [shapeF] at h; exact .inr (.inr ⟨a, b, c, rfl, h.1.1, h.1.2, h.2⟩)
  | a :: b :: c :: d :: r, h => simp [shapeF] at h
theorem shape_small {f : List Nat} (h : shapeF f = true) : smallB (bsI f) := by
  rcases shape_cases h with rfl | ⟨a, b, rfl, h1, h2⟩ | ⟨a, b, c, rfl, h1, h2, h3⟩
  · exact ⟨by simp [bsI], by simp [bsI]⟩
  · exact ⟨by simp [bsI], by simp [bsI]; omega⟩
  · exact ⟨by simp [bsI], by simp [bsI]; omega⟩

def ptsK (bs t : List Int) : Nat → Int
  | 0 => 0
  | k + 1 => ptsK bs t k + bs.getD k (-1) * t.getD k 0
theorem ptsK_all {f : List Nat} (h : shapeF f = true) (s : Nat) : ptsK (bsI f) [(oneT s : Int), (twoT s : Int), 1] f.length = (ptsF s f : Nat) := by
  rcases shape_cases h with rfl | ⟨a, b, rfl, h1, h2⟩ | ⟨a, b, c, rfl, h1, h2, h3⟩
  · simp [ptsK, bsI, ptsF]
  · simp [ptsK, bsI, ptsF]
  · simp [ptsK, bsI, ptsF]
theorem ptsK_bd {bs t : List Int} (h : smallB bs) (ht : ∀ k, 0 ≤ t.getD k 0 ∧ t.getD k 0 ≤ 3) : ∀ k, k ≤ bs.length → 0 ≤ ptsK bs t k ∧ ptsK bs t k ≤ 30 * k
  | 0, _ => by simp [ptsK]
  | k + 1, hk => by
    have h1 := ptsK_bd h ht k (by omega)
    have h2 : 0 ≤ bs.getD k (-1) ∧ bs.getD k (-1) ≤ 10 := by
      have : bs.getD k (-1) ∈ bs := by rw [List.getD_eq_getElem?_getD, List.getElem?_eq_getElem (by omega)]; simp
      exact h.2 _ this
    have h3 := ht k
    have h4 : 0 ≤ bs.getD k (-1) * t.getD k 0 := Int.mul_nonneg h2.1 h3.1
    have h5 : bs.getD k (-1) * t.getD k 0 ≤ 10 * 3 := Int.mul_le_mul h2.2 h3.2 h3.1 (by omega)
    unfold ptsK
    push_cast
    omega

set_option maxHeartbeats 1600000 in
theorem points_any (f : List Nat) (s : Nat) (hs : shapeF f = true) (w : World) :
    Calls Try.prog 43 #[.agg #[.int .i64 (oneT s : Int), .int .i64 (twoT s : Int), .int .i64 1], frV (bsI f)] w fun e w' => e = .returned (.int .i64 (ptsF s f : Nat)) ∧ Below w.heap.size w w' := by
  have hsm := shape_small hs
  have hb := fun W => balls_any (bsI f) hsm W
  have htb : ∀ k, 0 ≤ ([(oneT s : Int), (twoT s : Int), 1] : List Int).getD k 0 ∧ ([(oneT s : Int), (twoT s : Int), 1] : List Int).getD k 0 ≤ 3 := by
    intro k
    obtain ⟨s1, s2, s3, s4, -⟩ := st_bd s
    match k with
    | 0 => simp; omega
    | 1 => simp; omega
    | 2 => simp
    | k + 3 => simp
  have hall := ptsK_all hs s
  have HPB := Lib.hid (fun k hk => ptsK_bd hsm htb k hk)
  have hl3 : f.length ≤ 3 := by have := hsm.1; rw [bsI_len] at this; exact this
  have HLN := Lib.hid (bsI_len f)
  have HSM := Lib.hid hsm
  rw [bsI_len] at hb
  rw [← hall]; clear hall hs hsm
  have HT0 := Lib.hid (show w.alloc (.cells #[.int .i64 (oneT s : Int), .int .i64 (twoT s : Int), .int .i64 1] 60) = w.alloc (.cells (ints [(oneT s : Int), (twoT s : Int), 1]).toArray 60) from rfl)
  generalize (oneT s : Int) = o1 at *
  generalize (twoT s : Int) = o2 at *
  have HTB := Lib.hid htb; clear htb
  rw [show frV (bsI f) = .agg #[.int .i64 ((bsI f).getD 0 (-1)), .int .i64 ((bsI f).getD 1 (-1)), .int .i64 ((bsI f).getD 2 (-1))] from rfl] at hb ⊢
  generalize (bsI f).getD 0 (-1) = x at *
  generalize (bsI f).getD 1 (-1) = y at *
  generalize (bsI f).getD 2 (-1) = z at *
  have HB := Lib.hid hb; clear hb
  have HW : Hid ((∀ k, k < 3 → ((w.alloc (.cells #[.int .i64 o1, .int .i64 o2, .int .i64 1] 60)).alloc (.cells #[.int .i64 x, .int .i64 y, .int .i64 z] 69)).cell? ⟨w.heap.size, k, none⟩ = some (.int .i64 (([o1, o2, 1] : List Int).getD k 0))) ∧ Below w.heap.size w ((w.alloc (.cells #[.int .i64 o1, .int .i64 o2, .int .i64 1] 60)).alloc (.cells #[.int .i64 x, .int .i64 y, .int .i64 z] 69)) ∧ w.heap.size < ((w.alloc (.cells #[.int .i64 o1, .int .i64 o2, .int .i64 1] 60)).alloc (.cells #[.int .i64 x, .int .i64 y, .int .i64 z] 69)).heap.size) := Lib.hid ⟨fun k hk => by
    rw [(Below.refl (w.alloc (.cells #[.int .i64 o1, .int .i64 o2, .int .i64 1] 60)).heap.size _ |>.alloc (Nat.le_refl _) (.cells #[.int .i64 x, .int .i64 y, .int .i64 z] 69)).cell (p := ⟨w.heap.size, k, none⟩) (by simp), cell_of_row _ _ _ _ _ _ (heap_alloc_last w (.cells #[.int .i64 o1, .int .i64 o2, .int .i64 1] 60))]
    match k, hk with
    | 0, _ => rfl
    | 1, _ => rfl
    | 2, _ => rfl, by (repeat (first | exact Below.refl _ _ | exact ‹Below _ _ _› | refine Below.drew ?_ | refine Below.alloc ?_ (by first | omega | (simp; done) | (simp; omega)) _ | refine Below.setCell ?_ (by first | omega | (simp; done) | (simp; omega)) _ | refine Below.trans ?_ (Below.mono ‹Below _ _ _› (by first | omega | (simp; done) | (simp; omega))))), by simp; omega⟩
  go_enter Try.func43, Try.ntmps43
  go_wp2_with fail
  refine (HB.out _).mono ?_; rintro e w1 ⟨rfl, hp, b1⟩
  have HX := Lib.hid (And.intro hp (And.intro (fun k hk => (b1.cell (p := ⟨w.heap.size, k, none⟩) HW.out.2.2).trans (HW.out.1 k hk)) (HW.out.2.1.trans (b1.mono HW.out.2.1.size))))
  clear hp b1 HW HB
  generalize ((w.alloc (.cells #[.int .i64 o1, .int .i64 o2, .int .i64 1] 60)).alloc (.cells #[.int .i64 x, .int .i64 y, .int .i64 z] 69)) = W0 at *
  go_wp2_with fail
  have hl3' : (f.length : Int) ≤ 3 := by omega
  go_loopw [5, 11] (fun v i wr => ∃ k : Nat, i = .int .i64 k ∧ k ≤ f.length ∧ v = .int .i64 (ptsK (bsI f) [o1, o2, 1] k) ∧ wr = w1) (fun _ i _ => f.length - (intOf i).toNat)
  case atStart => exact ⟨0, rfl, Nat.zero_le _, rfl, rfl⟩
  case round =>
    obtain ⟨k, rfl, hk, rfl, rfl⟩ := hrel
    by_cases hlt : k < f.length
    · have b1 : (k : Int) < (f.length : Int) := by omega
      have b3 : (k : Int) < 3 := by omega
      have c1 := HX.out.1.cell k (by omega)
      have c2 := HX.out.2.1 k (by omega)
      have hp0 := HPB.out k (by rw [HLN.out]; omega)
      have hp1 := HPB.out (k + 1) (by rw [HLN.out]; omega)
      have hst : ptsK (bsI f) [o1, o2, 1] (k + 1) = ptsK (bsI f) [o1, o2, 1] k + (bsI f).getD k (-1) * ([o1, o2, 1] : List Int).getD k 0 := rfl
      rw [hst] at hp1
      have HST := Lib.hid hst; clear hst
      generalize (bsI f).getD k (-1) = X at *
      generalize ([o1, o2, 1] : List Int).getD k 0 = Y at *
      generalize ptsK (bsI f) [o1, o2, 1] k = P at *
      have e1 : IntKind.i64.wrap (X * Y) = X * Y := by rw [IntKind.wrap_i64]; omega
      have e2 : IntKind.i64.wrap (P + X * Y) = P + X * Y := by rw [IntKind.wrap_i64]; omega
      clear hp0 hp1
      go_wp2_with fail
      go_roundw
      case rel => exact ⟨k + 1, by go_num, by omega, by rw [HST.out], by first | rfl | trivial⟩
      case measure => simp [intOf]; omega
    · obtain rfl : k = f.length := by omega
      go_wp2_with fail
      go_ret
      exact ⟨rfl, HX.out.2.2⟩

/-- The frames that the first one can be. -/
theorem endN_frs : endN false 3 [] = frN.map bsI ∧ endN true 3 [] = frL.map bsI := by constructor <;> decide +kernel
set_option maxHeartbeats 1600000 in
theorem frames_any (m s : Nat) (hm : m ≤ 10) (w : World) :
    Calls Try.prog 67 #[lfV (m + 1) s] w fun e w' => ∃ v, e = .returned v ∧ w'.ownsRow w.heap.size 69 3 v (frs m).length (sheetC ((frs m).map bsI)) ∧ Below w.heap.size w w' := by
  have hE : ∀ W, Calls Try.prog 83 #[frV [], .bool (decide (m = 0))] W fun e w' => ∃ v, e = .returned v ∧ w'.ownsRow W.heap.size 69 3 v (frs m).length (sheetC ((frs m).map bsI)) ∧ Below W.heap.size W w' := fun W => by
    have h := endings_any (decide (m = 0)) 3 (Nat.le_refl _) [] (.inl trivial) (by simp) W
    by_cases q : m = 0
    · rw [show decide (m = 0) = true from by simp [q], endN_frs.2, List.length_map] at h
      unfold frs
      rw [if_pos q, show decide (m = 0) = true from by simp [q]]
      exact h
    · rw [show decide (m = 0) = false from by simp [q], endN_frs.1, List.length_map] at h
      unfold frs
      rw [if_neg q, show decide (m = 0) = false from by simp [q]]
      exact h
  have hq : ((m : Int) + 1 == 1) = decide (m = 0) := by
    by_cases q : m = 0
    · subst q; rfl
    · simp [q]; omega
  unfold lfV
  generalize (oneT s : Int) = o1 at *
  generalize (twoT s : Int) = o2 at *
  have HE := Lib.hid hE; clear hE
  rw [show (((m + 1 : Nat) : Int)) = (m : Int) + 1 from by push_cast; rfl]
  have HB0 : Hid (Below w.heap.size w (w.alloc (.cells #[.int .i64 ((m : Int) + 1), .int .i64 o1, .int .i64 o2, .int .i64 1] 62))) := Lib.hid (by (repeat (first | exact Below.refl _ _ | exact ‹Below _ _ _› | refine Below.drew ?_ | refine Below.alloc ?_ (by first | omega | (simp; done) | (simp; omega)) _ | refine Below.setCell ?_ (by first | omega | (simp; done) | (simp; omega)) _ | refine Below.trans ?_ (Below.mono ‹Below _ _ _› (by first | omega | (simp; done) | (simp; omega))))))
  have HC0 : Hid ((w.alloc (.cells #[.int .i64 ((m : Int) + 1), .int .i64 o1, .int .i64 o2, .int .i64 1] 62)).cell? ⟨w.heap.size, 0, none⟩ = some (.int .i64 ((m : Int) + 1)) ∧ w.heap.size < (w.alloc (.cells #[.int .i64 ((m : Int) + 1), .int .i64 o1, .int .i64 o2, .int .i64 1] 62)).heap.size) := Lib.hid ⟨by rw [cell_of_row _ _ _ _ _ _ (heap_alloc_last w _)]; rfl, by simp⟩
  go_enter Try.func67, Try.ntmps67
  go_wp2_with fail
  refine wp_region_held_drew (S := fun W => W.cell? ⟨w.heap.size, 0, none⟩ = some (.int .i64 ((m : Int) + 1))) (by kernel_rfl) HC0.out.1 (fun hHeld => ?_)
  (refine wpAnyH_take (i := 1) (v := ?_) rfl (by kernel_rfl) (by kernel_rfl) (by kernel_rfl) (fun _ _ _ h => h) (Or.inl ⟨by kernel_rfl, ?_⟩) (by assumption) ?_; rotate_left; focus (intro w hSw; (try dsimp only at hSw); go_simp; try with_reducible rfl); (try simp only [List.getElem_toArray, List.getElem_cons_succ, List.getElem_cons_zero, Act.put, List.setIfInBounds_toArray, List.set_cons_zero, List.set_cons_succ])); (refine wpAnyH_take (i := 2) (v := ?_) rfl (by kernel_rfl) (by kernel_rfl) (by kernel_rfl) (fun _ _ _ h => h) (Or.inl ⟨by kernel_rfl, ?_⟩) (by assumption) ?_; rotate_left; focus (intro w hSw; (try dsimp only at hSw); go_simp; try with_reducible rfl); (try simp only [List.getElem_toArray, List.getElem_cons_succ, List.getElem_cons_zero, Act.put, List.setIfInBounds_toArray, List.set_cons_zero, List.set_cons_succ])); (refine wpAnyH_take (i := 3) (v := ?_) rfl (by kernel_rfl) (by kernel_rfl) (by kernel_rfl) (fun _ _ _ h => h) (Or.inl ⟨by kernel_rfl, ?_⟩) (by assumption) ?_; rotate_left; focus (intro w hSw; (try dsimp only at hSw); go_simp; try with_reducible rfl); (try simp only [List.getElem_toArray, List.getElem_cons_succ, List.getElem_cons_zero, Act.put, List.setIfInBounds_toArray, List.set_cons_zero, List.set_cons_succ]))
  refine wpAnyH_ready (rs := [0]) (by kernel_rfl) (by simp) ?_; refine AllReadyH.cons rfl (fun K hK => ?_) AllReadyH.nil
  go_simp
  go_at_call 82
  refine (emptyFrame_any _).mono ?_; rintro e w1 ⟨rfl, b1⟩
  have H1 := Lib.hid (And.intro ((b1.cell (p := ⟨w.heap.size, 0, none⟩) HC0.out.2).trans hHeld) (And.intro (HB0.out.drew.trans (b1.mono HB0.out.drew.size)) (Nat.lt_of_lt_of_le HC0.out.2 b1.size)))
  clear b1 hHeld
  go_wp2_with fail
  first
    | refine hK.out _ _ H1.out.1 (fun hHeld => ?_)
    | refine hK _ _ H1.out.1 (fun hHeld => ?_)
  clear hK K
  (try simp only [List.getElem_toArray, List.getElem_cons_succ, List.getElem_cons_zero, Act.put, List.setIfInBounds_toArray, List.set_cons_zero, List.set_cons_succ])
  refine wpAnyH_ready (rs := [4]) (by kernel_rfl) (by simp) ?_; refine AllReadyH.cons rfl (fun K hK => ?_) AllReadyH.nil
  go_simp
  go_at_call 83
  refine (HE.out _).mono ?_; rintro e w2 ⟨v, rfl, own2, b2⟩
  have H2 := Lib.hid (And.intro (owns_baseS own2 H1.out.2.1.size) (H1.out.2.1.trans (b2.mono H1.out.2.1.size)))
  have hc2 := (b2.cell (p := ⟨w.heap.size, 0, none⟩) H1.out.2.2).trans H1.out.1
  clear own2 b2
  go_wp2_with fail
  first
    | refine hK.out _ _ hc2 (fun hHeld => ?_)
    | refine hK _ _ hc2 (fun hHeld => ?_)
  clear hK K
  (try simp only [List.getElem_toArray, List.getElem_cons_succ, List.getElem_cons_zero, Act.put, List.setIfInBounds_toArray, List.set_cons_zero, List.set_cons_succ])
  (refine wpAnyH_take (i := 5) (v := ?_) rfl (by kernel_rfl) (by kernel_rfl) (by kernel_rfl) (fun _ _ _ h => h) (Or.inl ⟨by kernel_rfl, ?_⟩) (by assumption) ?_; rotate_left; focus (intro w hSw; (try dsimp only at hSw); go_simp; try with_reducible rfl); (try simp only [List.getElem_toArray, List.getElem_cons_succ, List.getElem_cons_zero, Act.put, List.setIfInBounds_toArray, List.set_cons_zero, List.set_cons_succ]))
  refine wpAnyH_done (by kernel_rfl) ?_ _
  (try simp only [List.getElem_toArray, List.getElem_cons_succ, List.getElem_cons_zero, Act.put, List.setIfInBounds_toArray, List.set_cons_zero, List.set_cons_succ])
  clear hHeld
  go_wp2_with fail
  go_ret
  exact ⟨_, rfl, H2.out.1, H2.out.2⟩

/-- What is left behind the first frame. -/
theorem bh_spare (f : List Nat) (h : shapeF f = true) (hne : f ≠ [10]) (s : Nat) : bhF s f = if spareB (bsI f) then 1 else 0 := by
  unfold bhF
  rw [if_neg hne]
  rcases shape_cases h with rfl | ⟨a, b, rfl, h1, h2⟩ | ⟨a, b, c, rfl, h1, h2, h3⟩
  · exact absurd rfl hne
  · have e : spareB (bsI [a, b]) = decide (a ≠ 10 ∧ a + b = 10) := by
      rw [Bool.eq_iff_iff]
      simp [spareB, strikeB, bsI]
      omega
    rw [e]; simp
  · have e : spareB (bsI [a, b, c]) = decide (a ≠ 10 ∧ a + b = 10) := by
      rw [Bool.eq_iff_iff]
      simp [spareB, strikeB, bsI]
      omega
    rw [e]; simp
theorem bh_strike (s : Nat) : bhF s [10] = twoT s + 1 ∧ oneT (twoT s + 1) = 1 + twoT s ∧ twoT (twoT s + 1) = 2 := by
  refine ⟨rfl, ?_, ?_⟩
  · unfold twoT oneT; split <;> rfl
  · unfold twoT; split <;> rfl
@[go_sem] theorem eqFrame (a b c d e f : Int) (w : World) : (Op.equalIn 10000 69 (.agg #[.int .i64 a, .int .i64 b, .int .i64 c]) (.agg #[.int .i64 d, .int .i64 e, .int .i64 f])).run Try.prog w = .ok (a == d && b == e && c == f) w := by
  have u3 := Try.underlying3
  have a3 := Try.isAgg3
  have z3 := Try.sizeOf3
  rw [show (10000 : Nat) = 9999 + 1 from rfl, Op.equalIn]
  simp only [Sem.run_bind, run_underlying Try.underlying69, Result.andThen_ok]
  simp only [Std.Legacy.Range.forIn_eq_forIn_range', Std.Legacy.Range.size, Nat.sub_zero, Nat.add_sub_cancel, Nat.div_one, List.range'_succ, List.range'_zero, List.forIn_cons, List.forIn_nil]
  go_simp
  by_cases h1 : a = d <;> by_cases h2 : b = e <;> by_cases h3 : c = f <;> simp [h1, h2, h3]

/-- The blocks of what is left, of the frame, of the result. -/
def BhAt (w : World) (M o1 o2 x y z : Int) (r : Array Value) (wr : World) : Prop :=
  ObAt wr w.heap.size 62 #[.int .i64 M, .int .i64 o1, .int .i64 o2, .int .i64 1] ∧ ObAt wr (w.heap.size + 1) 69 #[.int .i64 x, .int .i64 y, .int .i64 z] ∧ ObAt wr (w.heap.size + 1 + 1) 62 #[.int .i64 0, .int .i64 0, .int .i64 0, .int .i64 0] ∧ Below w.heap.size w wr
theorem BhAt.new (w : World) (M o1 o2 x y z : Int) : BhAt w M o1 o2 x y z #[] (((w.alloc (.cells #[.int .i64 M, .int .i64 o1, .int .i64 o2, .int .i64 1] 62)).alloc (.cells #[.int .i64 x, .int .i64 y, .int .i64 z] 69)).alloc (.cells #[.int .i64 0, .int .i64 0, .int .i64 0, .int .i64 0] 62)) := by
  refine ⟨((ObAt.new w _ _).old _).old _, ?_, ?_, by (repeat (first | exact Below.refl _ _ | exact ‹Below _ _ _› | refine Below.drew ?_ | refine Below.alloc ?_ (by first | omega | (simp; done) | (simp; omega)) _ | refine Below.setCell ?_ (by first | omega | (simp; done) | (simp; omega)) _ | refine Below.trans ?_ (Below.mono ‹Below _ _ _› (by first | omega | (simp; done) | (simp; omega)))))⟩
  · have := (ObAt.new (w.alloc (.cells #[.int .i64 M, .int .i64 o1, .int .i64 o2, .int .i64 1] 62)) 69 #[.int .i64 x, .int .i64 y, .int .i64 z]).old (.cells #[.int .i64 0, .int .i64 0, .int .i64 0, .int .i64 0] 62)
    simpa using this
  · have := ObAt.new ((w.alloc (.cells #[.int .i64 M, .int .i64 o1, .int .i64 o2, .int .i64 1] 62)).alloc (.cells #[.int .i64 x, .int .i64 y, .int .i64 z] 69)) 62 #[.int .i64 0, .int .i64 0, .int .i64 0, .int .i64 0]
    simpa using this
theorem BhAt.keep {w : World} {M o1 o2 x y z : Int} {r : Array Value} {wr w' : World} (h : BhAt w M o1 o2 x y z r wr) (hb : Below wr.heap.size wr w') : BhAt w M o1 o2 x y z r w' :=
  ⟨h.1.keep hb, h.2.1.keep hb, h.2.2.1.keep hb, h.2.2.2.trans (hb.mono h.2.2.2.size)⟩
set_option maxHeartbeats 1600000 in
theorem behind_any (m s : Nat) (hm : m ≤ 10) (f : List Nat) (hs : shapeF f = true) (w : World) :
    Calls Try.prog 44 #[lfV (m + 1) s, frV (bsI f)] w fun e w' => e = .returned (lfV m (bhF s f)) ∧ Below w.heap.size w w' := by
  have hsp := fun W => isSpare_any (bsI f) (shape_small hs) W
  have HWG := Lib.hid (fun W => wholeGame_any (m : Int) W)
  by_cases hx : f = [10]
  · subst hx
    obtain ⟨e1, e2, e3⟩ := bh_strike s
    have hr : lfV m (bhF s [10]) = .agg #[.int .i64 (m : Int), .int .i64 (1 + (twoT s : Int)), .int .i64 2, .int .i64 1] := by
      rw [e1]; unfold lfV; rw [e2, e3]; push_cast; rfl
    rw [hr]; clear hr e1 e2 e3 hsp
    unfold lfV
    rw [show frV (bsI [10]) = .agg #[.int .i64 10, .int .i64 (-1), .int .i64 (-1)] from rfl, show (((m + 1 : Nat) : Int)) = (m : Int) + 1 from by push_cast; rfl]
    have htb : (twoT s : Int) ≤ 2 := by have := (st_bd s).2.2.2.1; omega
    have htb0 : 0 ≤ (twoT s : Int) := by omega
    have HW0 := Lib.hid (BhAt.new w ((m : Int) + 1) (oneT s) (twoT s) 10 (-1) (-1))
    generalize (oneT s : Int) = o1 at *
    generalize (twoT s : Int) = o2 at *
    have e4 : IntKind.i64.wrap (1 + o2) = 1 + o2 := by rw [IntKind.wrap_i64]; omega
    clear htb htb0 hs
    go_enter Try.func44, Try.ntmps44
    go_wp2_with fail
    refine (HWG.out _).mono ?_; rintro e w1 ⟨rfl, b1⟩
    have H1 := Lib.hid (BhAt.keep HW0.out b1); clear b1
    have hl1 := H1.out.2.2.1.lt
    obtain ⟨l0, l1, l2, l3, -, -, -, -⟩ := H1.out.1.four
    obtain ⟨x0, x1, x2, -, -, -⟩ := H1.out.2.1.three
    obtain ⟨r0, r1, r2, r3, q0, q1, q2, q3⟩ := H1.out.2.2.1.four
    have ht1 : w.heap.size < w1.heap.size := by omega
    have ht2 : w.heap.size + 1 < w1.heap.size := by omega
    have hn1 : w.heap.size ≠ w1.heap.size := by omega
    have hn2 : w.heap.size + 1 ≠ w1.heap.size := by omega
    have hn3 : w.heap.size + 1 + 1 ≠ w1.heap.size := by omega
    clear HWG
    go_wp2_with fail
    refine bodyPost_ret (v := .agg #[.int .i64 (m : Int), .int .i64 (1 + o2), .int .i64 2, .int .i64 1]) (by simp [results, Try.results44, go_sem, *]) rfl ⟨rfl, ?_⟩
    have hb := H1.out.2.2.2
    have hs := hb.size
    refine Below.alloc ((((hb.setCell (by simp; omega) _).setCell (by simp; omega) _).setCell (by simp; omega) _).setCell (by simp; omega) _) (by simp; omega) _
  · have hb := bh_spare f hs hx s
    have hxx : (frV (bsI f) = .agg #[.int .i64 10, .int .i64 (-1), .int .i64 (-1)]) → False := fun e => by
      rcases shape_cases hs with rfl | ⟨a, b, rfl, h1, h2⟩ | ⟨a, b, c, rfl, h1, h2, h3⟩
      · exact hx rfl
      · simp [bsI] at e
      · simp [bsI] at e
    cases hsb : spareB (bsI f)
    all_goals
      rw [hsb] at hb hsp
      simp only [if_true, if_false, Bool.false_eq_true] at hb
      rw [hb]; clear hb hsb hx hs
      unfold lfV
      rw [show (((m + 1 : Nat) : Int)) = (m : Int) + 1 from by push_cast; rfl]
      rw [show frV (bsI f) = .agg #[.int .i64 ((bsI f).getD 0 (-1)), .int .i64 ((bsI f).getD 1 (-1)), .int .i64 ((bsI f).getD 2 (-1))] from rfl] at hsp hxx ⊢
      generalize (bsI f).getD 0 (-1) = x at *
      generalize (bsI f).getD 1 (-1) = y at *
      generalize (bsI f).getD 2 (-1) = z at *
      have hcmp : ((x == 10) && (y == -1) && (z == -1)) = false := by
        rw [Bool.eq_false_iff]
        intro h
        simp at h
        apply hxx
        rw [h.1.1, h.1.2, h.2]
      have HSP := Lib.hid hsp; clear hsp hxx
      have HW0 := Lib.hid (BhAt.new w ((m : Int) + 1) (oneT s) (twoT s) x y z)
      generalize (oneT s : Int) = o1 at *
      generalize (twoT s : Int) = o2 at *
      have hcm := fun W => (eqFrame x y z 10 (-1) (-1) W)
      rw [hcmp] at hcm
      clear hcmp
      simp only [oneT, twoT]
      go_enter Try.func44, Try.ntmps44
      go_wp2_with fail
      refine (HWG.out _).mono ?_; rintro e w1 ⟨rfl, b1⟩
      have H1 := Lib.hid (BhAt.keep HW0.out b1); clear b1
      have hl1 := H1.out.2.2.1.lt
      obtain ⟨l0, l1, l2, l3, -, -, -, -⟩ := H1.out.1.four
      obtain ⟨x0, x1, x2, -, -, -⟩ := H1.out.2.1.three
      obtain ⟨r0, r1, r2, r3, q0, q1, q2, q3⟩ := H1.out.2.2.1.four
      have ht1 : w.heap.size < w1.heap.size := by omega
      have ht2 : w.heap.size + 1 < w1.heap.size := by omega
      have hn1 : w.heap.size ≠ w1.heap.size := by omega
      have hn2 : w.heap.size + 1 ≠ w1.heap.size := by omega
      have hn3 : w.heap.size + 1 + 1 ≠ w1.heap.size := by omega
      clear HWG
      go_wp2_with fail
      refine (HSP.out _).mono ?_; rintro e w2 ⟨rfl, b2⟩
      have hbw := b2.size
      have H2 := Lib.hid (And.intro ((H1.out.keep (Below.ofNew _)).keep b2) ((ObAt.new w1 62 #[.int .i64 (m : Int), .int .i64 1, .int .i64 1, .int .i64 1]).keep b2)); clear b2
      clear l0 l1 l2 l3 x0 x1 x2 r0 r1 r2 r3 q0 q1 q2 q3
      obtain ⟨n0, n1, n2, n3, v0, v1, v2, v3⟩ := H2.out.2.four
      obtain ⟨r0, r1, r2, r3, q0, q1, q2, q3⟩ := H2.out.1.2.2.1.four
      have hbel := H2.out.1.2.2.2
      have HBE := Lib.hid hbel; clear hbel hbw
      clear HSP H1 HW0
      go_wp2_with fail
    · refine bodyPost_ret (v := .agg #[.int .i64 (m : Int), .int .i64 1, .int .i64 1, .int .i64 1]) (by simp [results, Try.results44, go_sem, *]) rfl ⟨rfl, ?_⟩
      have hb := HBE.out
      exact (((hb.setCell (by simp; omega) _).setCell (by simp; omega) _).setCell (by simp; omega) _).setCell (by simp; omega) _
    · refine bodyPost_ret (v := .agg #[.int .i64 (m : Int), .int .i64 2, .int .i64 1, .int .i64 1]) (by simp [results, Try.results44, go_sem, *]) rfl ⟨rfl, ?_⟩
      have hb := HBE.out
      exact ((((hb.setCell (by simp; omega) _).setCell (by simp; omega) _).setCell (by simp; omega) _).setCell (by simp; omega) _).setCell (by simp; omega) _
end Go.Proofs.Ythbkclgdoopbpaa
