/-
  Goals: FirstGoals: the model's.
-/
import Derived.Test.YthbhhcpkilckkaaGoFsI
import Derived.Test.YthbhhcpkilckkaaGoOrdM
namespace Go.Proofs.Ythbhhcpkilckkaa
open Go.RowKit
set_option linter.unusedVariables false
set_option linter.unusedSimpArgs false

/-- What the search has still to do: from one number of goals of a kind down. -/
def downC (F : Nat → Nat → Option (List Int)) (p s g : Nat) : Nat → Option (List Int)
  | 0 => none
  | n + 1 => downM F p s g n
theorem downM_at (F : Nat → Nat → Option (List Int)) (p s g n : Nat) : downM F p s g n = match F (s - n * p) (g - n) with
    | some out => some (out ++ [(n : Int)])
    | none => downC F p s g n := by
  cases n with
  | zero =>
    unfold downM downC
    simp only [Nat.zero_mul, Nat.sub_zero]
    cases F s g <;> rfl
  | succ n => rfl
theorem downM_len {F : Nat → Nat → Option (List Int)} {p s g m : Nat} (hF : ∀ s g o, F s g = some o → o.length = m) : ∀ (n : Nat) (o : List Int), downM F p s g n = some o → o.length = m + 1 := by
  intro n
  induction n with
  | zero =>
    intro o h
    rw [downM_at] at h
    cases hf : F (s - 0 * p) (g - 0) with
    | none => rw [hf] at h; cases h
    | some out => rw [hf] at h; cases h; simp [hF _ _ _ hf]
  | succ n ih =>
    intro o h
    rw [downM_at] at h
    cases hf : F (s - (n + 1) * p) (g - (n + 1)) with
    | none => rw [hf] at h; exact ih o h
    | some out => rw [hf] at h; cases h; simp [hF _ _ _ hf]
theorem firstM_len : ∀ (L : List Nat) (s g : Nat) (o : List Int), firstM L s g = some o → o.length = L.length
  | [], s, g, o, h => by
    unfold firstM at h
    split at h
    · cases h; rfl
    · cases h
  | p :: r, s, g, o, h => downM_len (firstM_len r) _ o h
theorem least_min (a b : Nat) : leastI (a : Int) (b : Int) = ((min a b : Nat) : Int) := by unfold leastI; split <;> omega

set_option maxHeartbeats 6400000 in
theorem goFirst_any (ks : List Int) (hk : ∀ x ∈ ks, 1 ≤ x ∧ x ≤ 20) (hl5 : ks.length ≤ 5) (a : Option Addr) (c : Nat) : ∀ (k : Nat) (z : Int) (s g : Nat) (w : World), z = (k : Int) - 1 → k ≤ ks.length → s ≤ 200 → g ≤ 1000 → Reads w a (ints ks) →
    Calls Try.prog 66 #[.slice a ks.length c, .int .i64 z, .int .i64 s, .int .i64 g] w fun e w' => RowR ((firstM ((natK ks).take k).reverse s g).getD []) (firstM ((natK ks).take k).reverse s g).isSome w e w' := by
  intro k
  induction k with
  | zero =>
    intro z s g w hz _ hs hg hr
    obtain rfl : z = -1 := by omega
    clear hz hr
    have hv : firstM ((natK ks).take 0).reverse s g = if s = 0 ∧ g = 0 then some [] else none := rfl
    rw [hv]; clear hv
    by_cases q : s = 0
    · subst q
      by_cases q2 : g = 0
      · subst q2
        rw [if_pos ⟨rfl, rfl⟩]
        go_enter Try.func66, Try.ntmps66
        go_wp2_with fail
        refine bodyPost_ret (v := .tuple #[.slice none 0 0, .bool true]) (by simp [results, Try.results66, go_sem]) rfl ⟨_, rfl, owns_nil _ _ _, Below.refl _ _⟩
      · rw [if_neg (fun h => q2 h.2)]
        have e1 : ((g : Int) == 0) = false := by rw [beq_eq_false_iff_ne]; omega
        go_enter Try.func66, Try.ntmps66
        go_wp2_with fail
        refine bodyPost_ret (v := .tuple #[.slice none 0 0, .bool false]) (by simp [results, Try.results66, go_sem]) rfl ⟨_, rfl, owns_nil _ _ _, Below.refl _ _⟩
    · rw [if_neg (fun h => q h.1)]
      have e1 : ((s : Int) == 0) = false := by rw [beq_eq_false_iff_ne]; omega
      go_enter Try.func66, Try.ntmps66
      go_wp2_with fail
      refine bodyPost_ret (v := .tuple #[.slice none 0 0, .bool false]) (by simp [results, Try.results66, go_sem]) rfl ⟨_, rfl, owns_nil _ _ _, Below.refl _ _⟩
  | succ j ih =>
    intro z s g w hz hkl hs hg hr
    obtain rfl : z = (j : Int) := by omega
    clear hz
    have hj : j < ks.length := by omega
    obtain ⟨b, off, rfl, hbw, hc⟩ := cells_of_reads hr (by omega)
    have c0 := hc j hj
    obtain ⟨x1, x2⟩ := hk (ks.getD j 0) (by simp [hj])
    obtain ⟨p, hp⟩ : ∃ p : Nat, ks.getD j 0 = (p : Int) := ⟨(ks.getD j 0).toNat, by omega⟩
    rw [take_rev hj, hp, Int.toNat_natCast]
    rw [hp] at c0 x1 x2
    have HIH := Lib.hid (fun s g w' hs hg hr => ih ((j : Int) - 1) s g w' rfl (by omega) hs hg hr)
    have HR := Lib.hid hr
    clear hc hp ih hr hk
    have hrl : ((natK ks).take j).reverse.length ≤ 5 := by simp; omega
    generalize ((natK ks).take j).reverse = rest at *
    have hv : firstM (p :: rest) s g = downM (firstM rest) p s g (min g (s / p)) := rfl
    rw [hv]; clear hv
    generalize hRR : downM (firstM rest) p s g (min g (s / p)) = RR
    have HM := Lib.hid hRR; clear hRR
    have hL := least_min g (s / p)
    have HL := Lib.hid (fun W => l1Least_calm (g : Int) ((s / p : Nat) : Int) W)
    rw [hL] at HL
    clear hL
    have e0 : wrap64 ((s : Int) / (p : Int)) = ((s / p : Nat) : Int) := by
      have h1 : s / p ≤ s := Nat.div_le_self _ _
      have h2 : (s : Int) / (p : Int) = ((s / p : Nat) : Int) := (Int.natCast_ediv s p).symm
      rw [h2]
      have h3 : ∀ d : Nat, d ≤ s → wrap64 (d : Int) = d := fun d hd => by unfold wrap64; omega
      exact h3 _ h1
    have E0 := Lib.hid e0; clear e0
    have hN1 : min g (s / p) ≤ g := Nat.min_le_left _ _
    have hN2 : min g (s / p) * p ≤ s := by
      have h1 : min g (s / p) ≤ s / p := Nat.min_le_right _ _
      exact (Nat.le_div_iff_mul_le (by omega)).1 h1
    have HMP := Lib.hid (fun n (h : n ≤ min g (s / p)) => Nat.le_trans (Nat.mul_le_mul_right p h) hN2)
    clear hN2
    generalize min g (s / p) = N at *
    have hd0 : (j : Int) < (ks.length : Int) := by omega
    have hpz : ((p : Int) == 0) = false := by rw [beq_eq_false_iff_ne]; omega
    have hpz2 : ¬ (p : Int) = 0 := by omega
    obtain ⟨i0, hi, hz0, hz1, hz2⟩ := info_parts infoInt
    have HI := Lib.hid (And.intro hi (And.intro hz0 (And.intro hz1 hz2))); clear hi hz0 hz1 hz2
    go_enter Try.func66, Try.ntmps66
    go_wp2_with fail
    rw [E0.out]
    refine (HL.out _).mono ?_; rintro e w1 ⟨rfl, rfl⟩
    clear hpz hpz2 E0 HL
    have HC0 := Lib.hid c0
    have wj : IntKind.i64.wrap ((j : Int) - 1) = (j : Int) - 1 := IntWalk.i64_in _ (by omega)
    go_wp2_with fail
    have H0 : Hid (downC (firstM rest) p s g (N + 1) = RR) := HM
    clear HM
    go_loopw [10] (fun i wr => ∃ (k : Nat) (z : Int), i = .int .i64 z ∧ z = (k : Int) - 1 ∧ k ≤ N + 1 ∧ Hid (downC (firstM rest) p s g k = RR) ∧ Hid (Below w1.heap.size w1 wr)) (fun i _ => (intOf i + 1).toNat)
    case atStart => exact ⟨N + 1, _, rfl, by omega, Nat.le_refl _, H0, Lib.hid (Below.refl _ _)⟩
    case round =>
      clear H0 c0
      obtain ⟨k, z, rfl, hz, hkN, hD, hB⟩ := hrel
      rcases Nat.eq_zero_or_pos k with rfl | hk0
      · obtain rfl : z = -1 := by omega
        clear hz
        have hRR : none = RR := hD.out
        subst hRR
        have HB := Lib.hid hB.out
        go_wp2_with fail
        refine bodyPost_ret (v := .tuple #[.slice none 0 0, .bool false]) (by simp [results, Try.results66, go_sem]) rfl ⟨_, rfl, owns_nil _ _ _, HB.out⟩
      · obtain ⟨n, rfl⟩ : ∃ n, k = n + 1 := ⟨k - 1, by omega⟩
        obtain rfl : z = (n : Int) := by omega
        clear hz
        have hmp := HMP.out n (by omega)
        obtain ⟨d, hdn⟩ : ∃ d : Nat, n * p = d := ⟨_, rfl⟩
        have hdn2 : (n : Int) * (p : Int) = (d : Int) := by rw [← hdn]; push_cast; rfl
        rw [hdn] at hmp
        obtain ⟨s', hs'⟩ : ∃ s' : Nat, (s : Int) - (d : Int) = (s' : Int) := ⟨s - d, by omega⟩
        obtain ⟨g', hg'⟩ : ∃ g' : Nat, (g : Int) - (n : Int) = (g' : Int) := ⟨g - n, by omega⟩
        have hat := downM_at (firstM rest) p s g n
        rw [hdn, show s - d = s' by omega, show g - n = g' by omega, show downM (firstM rest) p s g n = RR from hD.out] at hat
        have HAT := Lib.hid hat
        have HC := Lib.hid (HIH.out s' g' wr (by omega) (by omega) (HR.out.old hB.out))
        have w1' : IntKind.i64.wrap (d : Int) = (d : Int) := IntWalk.i64_in _ (by omega)
        have w2' : IntKind.i64.wrap (s' : Int) = (s' : Int) := IntWalk.i64_in _ (by omega)
        have w3' : IntKind.i64.wrap (g' : Int) = (g' : Int) := IntWalk.i64_in _ (by omega)
        have c0 := (hB.out.cell (p := ⟨b, off + j, none⟩) hbw).trans HC0.out
        clear hat hD hdn
        cases hr : firstM rest s' g' with
        | none =>
          rw [hr] at HC HAT
          have HRR := Lib.hid HAT.out.symm; clear HAT hr
          go_wp2_with fail
          refine HC.out.mono ?_; rintro e w2 ⟨v, rfl, -, b2⟩
          have HB2 := Lib.hid (hB.out.trans (b2.mono hB.out.size)); clear b2
          simp only [Option.isSome]
          have wk : IntKind.i64.wrap ((n : Int) - 1) = (n : Int) - 1 := IntWalk.i64_in _ (by omega)
          go_wp2_with fail
          go_roundw
          case rel => exact ⟨n, (n : Int) - 1, by go_num, rfl, by omega, HRR, HB2⟩
          case measure => simp [intOf]
        | some out =>
          rw [hr] at HC HAT
          have hRR : some (out ++ [(n : Int)]) = RR := HAT.out.symm
          have hol := firstM_len _ _ _ _ hr
          have hol5 : out.length ≤ 5 := by rw [hol]; omega
          clear HAT hr hol
          subst hRR
          go_wp2_with fail
          refine HC.out.mono ?_; rintro e w2 ⟨v, rfl, hown, b2⟩
          have HB2 := Lib.hid (hB.out.trans (b2.mono hB.out.size)); clear b2
          have hown' : w2.ownsRow w1.heap.size 3 1 v out.length (ints out) := owns_base hown hB.out.size
          obtain ⟨a', c', rfl, -, -, -⟩ := own_cap hown'
          have HOW := Lib.hid hown'
          have HN := Lib.hid (new_cell w2 (n : Int) 3)
          clear hown hown'
          simp only [Option.isSome]
          go_wp2_with (at_builtin; refine wpList_append_own_at _ rfl _ _ 22 rfl w1.heap.size 3 i0 (.int .i64 0) 1 8 Try.underlying22 HI.out.1 HI.out.2.1 HI.out.2.2.1 HI.out.2.2.2 rfl (by decide) _ _ _ rfl (HOW.out.alloc _) ⟨w2.heap.size, 0, none⟩ 1 1 [.int .i64 (n : Int)] rfl rfl HN.out ?_ ?_ ?_ ?_ ?_)
          · intro u hu; simp at hu; subst hu; rfl
          · unfold maxLen; omega
          · omega
          · have := HB2.out.size; simp; omega
          intro v' w3 hown3 hgrow _ _
          have hz := HB2.out.size
          have hbel3 : Below w1.heap.size w1 w3 := (HB2.out.alloc hz _).grown hgrow (by simp; omega) (fun g hgg => (owns_ge HOW.out hgg).1)
          rw [ints_snoc] at hown3
          have HE := Lib.hid (And.intro hown3 hbel3)
          clear hown3 hbel3 hgrow
          go_wp2_with fail
          refine bodyPost_ret (v := .tuple #[v', .bool true]) (by simp [results, Try.results66, go_sem]) rfl ⟨_, rfl, by simpa using HE.out.1, HE.out.2⟩
end Go.Proofs.Ythbhhcpkilckkaa
