/-
  Goals: FirstGoals: the model's, whole.
-/
import Derived.Test.YthbhhcpkilckkaaGoFsM
namespace Go.Proofs.Ythbhhcpkilckkaa
open Go.RowKit
set_option linter.unusedVariables false
set_option linter.unusedSimpArgs false

theorem greedP_len (ks : List Int) : ∀ (L : List Nat) (s : Nat), (greedP ks L s).length = L.length
  | [], s => rfl
  | p :: r, s => by simp [greedP, greedP_len ks r]
theorem firstV_len (ks : List Int) (s : Int) : (firstV ks s).length ≤ 1000 := by
  unfold firstV
  split
  · rename_i h
    unfold hasF at h
    simp at h
    have := (good_len (asked_split h.1).1).2
    rw [List.length_reverse, greedP_len, List.length_reverse]
    unfold natK
    rw [List.length_map]
    omega
  · simp

set_option maxHeartbeats 3200000 in
theorem specFst_row (ks : List Int) (s : Int) (a : Option Addr) (c : Nat) (w : World) (hl : (ks.length : Int) ≤ 1000000000000) (h : Reads w a (ints ks)) :
    Calls Try.prog 28 #[.slice a ks.length c, .int .i64 s] w fun e w' => RowR (firstV ks s) (hasF ks s) w e w' := by
  have HQ := Lib.hid (goAsked_any ks s a c w hl h)
  cases hg : askedG ks s
  · have hh : hasF ks s = false := by simp [hasF, hg]
    have e1 : firstV ks s = [] := by simp [firstV, hh]
    have HE := Lib.hid (And.intro e1 hh)
    have HG := Lib.hid hg; clear hg e1 hh h
    go_enter Try.func28, Try.ntmps28
    go_wp2_with fail
    refine HQ.out.mono ?_; rintro e w1 ⟨rfl, b1⟩
    rw [HG.out]
    go_wp2_with fail
    refine bodyPost_ret (v := .tuple #[.slice none 0 0, .bool false]) (by simp [results, Try.results28, go_sem]) rfl ⟨_, by rw [HE.out.2], by rw [HE.out.1]; exact owns_nil _ _ _, b1⟩
  · have hl5 := (good_len (asked_split hg).1).2
    have hl1 := (good_len (asked_split hg).1).1
    obtain ⟨m, rfl, hm, hk⟩ := asked_nat hg
    have HF := Lib.hid (fun w' (hr : Reads w' a (ints ks)) => goFew_any ks hk m (by omega) a c w' hl hr)
    have hbd := fewP_bd (fun x hx => (hk x hx).1) (s := m) (by omega)
    have hh : hasF ks (m : Int) = decide (fewP ks m ≠ 1000) := by simp [hasF, hg]
    have hfv : firstV ks (m : Int) = if fewP ks m ≠ 1000 then (greedP ks (natK ks).reverse m).reverse else [] := by simp [firstV, hh]
    have hag := first_agree (ks := ks) (fun x hx => (hk x hx).1) m (by omega)
    have e3 : asM (fewP ks m) = if fewP ks m = 1000 then -1 else fewP ks m := rfl
    have HGF := Lib.hid (fun g w' hgl hr => goFirst_any ks hk hl5 a c ks.length ((ks.length : Int) - 1) m g w' rfl (Nat.le_refl _) (by omega) hgl hr)
    have ht : (natK ks).take ks.length = natK ks := List.take_of_length_le (by simp [natK])
    rw [ht] at HGF; clear ht
    have HG := Lib.hid hg; clear hg
    have HR := Lib.hid h; clear h
    have HKK := Lib.hid hk; clear hk
    have hb3 : (m : Int) < (m : Int) + 1 := by omega
    have wl : IntKind.i64.wrap ((ks.length : Int) - 1) = (ks.length : Int) - 1 := IntWalk.i64_in _ (by omega)
    rw [hh, hfv]
    clear hh hfv
    by_cases q : fewP ks m = 1000
    · rw [if_neg (by simpa using q), show decide (fewP ks m ≠ 1000) = false by simpa using q]
      rw [if_pos q] at e3
      have HE3 := Lib.hid e3; clear e3 q hbd hag
      go_enter Try.func28, Try.ntmps28
      go_wp2_with fail
      refine HQ.out.mono ?_; rintro e w1 ⟨rfl, b1⟩
      rw [HG.out]
      have B1 := Lib.hid b1; clear b1
      go_wp2_with fail
      refine (HF.out _ (HR.out.old B1.out)).mono ?_; rintro e w2 ⟨rfl, hrow, b2⟩
      have c0 := tabM_cells HKK.out (by omega) hrow (Nat.le_refl m)
      have B2 := Lib.hid (B1.out.trans (b2.mono B1.out.size)); clear b2 hrow
      rw [HE3.out] at c0
      go_wp2_with fail
      refine bodyPost_ret (v := .tuple #[.slice none 0 0, .bool false]) (by simp [results, Try.results28, go_sem]) rfl ⟨_, rfl, owns_nil _ _ _, B2.out⟩
    · rw [if_pos (by simpa using q), show decide (fewP ks m ≠ 1000) = true by simpa using q]
      rw [if_neg q] at e3
      have hag' := hag q
      obtain ⟨g, hgq⟩ : ∃ g : Nat, fewP ks m = (g : Int) := ⟨(fewP ks m).toNat, by omega⟩
      rw [hgq, Int.toNat_natCast] at hag'
      rw [hgq] at hbd
      have e4 := e3.trans hgq
      have HX := Lib.hid (fun w' hr => HGF.out g w' (by omega) hr)
      rw [hag'] at HX
      clear HGF hag hag' q
      generalize (greedP ks (natK ks).reverse m).reverse = R at *
      have HE3 := Lib.hid e4; clear e3 e4 hgq
      have hg0 : ¬ (g : Int) < 0 := by omega
      go_enter Try.func28, Try.ntmps28
      go_wp2_with fail
      refine HQ.out.mono ?_; rintro e w1 ⟨rfl, b1⟩
      rw [HG.out]
      have B1 := Lib.hid b1; clear b1
      go_wp2_with fail
      refine (HF.out _ (HR.out.old B1.out)).mono ?_; rintro e w2 ⟨rfl, hrow, b2⟩
      have c0 := tabM_cells HKK.out (by omega) hrow (Nat.le_refl m)
      have B2 := Lib.hid (B1.out.trans (b2.mono B1.out.size)); clear b2 hrow
      rw [HE3.out] at c0
      go_wp2_with fail
      refine (HX.out _ (HR.out.old B2.out)).mono ?_; rintro e w3 ⟨v, rfl, hown, b3⟩
      have HE := Lib.hid (And.intro (owns_base hown B2.out.size) (B2.out.trans (b3.mono B2.out.size)))
      clear hown b3
      simp only [Option.isSome]
      go_wp2_with fail
      refine bodyPost_ret (v := .tuple #[v, .bool true]) (by simp [results, Try.results28, go_sem]) rfl ⟨_, rfl, HE.out.1, HE.out.2⟩
end Go.Proofs.Ythbhhcpkilckkaa
