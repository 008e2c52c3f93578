/-
  Leagues: in how many ways a team can be first: the program's.
-/
import Derived.Test.YtpfphjfpaoiicaaLgFsS
namespace Go.Proofs.Ytpfphjfpaoiicaa
open Go.RowKit
set_option linter.unusedVariables false
set_option linter.unusedSimpArgs false

theorem slice_nil (b off n c : Nat) (w : World) : (binOp BinOp.eql 33 (.slice (some ⟨b, off, none⟩) n c) (.slice none 0 0)).run Try.prog w = .ok (.bool false) w := by
  first | kernel_rfl | rfl
set_option maxRecDepth 100000 in
set_option maxHeartbeats 1600000 in
theorem cloneI_any (l : List Int) (a : Option Addr) (c : Nat) (w : World) (hl : l.length ≤ 1048576) (hpos : 0 < l.length) (h : Reads w a (ints l)) :
    Calls Try.prog 115 #[.slice a l.length c] w fun e w' => ∃ v, e = .returned v ∧ w'.ownsRow w.heap.size 3 1 v l.length (ints l) ∧ Below w.heap.size w w' := by
  obtain ⟨i0, hi, hz0, hz1, hz2⟩ := info_parts infoInt
  have hbel : Below w.heap.size w (w.alloc (.cells #[] 3)) := by (repeat (first | exact Below.refl _ _ | exact ‹Below _ _ _› | refine Below.drew ?_ | refine Below.alloc ?_ (by first | omega | (simp; done) | (simp; omega)) _ | refine Below.setCell ?_ (by first | omega | (simp; done) | (simp; omega)) _ | refine Below.trans ?_ (Below.mono ‹Below _ _ _› (by first | omega | (simp; done) | (simp; omega)))))
  have how := owns_fresh w 3 1
  obtain ⟨b, off, rfl, hlt, hc⟩ := cells_of_reads h hpos
  have hnews : ∀ j u, (ints l)[j]? = some u → (w.alloc (.cells #[] 3)).cell? ((⟨b, off, none⟩ : Addr).add j) = some u := by
    intro j u hj
    have hjl : j < l.length := by have := (List.getElem?_eq_some_iff.1 hj).1; rwa [ints_len] at this
    have e : (⟨b, off, none⟩ : Addr).add j = ⟨b, off + j, none⟩ := by unfold Addr.add; split <;> simp_all
    rw [e, hbel.cell (p := ⟨b, off + j, none⟩) hlt, hc j hjl, ← hj, ints_get l j hjl]
  have HN := Lib.hid hnews; clear hnews
  have HB := Lib.hid hbel; clear hbel
  have HO := Lib.hid how; clear how
  clear h hc
  have hnil := slice_nil b off l.length c
  go_enter Try.func115, Try.ntmps115
  go_wp2_with (at_builtin; refine wpList_append_own_at _ rfl _ _ 33 rfl w.heap.size 3 i0 (.int .i64 0) 1 8 Try.underlying33 hi hz0 hz1 hz2 rfl (by decide) _ _ _ rfl HO.out ⟨b, off, none⟩ l.length c (ints l) rfl (by simp [ints]) HN.out ints_one ?_ ?_ ?_ ?_)
  · unfold maxLen; omega
  · omega
  · simp
  intro v' w3 hown3 hgrow _ _
  have hbel3 : Below w.heap.size w w3 := HB.out.grown hgrow (by simp) (fun g hg => by simp [Value.ownBlock] at hg; omega)
  have H3 := Lib.hid (And.intro hown3 hbel3); clear hown3 hgrow hbel3
  go_wp2
  go_ret
  exact ⟨_, rfl, H3.out.1, H3.out.2⟩

set_option maxHeartbeats 1600000 in
theorem maxI_any (T cp : Nat) (hT : 1 ≤ T) (hT8 : T ≤ 8) (f : Int → Int) (g : Nat) (w : World) (hr : PtR w g (rowF T f)) :
    Calls Try.prog 114 #[.slice (some ⟨g, 0, none⟩) T cp] w fun e w' => ∃ m : Int, e = .returned (.int .i64 m) ∧ ((∀ i : Nat, i < T → f i ≤ m) ∧ ∃ i : Nat, i < T ∧ f i = m) ∧ Below w.heap.size w w' := by
  have HR := Lib.hid hr
  have c0 := hr.cell (j := 0) (by rw [rowF_len]; omega)
  rw [rowF_get (by omega)] at c0
  have d0 : (0 : Int) < (T : Int) := by omega
  have d1 : ¬ (T : Int) < 1 := by omega
  have h0 : ∀ i : Nat, i < 1 → f i ≤ f ((0 : Nat) : Int) := by
    intro i hi
    have e : i = 0 := by omega
    subst e
    exact Int.le_refl _
  have H0 : Hid ((∀ i : Nat, i < 1 → f i ≤ f ((0 : Nat) : Int)) ∧ ∃ i : Nat, i < 1 ∧ f i = f ((0 : Nat) : Int)) := ⟨h0, 0, by omega, rfl⟩
  clear h0
  clear hr
  obtain ⟨y, hy⟩ : ∃ y : Int, y = f ((0 : Nat) : Int) := ⟨_, rfl⟩
  rw [← hy] at c0 H0
  clear hy
  go_enter Try.func114, Try.ntmps114
  go_wp2_with fail
  clear c0
  go_loopw [3, 4] (fun q i wr => ∃ (k : Nat) (m : Int), i = .int .i64 k ∧ 1 ≤ k ∧ k ≤ T ∧ q = .int .i64 m ∧ Hid (((∀ i : Nat, i < k → f i ≤ m) ∧ ∃ i : Nat, i < k ∧ f i = m) ∧ Below w.heap.size w wr)) (fun _ i _ => T - (intOf i).toNat)
  case atStart => exact ⟨1, y, rfl, Nat.le_refl _, by omega, rfl, H0.out, Below.refl _ _⟩
  case round =>
    clear H0
    obtain ⟨k, m, rfl, hk1, hk, rfl, hH⟩ := hrel
    by_cases hlt : k < T
    · have b1 : (k : Int) < (T : Int) := by omega
      have c1 := (HR.out.keep hH.out.2).cell (j := k) (by rw [rowF_len]; exact hlt)
      rw [rowF_get hlt] at c1
      have hN : ((∀ i : Nat, i < k + 1 → f i ≤ max m (f k)) ∧ ∃ i : Nat, i < k + 1 ∧ f i = max m (f k)) := by
        obtain ⟨⟨h1, j, hj, h2⟩, -⟩ := hH.out
        refine ⟨fun i hi => ?_, ?_⟩
        · by_cases e : i = k
          · rw [e]; omega
          · have := h1 i (by omega); omega
        · by_cases e : m < f k
          · exact ⟨k, by omega, by omega⟩
          · exact ⟨j, by omega, by omega⟩
      have HN := Lib.hid (And.intro hN hH.out.2); clear hN hH
      generalize f (k : Int) = v at *
      by_cases e : v < m
      all_goals
        go_wp2_with fail
        go_roundw
        case rel => exact ⟨k + 1, max m v, by go_num, by omega, by omega, by first | rfl | (congr 1; omega), HN⟩
        case measure => simp [intOf]; omega
    · obtain rfl : k = T := by omega
      go_wp2_with fail
      go_ret
      exact ⟨m, rfl, hH.out.1, hH.out.2⟩

end Go.Proofs.Ytpfphjfpaoiicaa
