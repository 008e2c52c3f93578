/-
  Legs: lists of lists of darts: opened, counted, copied.
-/
import Derived.Test.YtaplkciomagmiaaPlOpen0
import Derived.Test.YtaplkciomagmiaaDaMark
import Derived.Test.YtaplkciomagmiaaSliceInt
import Derived.Laws.MakeOwn
import Derived.BigQuiet
namespace Go.Proofs.Ytaplkciomagmiaa
open Go.RowKit Go.ChangeShapes Go.WideShapes Go.Deep
set_option linter.unusedVariables false
set_option linter.unusedSimpArgs false

abbrev DL := List (List (Int × Int))
def RowsD (w : World) (vs : List Value) (DD : DL) : Prop :=
  vs.length = DD.length ∧ ∀ j, j < DD.length → ∃ a c, vs[j]? = some (.slice a (DD.getD j []).length c) ∧ Reads w a (darts (DD.getD j []))
def SSR (w : World) (a : Option Addr) (DD : DL) : Prop := ∃ vs, Reads w a vs ∧ RowsD w vs DD
theorem SSR.old {w w' : World} {a : Option Addr} {DD : DL} (h : SSR w a DD) (hb : Below w.heap.size w w') : SSR w' a DD := by
  obtain ⟨vs, h1, h2, h3⟩ := h
  exact ⟨vs, h1.old hb, h2, fun j hj => by obtain ⟨a, c, q1, q2⟩ := h3 j hj; exact ⟨a, c, q1, q2.old hb⟩⟩
theorem SSR.cell {w : World} {a : Option Addr} {DD : DL} (h : SSR w a DD) {k : Nat} (hk : k < DD.length) :
    ∃ b off aj cj, a = some ⟨b, off, none⟩ ∧ b < w.heap.size ∧ w.cell? ⟨b, off + k, none⟩ = some (.slice aj (DD.getD k []).length cj) ∧ Reads w aj (darts (DD.getD k [])) := by
  obtain ⟨vs, h1, h2, h3⟩ := h
  obtain ⟨aj, cj, q1, q2⟩ := h3 k hk
  rcases h1 with h1 | ⟨b, off, rfl, hlt, hc⟩
  · subst h1; simp at h2; omega
  · exact ⟨b, off, aj, cj, rfl, hlt, by rw [hc k (by omega), q1], q2⟩

theorem dcell_of_cells1 {w : World} {base : Nat} {a : Addr} {v : Value} (h : w.cells? base a 1 = some [v]) : w.cell? a = some v := by
  unfold World.cells? at h
  split at h
  · have e0 : a.add 0 = a := by simp [Addr.add]
    simp only [List.range_succ, List.range_zero, List.nil_append, List.mapM_cons, List.mapM_nil, e0] at h
    cases hcc : w.cell? a with
    | none => simp [hcc] at h
    | some c => simp [hcc] at h; rw [h]
  · cases h

theorem open_dartss {H : Type} {enc : TypeId × Value → H} {w : World} {a : Option Addr} {n c : Nat} {d : DataW H} {p : List MemPlace}
    (h : DataW.Trod enc Try.prog w 0 (fun _ => true) true 39 (.slice a n c) d p) :
    ∃ DD : DL, DD.length = n ∧ (n : Int) ≤ 9223372036854775807 ∧ (∀ l ∈ DD, (l.length : Int) ≤ 9223372036854775807) ∧ SSR w a DD := by
  obtain ⟨fuel, hf⟩ := h
  have hone : Try.prog.cellsOf 65 = 1 := by kernel_rfl
  rcases open_slice Try.underlying39 hf with ⟨hcs, _⟩ | ⟨x, len, cap, m, k, D, Pl, hcs, _, hl, hm, hmm, _, hi⟩
  · simp [Value.cells] at hcs
    obtain ⟨rfl, rfl, rfl⟩ := hcs
    exact ⟨[], rfl, by omega, (fun s hs => by cases hs), ⟨[], .inl rfl, rfl, fun j hj => absurd hj (Nat.not_lt_zero _)⟩⟩
  · simp [Value.cells] at hcs
    obtain ⟨rfl, rfl, rfl⟩ := hcs
    simp only [if_true] at hmm
    subst hmm
    have hm2 := hm
    unfold maxLen at hm2
    have hcell : ∀ i, i < n → ∃ q : Value × List (Int × Int), w.cell? (x.add i) = some q.1 ∧ (∃ a c, q.1 = .slice a q.2.length c ∧ Reads w a (darts q.2)) ∧ (q.2.length : Int) ≤ 9223372036854775807 := by
      intro i hin
      obtain ⟨cs', h1, h2⟩ := hi i (by omega)
      rw [hone, Nat.mul_one] at h1
      have shape : ∃ a n c, cs' = [Value.slice a n c] := by
        rcases open_slice Try.underlying65 h2 with ⟨e, _⟩ | ⟨x', len', cap', _, _, _, _, e, _⟩
        · exact ⟨_, _, _, e⟩
        · exact ⟨_, _, _, e⟩
      obtain ⟨a', n', c', rfl⟩ := shape
      obtain ⟨l, hl1, hl2, hl3⟩ := open_darts ⟨_, h2⟩
      exact ⟨(.slice a' n' c', l), dcell_of_cells1 h1, ⟨a', c', by rw [hl1], hl3⟩, by show (l.length : Int) ≤ _; omega⟩
    obtain ⟨V, hV⟩ : ∃ V : Nat → Value × List (Int × Int), ∀ i, i < n → w.cell? (x.add i) = some (V i).1 ∧ (∃ a c, (V i).1 = .slice a (V i).2.length c ∧ Reads w a (darts (V i).2)) ∧ ((V i).2.length : Int) ≤ 9223372036854775807 :=
      ⟨fun i => if h : i < n then (hcell i h).choose else (undef, []), fun i hin => by simp only [hin, dif_pos]; exact (hcell i hin).choose_spec⟩
    refine ⟨(List.range n).map fun i => (V i).2, by simp, by omega, fun l hl => ?_, (List.range n).map fun i => (V i).1, ?_, by simp, fun j hj => ?_⟩
    · obtain ⟨i, hi, rfl⟩ := List.mem_map.1 hl
      exact (hV i (List.mem_range.1 hi)).2.2
    · by_cases hn : n = 0
      · subst hn; exact .inl rfl
      obtain ⟨b, off, spot⟩ := x
      have hspot : spot = none := by simpa [Addr.add] using World.cell?_spot (hV 0 (by omega)).1
      subst hspot
      refine .inr ⟨b, off, rfl, World.block_lt_of_cell? w _ (hV 0 (by omega)).1, fun j hj => ?_⟩
      simp at hj
      have h1 := (hV j hj).1
      rw [add_plain] at h1
      rw [h1]
      simp [hj]
    · simp at hj
      obtain ⟨-, ⟨a, c, e, hr⟩, -⟩ := hV j hj
      have e2 : ((List.range n).map fun i => (V i).2).getD j [] = (V j).2 := by simp [hj]
      rw [e2]
      exact ⟨a, c, by rw [← e]; simp [hj], hr⟩

def szLL : Int → DL → Int
  | k, [] => k
  | k, l :: t => if szN k l.length < 0 then -1 else szLL (szN k l.length) t
def szSS (k : Int) (DD : DL) : Int := if k - DD.length < 0 then -1 else szLL (k - DD.length) DD
theorem szLL_pos : ∀ (DD : DL) (k : Int), 0 ≤ k → szLL k DD = -1 ∨ (0 ≤ szLL k DD ∧ ∀ l ∈ DD, (l.length : Int) ≤ k)
  | [], k, h => .inr ⟨h, fun s hs => by cases hs⟩
  | l :: t, k, h => by
    unfold szLL
    by_cases h1 : szN k l.length < 0
    · rw [if_pos h1]; exact .inl rfl
    · rw [if_neg h1]
      have h0 : szN k l.length = k - l.length := by unfold szN at *; split <;> simp_all
      rcases szLL_pos t (szN k l.length) (by omega) with h2 | ⟨h2, h3⟩
      · exact .inl h2
      · refine .inr ⟨h2, fun u hu => ?_⟩
        rcases List.mem_cons.1 hu with rfl | hu
        · omega
        · have := h3 u hu; omega
theorem szSS_pos (DD : DL) : szSS 1048576 DD = -1 ∨ (0 ≤ szSS 1048576 DD ∧ (DD.length : Int) ≤ 1048576 ∧ ∀ l ∈ DD, (l.length : Int) ≤ 1048576) := by
  unfold szSS
  by_cases h1 : (1048576 : Int) - DD.length < 0
  · rw [if_pos h1]; exact .inl rfl
  · rw [if_neg h1]
    rcases szLL_pos DD (1048576 - DD.length) (by omega) with h2 | ⟨h2, h3⟩
    · exact .inl h2
    · exact .inr ⟨h2, by omega, fun l hl => by have := h3 l hl; omega⟩
theorem ddrop {DD : DL} {j : Nat} (h : j < DD.length) : DD.drop j = DD.getD j [] :: DD.drop (j + 1) := by
  rw [List.drop_eq_getElem_cons h]; simp [h]

set_option maxHeartbeats 1600000 in
theorem szDartSS_any (DD : DL) (a : Option Addr) (c : Nat) (k : Int) (w : World) (hl : (DD.length : Int) ≤ 9223372036854775807) (hs : ∀ l ∈ DD, (l.length : Int) ≤ 9223372036854775807) (h0 : 0 ≤ k) (h1 : k ≤ 1000000000000) (h : SSR w a DD) :
    Calls Try.prog 37 #[.slice a DD.length c, .int .i64 k] w fun e w' => e = .returned (.int .i64 (szSS k DD)) ∧ w' = w := by
  by_cases hk : k - DD.length < 0
  · have hv : szSS k DD = -1 := by unfold szSS; rw [if_pos hk]
    rw [hv]
    clear hv h hs
    go_enter Try.func37, Try.ntmps37
    go_wp2
    go_ret
    exact ⟨rfl, rfl⟩
  · have hv : szSS k DD = szLL (k - DD.length) DD := by unfold szSS; rw [if_neg hk]
    rw [hv]
    generalize hR : szLL (k - DD.length) DD = R at *
    have HR := Lib.hid hR; clear hR hv
    have HRd := Lib.hid (And.intro h hs); clear h hs
    go_enter Try.func37, Try.ntmps37
    go_wp2
    go_loopw [1, 5] (fun q i wr => ∃ (j : Nat) (n : Int), j ≤ DD.length ∧ i = .int .i64 j ∧ q = .int .i64 n ∧ 0 ≤ n ∧ n ≤ k ∧ Hid (szLL n (DD.drop j) = R) ∧ wr = w) (fun _ i _ => DD.length - (intOf i).toNat)
    case atStart => exact ⟨0, k - DD.length, Nat.zero_le _, rfl, rfl, by omega, by omega, Lib.hid (by rw [List.drop_zero]; exact HR.out), rfl⟩
    case round =>
      obtain ⟨j, n, hj, rfl, rfl, hn0, hn1, hd0, rfl⟩ := hrel
      have hd := hd0.out
      clear hd0
      by_cases hlt : j < DD.length
      · obtain ⟨b, off, aj, cj, rfl, -, hcell, -⟩ := HRd.out.1.cell hlt
        have hmem : DD.getD j [] ∈ DD := by simp [hlt]
        have hz := HRd.out.2 _ hmem
        rw [ddrop hlt] at hd
        clear hmem
        have hb : (j : Int) < (DD.length : Int) := by omega
        generalize DD.getD j [] = s at *
        have HC := Lib.hid (fun W => szDartS_any aj s.length cj n W hz hn0 (by omega))
        have hle : szN n s.length ≤ n := by unfold szN; split <;> omega
        by_cases hneg : szN n s.length < 0
        · have hr : R = -1 := by rw [← hd, szLL, if_pos hneg]
          have HV := Lib.hid hr; clear hr hd
          generalize szN n s.length = z at *
          generalize s.length = sl at *
          go_wp2_with fail
          refine (HC.out _).mono ?_; rintro e w1 ⟨rfl, rfl⟩
          go_wp2_with fail
          go_ret
          exact ⟨ret_int HV.out.symm, rfl⟩
        · have hr : szLL (szN n s.length) (DD.drop (j + 1)) = R := by rw [← hd, szLL, if_neg hneg]
          have HV := Lib.hid hr; clear hr hd
          generalize szN n s.length = z at *
          generalize s.length = sl at *
          go_wp2_with fail
          refine (HC.out _).mono ?_; rintro e w1 ⟨rfl, rfl⟩
          go_wp2_with fail
          go_roundw
          case rel => exact ⟨j + 1, z, by omega, by go_num, rfl, by omega, by omega, HV, by first | rfl | trivial⟩
          case measure => simp [intOf]; omega
      · obtain rfl : j = DD.length := by omega
        rw [List.drop_length] at hd
        have HV := Lib.hid hd; clear hd
        go_wp2_with fail
        go_ret
        exact ⟨ret_int HV.out, rfl⟩
end Go.Proofs.Ytaplkciomagmiaa
