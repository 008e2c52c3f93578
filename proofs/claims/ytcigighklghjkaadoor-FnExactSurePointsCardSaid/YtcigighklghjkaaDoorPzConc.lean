/-
  Puzzles: slices.Concat of two rows of clues.
-/
import Derived.Test.YtcigighklghjkaaDoorPzGrow
namespace Go.Proofs.YtcigighklghjkaaDoor
open Go.RowKit
set_option linter.unusedVariables false
set_option linter.unusedSimpArgs false

theorem reads_nil3 {w : World} {ys : List Cl} (h : Reads w none (clus ys)) : ys = [] := by
  rcases h with h | ⟨b, off, h, _⟩
  · have := congrArg List.length h; rw [clus_len] at this; simp at this
    exact List.length_eq_zero_iff.1 (by omega)
  · cases h

/-- The results of a slice, appended to a row of the call's own. -/
theorem wpList_append_res {w : World} {ops : Array Oper} {rest : List Oper} {o : Oper} {a : Act} {Q : Exit → Act → World → Prop} (hgd : o.guard = none) (s x : Operand)
    (ho : o.op = .call { callee := .builtin .append, args := #[s, x], argTypes := #[36, 36] })
    (B : Nat) (w0 : World) (v : Value) (n : Nat) (xs ys : List Cl) (ad : Option Addr) (c : Nat) (hs : a.eval s = v) (hx : a.eval x = .slice ad ys.length c)
    (hown : w.ownsRow B 26 3 v n (clus xs)) (hr : Reads w ad (clus ys)) (hbel : Below B w0 w) (hB : B ≤ w.heap.size) (hsz : n + ys.length ≤ 100000) (hne : ad ≠ none ∨ v ≠ .slice none 0 0)
    (h : ∀ v' w', w'.ownsRow B 26 3 v' (n + ys.length) (clus (xs ++ ys)) → Below B w0 w' → (v ≠ .slice none 0 0 → v' ≠ .slice none 0 0) → wpList Tryd.prog ops Q rest (a.put o.dst v') w') :
    wpList Tryd.prog ops Q (o :: rest) a w := by
  obtain ⟨i0, hi, hz0, hz1, hz2⟩ := info_parts infoClue
  cases ad with
  | none =>
    obtain rfl := reads_nil3 hr
    have hv : v ≠ .slice none 0 0 := by rcases hne with h | h; exact absurd rfl h; exact h
    obtain ⟨hl, hq | ⟨g, cap, cur, rfl, hg, hh, hnc, hrest⟩⟩ := hown
    · exact absurd hq.1 hv
    · exact wpList_append_none hgd s x 36 ho 26 i0 Tryd.underlying36 hi g 0 n cap hnc hs none c hx (h _ _ (by simpa using ⟨hl, .inr ⟨g, cap, cur, rfl, hg, hh, hnc, hrest⟩⟩) hbel (fun q => q))
  | some ad =>
    have hnews : ∀ j u, (clus ys)[j]? = some u → w.cell? (ad.add j) = some u := by
      intro j u hj
      rcases hr with hr | ⟨b, off, he, hlt, hc⟩
      · rw [hr] at hj; simp at hj
      · cases he
        have hjl : j < (clus ys).length := (List.getElem?_eq_some_iff.1 hj).1
        have e : (⟨b, off, none⟩ : Addr).add j = ⟨b, off + j, none⟩ := by unfold Addr.add; split <;> simp_all
        rw [e, hc j hjl, hj]
    refine wpList_append_own_at _ hgd s x 36 ho B 26 i0 (.agg #[.int .i64 0, .int .i64 0, .int .i64 0]) 3 24 Tryd.underlying36 hi hz0 hz1 hz2 rfl (by decide) v n (clus xs) hs hown ad ys.length c (clus ys) hx (by rw [clus_len]; omega) hnews clus_one (by unfold maxLen; omega) (by omega) hB ?_
    intro v' w' ho' hg' hiff _
    refine h v' w' (by rw [clus_append]; exact ho') (hbel.grown hg' hB (fun g hg => ?_)) (fun q q' => q (hiff.1 q').1)
    obtain ⟨_, h | ⟨g', cap, cur, hv, hb', _⟩⟩ := hown
    · rw [h.1] at hg; cases hg
    · rw [hv] at hg; simp [Value.ownBlock] at hg; omega

theorem grow_all (n : Nat) (w : World) (hn : n ≤ 100000) :
    Calls Tryd.prog 100 #[.slice none 0 0, .int .i64 n] w fun e w' => ∃ v, e = .returned v ∧ w'.ownsRow w.heap.size 26 3 v 0 [] ∧ Below w.heap.size w w' ∧ (0 < n → v ≠ .slice none 0 0) := by
  by_cases h0 : n = 0
  · subst h0
    exact (grow_zero w).mono (fun e w' ⟨h1, h2⟩ => ⟨_, h1, owns_nil3 _ _ _, by rw [h2]; exact Below.refl _ _, fun h => absurd h (by decide)⟩)
  · exact (grow_any n w (by omega) hn).mono (fun e w' ⟨c, h1, h2, h3⟩ => ⟨_, h1, h2, h3, fun _ h => by cases h⟩)

/-- What holds at the head of each round of the second loop. -/
def CoAt (w : World) (a a' : Option Addr) (xs : List Cl) (v : Value) (wr : World) : Prop :=
  wr.ownsRow w.heap.size 26 3 v xs.length (clus xs) ∧ Below w.heap.size w wr ∧ ((a ≠ none ∧ a' ≠ none) ∨ v ≠ .slice none 0 0)

set_option maxHeartbeats 3200000 in
set_option maxRecDepth 100000 in
theorem concat_any (l m : List Cl) (a a' : Option Addr) (c c' g : Nat) (w : World) (hl : l.length ≤ 1000) (hm : m.length ≤ 1000) (hg : g < w.heap.size)
    (hc0 : w.cell? ⟨g, 0, none⟩ = some (.slice a l.length c)) (hc1 : w.cell? ⟨g, 1, none⟩ = some (.slice a' m.length c')) (hr : Reads w a (clus l)) (hr' : Reads w a' (clus m)) (hne : 0 < l.length + m.length ∨ (a ≠ none ∧ a' ≠ none)) :
    Calls Tryd.prog 87 #[.slice (some ⟨g, 0, none⟩) 2 2] w fun e w' => ∃ v, e = .returned v ∧ w'.ownsRow w.heap.size 26 3 v (l ++ m).length (clus (l ++ m)) ∧ Below w.heap.size w w' := by
  have HR := Lib.hid (And.intro hr hr'); clear hr hr'
  have HC := Lib.hid (And.intro hc0 hc1)
  have HN := Lib.hid hne; clear hne
  have HG := grow_all (l.length + m.length) w (by omega)
  rw [show ((l.length + m.length : Nat) : Int) = (l.length : Int) + (m.length : Int) from by omega] at HG
  have HG := Lib.hid HG
  have hl0 : (0 : Int) ≤ l.length := by omega
  have hm0 : (0 : Int) ≤ m.length := by omega
  go_enter Tryd.func87, Tryd.ntmps87
  go_wp2_with fail
  go_loopw [3, 11] (fun s i wr => wr = w ∧ ((i = .int .i64 0 ∧ s = .int .i64 0) ∨ (i = .int .i64 1 ∧ s = .int .i64 l.length) ∨ (i = .int .i64 2 ∧ s = .int .i64 (l.length + m.length)))) (fun s i _ => 2 - (intOf i).toNat)
  case atStart => exact ⟨rfl, Or.inl ⟨rfl, rfl⟩⟩
  case round =>
    obtain ⟨hw, hk⟩ := hrel
    replace hw := hw.symm
    subst hw
    rcases hk with ⟨rfl, rfl⟩ | ⟨rfl, rfl⟩ | ⟨rfl, rfl⟩
    · go_wp2_with fail
      go_roundw
      case rel => exact ⟨trivial, Or.inr (Or.inl ⟨by go_num, by go_num⟩)⟩
      case measure => simp [intOf]
    · go_wp2_with fail
      go_roundw
      case rel => exact ⟨trivial, Or.inr (Or.inr ⟨by go_num, by go_num⟩)⟩
      case measure => simp [intOf]
    · go_wp2_with fail
      refine HG.out.mono ?_; rintro e w1 ⟨v, rfl, o1, b1, n1⟩
      have H0 : Hid (CoAt w a a' [] v w1) := ⟨o1, b1, by
        rcases HN.out with h | h
        · exact Or.inr (n1 h)
        · exact Or.inl h⟩
      clear o1 b1 n1 HG
      go_wp2_with fail
      go_loopw [6, 27] (fun v i w2 => (i = .int .i64 0 ∧ Hid (CoAt w a a' [] v w2)) ∨ (i = .int .i64 1 ∧ Hid (CoAt w a a' l v w2)) ∨ (i = .int .i64 2 ∧ Hid (CoAt w a a' (l ++ m) v w2))) (fun _ i _ => 2 - (intOf i).toNat)
      case atStart => exact Or.inl ⟨rfl, H0⟩
      case round =>
        clear H0
        rcases hrel with ⟨rfl, hH⟩ | ⟨rfl, hH⟩ | ⟨rfl, hH⟩
        · obtain ⟨o1, b1, n1⟩ := hH.out
          have hbs := b1.size
          have k0 : wr.cell? ⟨g, 0, none⟩ = some (.slice a l.length c) := (b1.cell (p := ⟨g, 0, none⟩) hg).trans HC.out.1
          have HD : Hid (wr.ownsRow w.heap.size 26 3 u6 0 (clus ([] : List Cl)) ∧ Reads wr a (clus l) ∧ Below w.heap.size w wr ∧ (a ≠ none ∨ u6 ≠ .slice none 0 0)) := ⟨o1, HR.out.1.old b1, b1, n1.imp (fun h => h.1) id⟩
          have HE := Lib.hid n1
          clear hH o1 b1 n1
          go_wp2_with (at_builtin; refine wpList_append_res rfl _ _ rfl w.heap.size w u6 0 ([] : List Cl) l a c rfl rfl HD.out.1 HD.out.2.1 HD.out.2.2.1 hbs (by first | omega | (simp; omega)) HD.out.2.2.2 ?_)
          intro v' w3 o3 b3 n3
          have H3 : Hid (CoAt w a a' (([] : List Cl) ++ l) v' w3) := ⟨by first | exact o3 | (rw [List.length_append]; exact o3) | (simpa using o3), b3, HE.out.imp id n3⟩
          clear o3 b3 n3
          go_wp2
          go_roundw
          case rel => exact Or.inr (Or.inl ⟨by go_num, H3⟩)
          case measure => simp [intOf]
        · obtain ⟨o1, b1, n1⟩ := hH.out
          have hbs := b1.size
          have k0 : wr.cell? ⟨g, 1, none⟩ = some (.slice a' m.length c') := (b1.cell (p := ⟨g, 1, none⟩) hg).trans HC.out.2
          have HD : Hid (wr.ownsRow w.heap.size 26 3 u6 l.length (clus l) ∧ Reads wr a' (clus m) ∧ Below w.heap.size w wr ∧ (a' ≠ none ∨ u6 ≠ .slice none 0 0)) := ⟨o1, HR.out.2.old b1, b1, n1.imp (fun h => h.2) id⟩
          have HE := Lib.hid n1
          clear hH o1 b1 n1
          go_wp2_with (at_builtin; refine wpList_append_res rfl _ _ rfl w.heap.size w u6 l.length l m a' c' rfl rfl HD.out.1 HD.out.2.1 HD.out.2.2.1 hbs (by first | omega | (simp; omega)) HD.out.2.2.2 ?_)
          intro v' w3 o3 b3 n3
          have H3 : Hid (CoAt w a a' (l ++ m) v' w3) := ⟨by first | exact o3 | (rw [List.length_append]; exact o3) | (simpa using o3), b3, HE.out.imp id n3⟩
          clear o3 b3 n3
          go_wp2
          go_roundw
          case rel => exact Or.inr (Or.inr ⟨by go_num, H3⟩)
          case measure => simp [intOf]
        · have HD := Lib.hid (And.intro hH.out.1 hH.out.2.1); clear hH
          go_wp2_with fail
          go_ret
          exact ⟨_, rfl, HD.out.1, HD.out.2⟩
end Go.Proofs.YtcigighklghjkaaDoor
