/-
  Leagues: the team that comes first in a map of standings.
-/
import Derived.Test.YthbkclgdoopbpaaLtCmp
import Derived.Maps.Own
import Derived.Maps.OwnOps
import Derived.Maps.OwnSet
import Derived.Maps.Views
import Derived.Maps.RangeWalk
namespace Go.Proofs.Ythbkclgdoopbpaa
open Go.RowKit Go.Maps
set_option linter.unusedVariables false
set_option linter.unusedSimpArgs false

def heldR (v : Value) : Option (DataW Value × List MemPlace) := some (.held v, [])
theorem keysInt : Keyed Try.prog 3 := int_keyed Try.underlying3
/-- The map holds the standings of the teams of S. -/
def MapS (D : DataW Value) (o : Ord3) (S : List Int) : Prop :=
  (∀ kl, has D kl = true → ∃ t ∈ S, kl = .int .i64 t) ∧ (∀ t ∈ S, has D (.int .i64 t) = true ∧ ∀ z, D.atKey (.int .i64 t) z = .held (stV o t)) ∧ Maps.size D = S.length
def SmallS (o : Ord3) (S : List Int) : Prop := ∀ t ∈ S, (0 ≤ t ∧ t ≤ 100) ∧ o.small t ∧ (0 ≤ o.p t ∧ o.p t ≤ 100000)

/-- What has been seen so far. -/
def FsAt (w : World) (D : DataW Value) (o : Ord3) (S : List Int) (b n : Nat) (nn : Value) (left : Lit → Bool) (cnt : Nat) (wr : World) : Prop :=
  wr.ranges Try.prog 3 heldR b (w.heap.size + 1) n D left cnt ∧ Below w.heap.size w wr ∧ (∀ kl, left kl = true → has D kl = true) ∧
  ((nn = .bool true ∧ (∀ t ∈ S, left (.int .i64 t) = true) ∧ ObAt wr w.heap.size 81 #[.int .i64 0, .int .i64 0, .int .i64 0, .int .i64 0]) ∨
   (nn = .bool false ∧ ∃ t ∈ S, left (.int .i64 t) = false ∧ ObAt wr w.heap.size 81 #[.int .i64 t, .int .i64 (o.p t), .int .i64 (o.f t), .int .i64 (o.a t)] ∧ ∀ u ∈ S, left (.int .i64 u) = false → u = t ∨ o.bef t u))

theorem ranges_heap {w w' : World} {P : Program} {k : TypeId} {R : Value → Option (DataW Value × List MemPlace)} {b r n : Nat} {D : DataW Value} {left : Lit → Bool} {cnt : Nat} (h : w.ranges P k R b r n D left cnt) (e1 : w'.heap[b]? = w.heap[b]?) (e2 : w'.heap[r]? = w.heap[r]?) : w'.ranges P k R b r n D left cnt := by
  obtain ⟨es, clock, since, seen, c0, hb, F, hs, hD, hr, x⟩ := h
  exact ⟨es, clock, since, seen, c0, e1.trans hb, F, hs, hD, e2.trans hr, x⟩
theorem left_step {left : Lit → Bool} {x u : Int} (h : (left (.int .i64 u) && !(Lit.int .i64 u).sameKey (.int .i64 x)) = false) : left (.int .i64 u) = false ∨ u = x := by
  by_cases e : u = x
  · exact .inr e
  · left
    rw [sameKey_ne (fun e2 => by injection e2 with _ e3; exact e e3)] at h
    simpa using h
theorem left_self (left : Lit → Bool) (x : Int) : (left (.int .i64 x) && !(Lit.int .i64 x).sameKey (.int .i64 x)) = false := by
  simp [Lit.sameKey]
theorem left_old {left : Lit → Bool} {x u : Int} (h : left (.int .i64 u) = false) : (left (.int .i64 u) && !(Lit.int .i64 u).sameKey (.int .i64 x)) = false := by
  rw [h]; rfl
/-- One more has been seen, and it is the first of all so far. -/
theorem FsAt.turn {w wr w1 w5 : World} {D : DataW Value} {o : Ord3} {S : List Int} {b n : Nat} {nn : Value} {left : Lit → Bool} {cnt cnt1 : Nat} {x : Int}
    (hx : x ∈ S) (hr : w1.ranges Try.prog 3 heldR b (w.heap.size + 1) n D (fun z => left z && !z.sameKey (.int .i64 x)) cnt1) (hb : Below w.heap.size w w5) (hsub : ∀ kl, left kl = true → has D kl = true)
    (e1 : w5.heap[b]? = w1.heap[b]?) (e2 : w5.heap[w.heap.size + 1]? = w1.heap[w.heap.size + 1]?) (hob : ObAt w5 w.heap.size 81 #[.int .i64 x, .int .i64 (o.p x), .int .i64 (o.f x), .int .i64 (o.a x)])
    (hc : ∀ u ∈ S, left (.int .i64 u) = false → o.bef x u) : FsAt w D o S b n (.bool false) (fun z => left z && !z.sameKey (.int .i64 x)) cnt1 w5 :=
  ⟨ranges_heap hr e1 e2, hb, fun kl h => hsub kl (by simp at h; exact h.1), .inr ⟨rfl, x, hx, left_self left x, hob, fun u hu h => by
    rcases left_step h with h | h
    · exact .inr (hc u hu h)
    · exact .inl h⟩⟩
/-- One more has been seen, and the first of all so far stays. -/
theorem FsAt.stays {w wr w1 w5 : World} {D : DataW Value} {o : Ord3} {S : List Int} {b n : Nat} {left : Lit → Bool} {cnt cnt1 : Nat} {x t : Int}
    (ht : t ∈ S) (htl : left (.int .i64 t) = false) (hr : w1.ranges Try.prog 3 heldR b (w.heap.size + 1) n D (fun z => left z && !z.sameKey (.int .i64 x)) cnt1) (hb : Below w.heap.size w w5) (hsub : ∀ kl, left kl = true → has D kl = true)
    (e1 : w5.heap[b]? = w1.heap[b]?) (e2 : w5.heap[w.heap.size + 1]? = w1.heap[w.heap.size + 1]?) (hob : ObAt w5 w.heap.size 81 #[.int .i64 t, .int .i64 (o.p t), .int .i64 (o.f t), .int .i64 (o.a t)])
    (hmin : ∀ u ∈ S, left (.int .i64 u) = false → u = t ∨ o.bef t u) (hxt : o.bef t x) : FsAt w D o S b n (.bool false) (fun z => left z && !z.sameKey (.int .i64 x)) cnt1 w5 :=
  ⟨ranges_heap hr e1 e2, hb, fun kl h => hsub kl (by simp at h; exact h.1), .inr ⟨rfl, t, ht, left_old htl, hob, fun u hu h => by
    rcases left_step h with h | h
    · exact hmin u hu h
    · exact .inr (h ▸ hxt)⟩⟩

set_option maxHeartbeats 3200000 in
theorem firstOf_any (o : Ord3) (h : Int) (r : List Int) (hS : (h :: r).Pairwise o.bef) (hsm : SmallS o (h :: r)) (D : DataW Value) (b n : Nat) (w : World) (hown : w.ownsMap Try.prog 3 heldR b n D) (hm : MapS D o (h :: r)) :
    Calls Try.prog 52 #[.map (some b)] w fun e w' => e = .returned (.int .i64 h) ∧ Below w.heap.size w w' := by
  have hown1 := hown.alloc (.cells #[.int .i64 0, .int .i64 0, .int .i64 0, .int .i64 0] 81)
  have HA := Lib.hid (ObAt.new w 81 #[.int .i64 0, .int .i64 0, .int .i64 0, .int .i64 0])
  have HB0 := Lib.hid (Below.ofNew (w := w) (.cells #[.int .i64 0, .int .i64 0, .int .i64 0, .int .i64 0] 81))
  have HSZ : Hid ((w.alloc (.cells #[.int .i64 0, .int .i64 0, .int .i64 0, .int .i64 0] 81)).heap.size = w.heap.size + 1) := Lib.hid (by simp)
  obtain ⟨S, hSe⟩ : ∃ S, S = h :: r := ⟨_, rfl⟩
  rw [← hSe] at hS hsm hm
  have hbl := hown.lt
  have HP := Lib.hid (And.intro hS (And.intro hsm (And.intro hm hSe))); clear hS hsm hm hSe hown
  have HBL := Lib.hid hbl; clear hbl
  have HO := Lib.hid hown1; clear hown1
  go_enter Try.func52, Try.ntmps52
  go_wp2_with (first
    | (at_range; refine wpList_range_own _ rfl _ 79 rfl 3 81 keysInt Try.underlying79 _ b n _ rfl HO.out ?_; intro w0 hrg0 hg0 hs0)
    | go_in)
  go_frame
  rw [HSZ.out] at hrg0 hs0 ⊢
  have H0 : Hid (FsAt w D o S b n (.bool true) (has D) (size D) w0) := Lib.hid ⟨hrg0, HB0.out.grown hg0 (by simp) (fun g hg => by cases hg), fun _ h => h, .inl ⟨rfl, fun t ht => (HP.out.2.2.1.2.1 t ht).1, by
    have := HA.out
    unfold ObAt at this ⊢
    rw [hg0.block _ (by simp) (by simp)]; exact this⟩⟩
  clear hrg0 hg0 hs0 HA HB0 HSZ HO
  go_loopw [4] (fun nn wr => ∃ left cnt, Hid (FsAt w D o S b n nn left cnt wr)) (fun _ wr => wr.rangeLeft b (w.heap.size + 1))
  case atStart => exact ⟨_, _, H0⟩
  case round =>
    clear H0
    obtain ⟨left, cnt, hH⟩ := hrel
    have HRG := Lib.hid hH.out.1
    go_wp2_with (first
      | (at_next; refine wpList_next_ranges _ rfl _ rfl 3 keysInt heldR (Value.int .i64) (fun v => v) (fun key kl hkey => by obtain ⟨x, rfl, _⟩ := Maps.keyOf_int_inv Try.underlying3 hkey; exact ⟨x, rfl⟩) (fun v y _ => ⟨v, rfl⟩) b (w.heap.size + 1) n _ _ _ rfl HRG.out ?_ ?_)
      | go_in)
    · -- nothing is left
      intro _ hl0
      obtain ⟨-, hbel, -, hc⟩ := hH.out
      rcases hc with ⟨rfl, hall, -⟩ | ⟨rfl, t, ht, -, hob, hmin⟩
      · exfalso
        have := hall h (by rw [HP.out.2.2.2]; simp)
        rw [hl0] at this; cases this
      · have hth : t = h := by
          have hS := HP.out.1
          have hSe := HP.out.2.2.2
          subst hSe
          exact Ord3.head_least hS ht (fun u hu => hmin u hu (hl0 _))
        subst hth
        obtain ⟨c0, -⟩ := hob.four
        clear hob hmin hl0 ht
        have HBB := Lib.hid hbel; clear hbel hH
        go_wp2
        go_ret
        exact ⟨rfl, HBB.out⟩
    · intro x c kl y pl w1 cnt1 hkey hlk hR hat hrg1 hlt hg1 hs1 hen
      obtain ⟨x', ex, rfl, hwx⟩ := Maps.keyOf_int_inv Try.underlying3 hkey
      cases ex
      obtain ⟨t, ht, et⟩ := HP.out.2.2.1.1 _ (hH.out.2.2.1 _ hlk)
      cases et
      have hy : y = .held c := by
        simp only [heldR, Option.some.injEq, Prod.mk.injEq] at hR
        exact hR.1.symm
      subst hy
      have hc : c = stV o x := by
        have h1 := hat (.held c)
        rw [(HP.out.2.2.1.2.1 x ht).2] at h1
        exact (DataW.held.inj h1).symm
      subst hc
      have hsx := HP.out.2.1 x ht
      obtain ⟨-, hbel, hsub, hc⟩ := hH.out
      have hobK : ∀ cs, ObAt wr w.heap.size 81 cs → ObAt w1 w.heap.size 81 cs := fun cs h => by
        unfold ObAt at h ⊢
        rw [hg1.block _ (Array.getElem?_eq_some_iff.1 h).1 (by simp)]; exact h
      have hb1 : Below w.heap.size w w1 := hbel.grown hg1 hbel.size (fun g hg => by cases hg; omega)
      have hszs := hrg1.lt
      have HX := Lib.hid (And.intro ht (And.intro hlk (And.intro hrg1 (And.intro hlt (And.intro hb1 (And.intro hszs (And.intro hsx hsub))))))); clear ht hlk hrg1 hlt hg1 hs1 hat hR hkey hwx hsx hbel hsub hb1 hszs
      rw [show stV o x = .agg #[.int .i64 x, .int .i64 (o.p x), .int .i64 (o.f x), .int .i64 (o.a x)] from rfl] at hen ⊢
      obtain ⟨P, hP⟩ : ∃ P, P = o.p x := ⟨_, rfl⟩
      obtain ⟨F, hF⟩ : ∃ F, F = o.f x := ⟨_, rfl⟩
      obtain ⟨A, hA⟩ : ∃ A, A = o.a x := ⟨_, rfl⟩
      rw [← hP, ← hF, ← hA] at hen ⊢
      have HV := Lib.hid (And.intro hP (And.intro hF hA)); clear hP hF hA
      rcases hc with ⟨rfl, hall, hob⟩ | ⟨rfl, t, ht, htl, hob, hmin⟩
      · have HY := Lib.hid (And.intro hall (hobK _ hob)); clear hall hob hobK hH
        obtain ⟨c0, c1, c2, c3, f0, f1, f2, f3⟩ := HY.out.2.four
        have hne : w.heap.size < w1.heap.size := by have := HX.out.2.2.2.2.2.1; omega
        have hne2 : w.heap.size ≠ w1.heap.size := by omega
        go_wp2_with fail
        have hbl := HBL.out
        obtain ⟨hx1, hx2, hx3, hx4, hx5, hx6, hx7, hx8⟩ := HX.out
        have hob2 := (((HY.out.2.put 0 (.int .i64 x)).put 1 (.int .i64 P)).put 2 (.int .i64 F)).put 3 (.int .i64 A)
        have hF := FsAt.turn (wr := wr) (nn := .bool true) (cnt := cnt) (w5 := (((((w1.setCell ⟨w.heap.size, 0, none⟩ (.int .i64 x)).setCell ⟨w.heap.size, 1, none⟩ (.int .i64 P)).setCell ⟨w.heap.size, 2, none⟩ (.int .i64 F)).setCell ⟨w.heap.size, 3, none⟩ (.int .i64 A)).alloc (.cells #[.int .i64 x, .int .i64 P, .int .i64 F, .int .i64 A] 81))) hx1 hx3 (by
            refine Below.alloc ?_ (by simp; omega) _
            exact (((hx5.setCell (by simp) _).setCell (by simp) _).setCell (by simp) _).setCell (by simp) _) hx8
          (by have q : b ≠ w.heap.size := by omega
              rw [Below.heap_alloc _ _ _ (by simp; omega), Below.heap_setCell _ _ _ _ q, Below.heap_setCell _ _ _ _ q, Below.heap_setCell _ _ _ _ q, Below.heap_setCell _ _ _ _ q])
          (by have q : w.heap.size + 1 ≠ w.heap.size := by omega
              rw [Below.heap_alloc _ _ _ (by simp; omega), Below.heap_setCell _ _ _ _ q, Below.heap_setCell _ _ _ _ q, Below.heap_setCell _ _ _ _ q, Below.heap_setCell _ _ _ _ q])
          (by rw [← HV.out.1, ← HV.out.2.1, ← HV.out.2.2]; exact hob2.old _) (fun u hu h => by rw [HY.out.1 u hu] at h; cases h)
        clear hob2
        go_roundw
        case rel => exact ⟨_, _, hF⟩
        case measure => rw [hF.1.left_eq, HRG.out.left_eq]; exact hx4
      · have HY := Lib.hid (And.intro ht (And.intro htl (And.intro hmin (hobK _ hob)))); clear ht htl hmin hob hobK hH
        have HST := Lib.hid (HP.out.2.1 t HY.out.1)
        have hcm := fun W => compareTo_any o x t HX.out.2.2.2.2.2.2.1.2.1 HST.out.2.1 W
        have hneg := o.cmp_neg x t
        have HN := Lib.hid hneg; clear hneg
        rw [show stV o x = .agg #[.int .i64 x, .int .i64 (o.p x), .int .i64 (o.f x), .int .i64 (o.a x)] from rfl, show stV o t = .agg #[.int .i64 t, .int .i64 (o.p t), .int .i64 (o.f t), .int .i64 (o.a t)] from rfl, ← HV.out.1, ← HV.out.2.1, ← HV.out.2.2] at hcm
        have HC := Lib.hid hcm; clear hcm
        have HOB := Lib.hid HY.out.2.2.2
        obtain ⟨P2, hP2⟩ : ∃ P2, P2 = o.p t := ⟨_, rfl⟩
        obtain ⟨F2, hF2⟩ : ∃ F2, F2 = o.f t := ⟨_, rfl⟩
        obtain ⟨A2, hA2⟩ : ∃ A2, A2 = o.a t := ⟨_, rfl⟩
        rw [← hP2, ← hF2, ← hA2] at HC HOB
        have HV2 := Lib.hid (And.intro hP2 (And.intro hF2 hA2)); clear hP2 hF2 hA2
        obtain ⟨c0, c1, c2, c3, f0, f1, f2, f3⟩ := HOB.out.four
        have hne : w.heap.size < w1.heap.size := by have := HX.out.2.2.2.2.2.1; omega
        have hne2 : w.heap.size ≠ w1.heap.size := by omega
        have HNW := Lib.hid (ObAt.new w1 81 #[.int .i64 x, .int .i64 P, .int .i64 F, .int .i64 A])
        generalize o.cmp x t = z at *
        go_wp2_with fail
        refine (HC.out _).mono ?_; rintro e w5 ⟨rfl, b5⟩
        have HG5 := Lib.hid (And.intro (HNW.out.keep b5) (And.intro ((HOB.out.old _).keep b5) b5)); clear b5
        clear c0 c1 c2 c3 f0 f1 f2 f3
        obtain ⟨g0, g1, g2, g3, -, -, -, -⟩ := HG5.out.1.four
        obtain ⟨c0, c1, c2, c3, f0, f1, f2, f3⟩ := HG5.out.2.1.four
        have hbl := HBL.out
        obtain ⟨hx1, hx2, hx3, hx4, hx5, hx6, hx7, hx8⟩ := HX.out
        have hb5 : Below w.heap.size w w5 := (hx5.alloc (Nat.le_of_lt hne) _).trans (HG5.out.2.2.mono (by simp; omega))
        have hk5 : ∀ k, k < w1.heap.size → w5.heap[k]? = w1.heap[k]? := fun k hk => by
          rw [HG5.out.2.2.block k (by simp; omega), Below.heap_alloc _ _ _ hk]
        have HH := Lib.hid (And.intro hx1 (And.intro hx3 (And.intro hx4 (And.intro hx8 (And.intro hb5 (And.intro hk5 (And.intro hbl (And.intro hx6 hx2)))))))); clear hx1 hx2 hx3 hx4 hx5 hx6 hx7 hx8 hb5 hk5 hbl
        by_cases hz : z < 0
        · have HBF : Hid (o.bef x t) := Lib.hid (by have := HN.out; simpa [hz] using this.symm)
          go_wp2_with fail
          obtain ⟨hx1, hx3, hx4, hx8, hb5, hk5, hbl, hx6, hx2⟩ := HH.out
          have hob2 := (((HG5.out.2.1.put 0 (.int .i64 x)).put 1 (.int .i64 P)).put 2 (.int .i64 F)).put 3 (.int .i64 A)
          have hF := FsAt.turn (wr := wr) (nn := .bool true) (cnt := cnt) (w5 := ((((w5.setCell ⟨w.heap.size, 0, none⟩ (.int .i64 x)).setCell ⟨w.heap.size, 1, none⟩ (.int .i64 P)).setCell ⟨w.heap.size, 2, none⟩ (.int .i64 F)).setCell ⟨w.heap.size, 3, none⟩ (.int .i64 A))) hx1 hx3 (by
              exact (((hb5.setCell (by simp) _).setCell (by simp) _).setCell (by simp) _).setCell (by simp) _) hx8
            (by have q : b ≠ w.heap.size := by omega
                rw [Below.heap_setCell _ _ _ _ q, Below.heap_setCell _ _ _ _ q, Below.heap_setCell _ _ _ _ q, Below.heap_setCell _ _ _ _ q, hk5 _ (by omega)])
            (by have q : w.heap.size + 1 ≠ w.heap.size := by omega
                rw [Below.heap_setCell _ _ _ _ q, Below.heap_setCell _ _ _ _ q, Below.heap_setCell _ _ _ _ q, Below.heap_setCell _ _ _ _ q, hk5 _ (by omega)])
            (by rw [← HV.out.1, ← HV.out.2.1, ← HV.out.2.2]; exact hob2) (fun u hu h => by
              rcases HY.out.2.2.1 u hu h with e | e
              · rw [e]; exact HBF.out
              · exact Ord3.bef_trans HBF.out e)
          clear hob2
          go_roundw
          case rel => exact ⟨_, _, hF⟩
          case measure => rw [hF.1.left_eq, HRG.out.left_eq]; exact hx4
        · have HBF : Hid (o.bef t x) := Lib.hid (by
            have h1 := HN.out
            have h2 : ¬ o.bef x t := by simpa [hz] using h1.symm
            have hxt : x ≠ t := fun e => by
              subst e
              have q1 := HY.out.2.1
              have q2 := HH.out.2.2.2.2.2.2.2.2
              rw [q1] at q2; cases q2
            rcases Ord3.bef_total (o := o) hxt with h | h
            · exact absurd h h2
            · exact h)
          go_wp2_with fail
          obtain ⟨hx1, hx3, hx4, hx8, hb5, hk5, hbl, hx6, hx2⟩ := HH.out
          have hF := FsAt.stays (wr := wr) (w5 := w5) (cnt := cnt) HY.out.1 HY.out.2.1 hx3 hb5 hx8 (hk5 _ (by omega)) (hk5 _ (by omega)) (by rw [← HV2.out.1, ← HV2.out.2.1, ← HV2.out.2.2]; exact HG5.out.2.1) HY.out.2.2.1 HBF.out
          go_roundw
          case rel => exact ⟨_, _, hF⟩
          case measure => rw [hF.1.left_eq, HRG.out.left_eq]; exact hx4
end Go.Proofs.Ythbkclgdoopbpaa
