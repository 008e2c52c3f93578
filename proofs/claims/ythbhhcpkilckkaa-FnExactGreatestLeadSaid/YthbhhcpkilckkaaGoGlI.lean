/-
  Goals: GreatestLead: the program's.
-/
import Derived.Test.YthbhhcpkilckkaaGoGl
import Derived.Test.YthbhhcpkilckkaaGoAheadI
import Derived.Deep.CutRange
namespace Go.Proofs.Ythbhhcpkilckkaa
open Go.RowKit
set_option linter.unusedVariables false
set_option linter.unusedSimpArgs false

theorem one_heap (w : World) (g f : Nat) (v : Value) (k : Nat) (h : k ≠ g) : (w.setCell ⟨g, f, none⟩ v).heap[k]? = w.heap[k]? := Below.heap_setCell _ _ _ _ h
theorem NowAt.put0 {w : World} {g : Nat} {x : Int × Int} (h : NowAt w g x) (a : Int) : NowAt (w.setCell ⟨g, 0, none⟩ (.int .i64 a)) g (a, x.2) := by
  unfold NowAt at *
  have h0 := setRow_heap w g _ (#[.int .i64 x.1, .int .i64 x.2].setIfInBounds 0 (.int .i64 a)) _ _ h
  rw [← setCell_eq_setRow w g 0 _ _ _ _ h] at h0
  exact h0
theorem NowAt.put1 {w : World} {g : Nat} {x : Int × Int} (h : NowAt w g x) (b : Int) : NowAt (w.setCell ⟨g, 1, none⟩ (.int .i64 b)) g (x.1, b) := by
  unfold NowAt at *
  have h0 := setRow_heap w g _ (#[.int .i64 x.1, .int .i64 x.2].setIfInBounds 1 (.int .i64 b)) _ _ h
  rw [← setCell_eq_setRow w g 1 _ _ _ _ h] at h0
  exact h0

set_option maxHeartbeats 3200000 in
theorem implGl_any (ks : List Int) (game : ByteArray) (a : Option Addr) (c : Nat) (w : World) (hl : (ks.length : Int) ≤ 1000000000000) (hs : (game.size : Int) ≤ 1048576) (h : Reads w a (ints ks)) :
    Calls Try.prog 52 #[.slice a ks.length c, .string game] w fun e w' => e = .returned (.tuple #[.int .i64 (leadG mlA (playG ks game.data.toList)), .int .i64 (leadG mlB (playG ks game.data.toList)), .bool (playG ks game.data.toList).isSome]) ∧ Below w.heap.size w w' := by
  have HS := Lib.hid (scoresOf_any ks game a c w hl hs h); clear h
  cases hp : playG ks game.data.toList with
  | none =>
    have HP := Lib.hid hp; clear hp
    go_enter Try.func52, Try.ntmps52
    go_wp2_with fail
    refine HS.out.mono ?_; rintro e w1 ⟨-, hn, b1⟩
    obtain rfl := hn HP.out
    clear hn
    have hz := b1.size
    have HB := Lib.hid (b1.alloc hz (.cells #[.int .i64 0, .int .i64 0] 62))
    go_wp2_with fail
    refine wp_loop_rounds 1 ?_
    rw [rounds_succ]
    obtain ⟨r0, r1⟩ := two_new w1 (.int .i64 0) (.int .i64 0) 62
    go_wp2_with fail
    go_quiet (fail)
    go_wp2_with fail
    refine bodyPost_ret (v := .tuple #[.int .i64 0, .int .i64 0, .bool false]) (by simp [results, Try.results52, go_sem]) rfl ⟨rfl, below_drewN HB.out _⟩
  | some L =>
    obtain ⟨hg, hgm, hL60⟩ := playG_some hp
    have HBD := Lib.hid (fun k hk => scoresG_bd hg hgm (k := k) hk)
    have HP := Lib.hid hp; clear hp
    have hsl := scoresG_len L
    have hv : leadG mlA (some L) = (scoresG L).foldl mlA 0 := rfl
    have hv2 : leadG mlB (some L) = (scoresG L).foldl mlB 0 := rfl
    rw [hv, hv2]; clear hv hv2
    rw [HP.out] at HS
    have HRW : Hid (∀ w' e, ScoresR (some L) w e w' → ∃ v, e = .returned (.tuple #[v, .bool true]) ∧ w'.ownsRow w.heap.size 62 2 v (L.length + 1) (prs (scoresG L)) ∧ Below w.heap.size w w') := fun w' e ⟨h1, _, h3⟩ => by obtain ⟨v, e1, e2⟩ := h1 L rfl; exact ⟨v, e1, e2, h3⟩
    clear hgm hg
    generalize scoresG L = sc at *
    have HSL := Lib.hid hsl
    generalize hn : L.length + 1 = n at *
    have HNL := Lib.hid hn; clear hn hsl
    have hn61 : (n : Int) ≤ 61 := by have := HNL.out; omega
    have hn1 : 0 < n := by have := HNL.out; omega
    go_enter Try.func52, Try.ntmps52
    go_wp2_with fail
    refine HS.out.mono ?_; rintro e w0 hsr
    obtain ⟨v, rfl, hrow, b1⟩ := HRW.out _ _ hsr
    clear hsr
    obtain ⟨g, cap, rfl, hlt, hc⟩ := prs_cells hrow HSL.out hn1
    have hz0 := b1.size
    have hN := NowAt.new w0 0 0
    have HC : Hid (g < w0.heap.size ∧ (∀ j, j < n → w0.cell? ⟨g, j * 2, none⟩ = some (.int .i64 (sc.getD j (0, 0)).1) ∧ w0.cell? ⟨g, j * 2 + 1, none⟩ = some (.int .i64 (sc.getD j (0, 0)).2)) ∧ Below w.heap.size w w0) := ⟨hlt, hc, b1⟩
    have HN := Lib.hid hN; clear hc b1 hrow hlt hN
    go_wp2_with fail
    have HB0 := Lib.hid (below_new w0 (.cells #[.int .i64 0, .int .i64 0] 62))
    generalize w0.alloc (.cells #[.int .i64 0, .int .i64 0] 62) = W0 at *
    generalize hgn : w0.heap.size = gn at *
    go_loopw [20] (fun i wr => ∃ (k : Nat) (m d : Int), i = .int .i64 k ∧ k ≤ n ∧ 0 ≤ m ∧ m ≤ 1200 ∧ 0 ≤ d ∧ d ≤ 1200 ∧ Hid ((sc.drop k).foldl mlA m = sc.foldl mlA 0) ∧ Hid ((sc.drop k).foldl mlB d = sc.foldl mlB 0) ∧ Hid (NowAt wr gn (m, d)) ∧ Hid (Below gn w0 wr)) (fun i _ => n - (intOf i).toNat)
    case atStart => exact ⟨0, 0, 0, rfl, Nat.zero_le _, by omega, by omega, by omega, by omega, Lib.hid rfl, Lib.hid rfl, HN, HB0⟩
    case round =>
      clear HN HB0
      obtain ⟨k, m, d, rfl, hk, m0, m1, d0, d1, hF, hG, hN, hB⟩ := hrel
      by_cases hkn : k < n
      · have b1 : (k : Int) < (n : Int) := by omega
        obtain ⟨c0, c1⟩ := HC.out.2.1 k hkn
        rw [← hB.out.cell (p := ⟨g, k * 2, none⟩) HC.out.1] at c0
        rw [← hB.out.cell (p := ⟨g, k * 2 + 1, none⟩) HC.out.1] at c1
        obtain ⟨x1, x2, x3, x4⟩ := HBD.out k (by have := HNL.out; omega)
        have hfd := drop_pair (l := sc) (k := k) (by rw [HSL.out]; exact hkn)
        have hF2 := hF.out
        have hG2 := hG.out
        rw [hfd, List.foldl_cons] at hF2 hG2
        generalize sc.getD k (0, 0) = s at *
        obtain ⟨x, y⟩ := s
        simp only at x1 x2 x3 x4 c0 c1
        have HF2 : Hid (List.foldl mlA (mostI m (x - y)) (sc.drop (k + 1)) = sc.foldl mlA 0) := hF2
        have HG2 : Hid (List.foldl mlB (mostI d (y - x)) (sc.drop (k + 1)) = sc.foldl mlB 0) := hG2
        clear hF hG hfd hF2 hG2
        have HLE0 := Lib.hid (fun W => leadOf_any x y 97 W x1 (by omega) x3 (by omega))
        have HLE1 := Lib.hid (fun W => leadOf_any x y 98 W x1 (by omega) x3 (by omega))
        rw [lead_a (x, y)] at HLE0
        rw [lead_b (x, y)] at HLE1
        have hm1 : max m (x - y) = mostI m (x - y) := by unfold mostI; split <;> omega
        have hm2 : max d (y - x) = mostI d (y - x) := by unfold mostI; split <;> omega
        obtain ⟨o1, o2⟩ := mostI_bd m0 m1 (e := x - y) (by omega) (by omega)
        obtain ⟨o3, o4⟩ := mostI_bd d0 d1 (e := y - x) (by omega) (by omega)
        generalize mostI m (x - y) = m' at *
        generalize mostI d (y - x) = d' at *
        simp only at HLE0 HLE1
        generalize x - y = e1 at *
        generalize y - x = e2 at *
        have hz := hB.out.size
        have HP0 : Hid (NowAt (wr.alloc (.cells #[.int .i64 x, .int .i64 y] 62)) gn (m, d) ∧ NowAt (wr.alloc (.cells #[.int .i64 x, .int .i64 y] 62)) wr.heap.size (x, y) ∧ Below gn w0 (wr.alloc (.cells #[.int .i64 x, .int .i64 y] 62))) :=
          ⟨hN.out.keep (below_new wr _), NowAt.new wr x y, hB.out.alloc (by omega) _⟩
        go_upto_region 6 with (fail)
        generalize wr.alloc (.cells #[.int .i64 x, .int .i64 y] 62) = W at *
        have hgp : gn < wr.heap.size := hN.out.lt
        generalize wr.heap.size = pn at *
        go_cut [20] from 24 to 36 (fun s20 wx => s20 = .int .i64 (k : Int) ∧ Hid (NowAt wx gn (m', d) ∧ NowAt wx pn (x, y) ∧ Below gn w0 wx))
        case first =>
          have HWW := HP0
          refine wp_region_any (by kernel_rfl) ?_
          change wpAny _ _ _ _ _ _ _ (World.drew _)
          have HV := Lib.hid (show NowAt (World.drew W) gn (m, d) ∧ NowAt (World.drew W) pn (x, y) ∧ Below gn w0 (World.drew W) from ⟨HP0.out.1, HP0.out.2.1, Below.drew HP0.out.2.2⟩)
          generalize World.drew W = V at *
          (refine wpAny_take (i := 0) (v := ?_) rfl (by kernel_rfl) (by kernel_rfl) (by kernel_rfl) (fun _ _ _ h => h) (Or.inl ⟨by kernel_rfl, ?_⟩) ?_; rotate_left; focus (intro w; go_simp; try with_reducible rfl); (try simp only [List.getElem_toArray, List.getElem_cons_succ, List.getElem_cons_zero, Act.put, List.setIfInBounds_toArray, List.set_cons_zero, List.set_cons_succ]))
          refine wpAny_ready (rs := [1, 2]) (by kernel_rfl) (by simp) (AllReady.cons rfl (fun K hK => ?_) (AllReady.cons rfl (fun K hK => ?_) AllReady.nil))
          · obtain ⟨g0, g1, -, -⟩ := HV.out.1.cells
            have HK := Lib.hid hK; clear hK
            simp only at g0 g1
            go_simp
            clear g0 g1
            refine HK.out _ _ ?_
            clear HK K
            (try simp only [List.getElem_toArray, List.getElem_cons_succ, List.getElem_cons_zero, Act.put, List.setIfInBounds_toArray, List.set_cons_zero, List.set_cons_succ])
            refine wpAny_ready (rs := [2]) (by kernel_rfl) (by simp) (AllReady.cons rfl (fun K hK => ?_) AllReady.nil)
            obtain ⟨g0, g1, -, -⟩ := HV.out.2.1.cells
            have HK := Lib.hid hK; clear hK
            simp only at g0 g1
            go_simp
            clear g0 g1
            refine HK.out _ _ ?_
            clear HK K
            (try simp only [List.getElem_toArray, List.getElem_cons_succ, List.getElem_cons_zero, Act.put, List.setIfInBounds_toArray, List.set_cons_zero, List.set_cons_succ])
            refine wpAny_ready (rs := [3]) (by kernel_rfl) (by simp) (AllReady.cons rfl (fun K hK => ?_) AllReady.nil)
            have HK := Lib.hid hK; clear hK
            go_simp
            go_at_call 80
            refine (HLE0.out _).mono ?_; rintro r w9 ⟨rfl, b9⟩
            have HW := Lib.hid (And.intro (HV.out.1.keep b9) (And.intro (HV.out.2.1.keep b9) (HV.out.2.2.trans (b9.mono (by have := HV.out.2.2.size; omega))))); clear b9
            go_wp2_with fail
            refine HK.out _ _ ?_
            clear HK K
            (try simp only [List.getElem_toArray, List.getElem_cons_succ, List.getElem_cons_zero, Act.put, List.setIfInBounds_toArray, List.set_cons_zero, List.set_cons_succ])
            (refine wpAny_take (i := 4) (v := ?_) rfl (by kernel_rfl) (by kernel_rfl) (by kernel_rfl) (fun _ _ _ h => h) (Or.inl ⟨by kernel_rfl, ?_⟩) ?_; rotate_left; focus (intro w; go_simp; try with_reducible rfl); (try simp only [List.getElem_toArray, List.getElem_cons_succ, List.getElem_cons_zero, Act.put, List.setIfInBounds_toArray, List.set_cons_zero, List.set_cons_succ]))
            (refine wpAny_take (i := 5) (v := ?_) rfl (by kernel_rfl) (by kernel_rfl) (by kernel_rfl) (fun _ _ _ h => h) (Or.inl ⟨by kernel_rfl, ?_⟩) ?_; rotate_left; focus (intro w; go_simp; try with_reducible rfl); (try simp only [List.getElem_toArray, List.getElem_cons_succ, List.getElem_cons_zero, Act.put, List.setIfInBounds_toArray, List.set_cons_zero, List.set_cons_succ]))
            refine wpAny_ready (rs := [6]) (by kernel_rfl) (by simp) (AllReady.cons rfl (fun K hK => ?_) AllReady.nil)
            obtain ⟨-, -, z0, z1⟩ := HW.out.1.cells
            obtain ⟨g0, g1, -, -⟩ := HW.out.1.cells
            have HF := Lib.hid (And.intro (HW.out.1.put0 m') (And.intro (HW.out.2.1.other (one_heap w9 gn 0 (.int .i64 m') pn (by omega))) (HW.out.2.2.setCell (p := ⟨gn, 0, none⟩) (Nat.le_refl _) (.int .i64 m'))))
            have HK := Lib.hid hK; clear hK
            simp only at g0 g1
            go_simp
            clear g0 g1 z0 z1
            refine HK.out _ _ ?_
            clear HK K
            (try simp only [List.getElem_toArray, List.getElem_cons_succ, List.getElem_cons_zero, Act.put, List.setIfInBounds_toArray, List.set_cons_zero, List.set_cons_succ])
            refine wpAny_done (by kernel_rfl) ?_ _
            go_wp2_with fail
            go_meet
            first | exact ⟨rfl, HF⟩ | (rw [hm1]; exact ⟨rfl, HF⟩)
          · obtain ⟨g0, g1, -, -⟩ := HV.out.2.1.cells
            have HK := Lib.hid hK; clear hK
            simp only at g0 g1
            go_simp
            clear g0 g1
            refine HK.out _ _ ?_
            clear HK K
            (try simp only [List.getElem_toArray, List.getElem_cons_succ, List.getElem_cons_zero, Act.put, List.setIfInBounds_toArray, List.set_cons_zero, List.set_cons_succ])
            refine wpAny_ready (rs := [1, 3]) (by kernel_rfl) (by simp) (AllReady.cons rfl (fun K hK => ?_) (AllReady.cons rfl (fun K hK => ?_) AllReady.nil))
            · obtain ⟨g0, g1, -, -⟩ := HV.out.1.cells
              have HK := Lib.hid hK; clear hK
              simp only at g0 g1
              go_simp
              clear g0 g1
              refine HK.out _ _ ?_
              clear HK K
              (try simp only [List.getElem_toArray, List.getElem_cons_succ, List.getElem_cons_zero, Act.put, List.setIfInBounds_toArray, List.set_cons_zero, List.set_cons_succ])
              refine wpAny_ready (rs := [3]) (by kernel_rfl) (by simp) (AllReady.cons rfl (fun K hK => ?_) AllReady.nil)
              have HK := Lib.hid hK; clear hK
              go_simp
              go_at_call 80
              refine (HLE0.out _).mono ?_; rintro r w9 ⟨rfl, b9⟩
              have HW := Lib.hid (And.intro (HV.out.1.keep b9) (And.intro (HV.out.2.1.keep b9) (HV.out.2.2.trans (b9.mono (by have := HV.out.2.2.size; omega))))); clear b9
              go_wp2_with fail
              refine HK.out _ _ ?_
              clear HK K
              (try simp only [List.getElem_toArray, List.getElem_cons_succ, List.getElem_cons_zero, Act.put, List.setIfInBounds_toArray, List.set_cons_zero, List.set_cons_succ])
              (refine wpAny_take (i := 4) (v := ?_) rfl (by kernel_rfl) (by kernel_rfl) (by kernel_rfl) (fun _ _ _ h => h) (Or.inl ⟨by kernel_rfl, ?_⟩) ?_; rotate_left; focus (intro w; go_simp; try with_reducible rfl); (try simp only [List.getElem_toArray, List.getElem_cons_succ, List.getElem_cons_zero, Act.put, List.setIfInBounds_toArray, List.set_cons_zero, List.set_cons_succ]))
              (refine wpAny_take (i := 5) (v := ?_) rfl (by kernel_rfl) (by kernel_rfl) (by kernel_rfl) (fun _ _ _ h => h) (Or.inl ⟨by kernel_rfl, ?_⟩) ?_; rotate_left; focus (intro w; go_simp; try with_reducible rfl); (try simp only [List.getElem_toArray, List.getElem_cons_succ, List.getElem_cons_zero, Act.put, List.setIfInBounds_toArray, List.set_cons_zero, List.set_cons_succ]))
              refine wpAny_ready (rs := [6]) (by kernel_rfl) (by simp) (AllReady.cons rfl (fun K hK => ?_) AllReady.nil)
              obtain ⟨-, -, z0, z1⟩ := HW.out.1.cells
              obtain ⟨g0, g1, -, -⟩ := HW.out.1.cells
              have HF := Lib.hid (And.intro (HW.out.1.put0 m') (And.intro (HW.out.2.1.other (one_heap w9 gn 0 (.int .i64 m') pn (by omega))) (HW.out.2.2.setCell (p := ⟨gn, 0, none⟩) (Nat.le_refl _) (.int .i64 m'))))
              have HK := Lib.hid hK; clear hK
              simp only at g0 g1
              go_simp
              clear g0 g1 z0 z1
              refine HK.out _ _ ?_
              clear HK K
              (try simp only [List.getElem_toArray, List.getElem_cons_succ, List.getElem_cons_zero, Act.put, List.setIfInBounds_toArray, List.set_cons_zero, List.set_cons_succ])
              refine wpAny_done (by kernel_rfl) ?_ _
              go_wp2_with fail
              go_meet
              first | exact ⟨rfl, HF⟩ | (rw [hm1]; exact ⟨rfl, HF⟩)
            · have HK := Lib.hid hK; clear hK
              go_simp
              go_at_call 80
              refine (HLE0.out _).mono ?_; rintro r w9 ⟨rfl, b9⟩
              have HW := Lib.hid (And.intro (HV.out.1.keep b9) (And.intro (HV.out.2.1.keep b9) (HV.out.2.2.trans (b9.mono (by have := HV.out.2.2.size; omega))))); clear b9
              go_wp2_with fail
              refine HK.out _ _ ?_
              clear HK K
              (try simp only [List.getElem_toArray, List.getElem_cons_succ, List.getElem_cons_zero, Act.put, List.setIfInBounds_toArray, List.set_cons_zero, List.set_cons_succ])
              refine wpAny_ready (rs := [1]) (by kernel_rfl) (by simp) (AllReady.cons rfl (fun K hK => ?_) AllReady.nil)
              obtain ⟨g0, g1, -, -⟩ := HW.out.1.cells
              have HK := Lib.hid hK; clear hK
              simp only at g0 g1
              go_simp
              clear g0 g1
              refine HK.out _ _ ?_
              clear HK K
              (try simp only [List.getElem_toArray, List.getElem_cons_succ, List.getElem_cons_zero, Act.put, List.setIfInBounds_toArray, List.set_cons_zero, List.set_cons_succ])
              (refine wpAny_take (i := 4) (v := ?_) rfl (by kernel_rfl) (by kernel_rfl) (by kernel_rfl) (fun _ _ _ h => h) (Or.inl ⟨by kernel_rfl, ?_⟩) ?_; rotate_left; focus (intro w; go_simp; try with_reducible rfl); (try simp only [List.getElem_toArray, List.getElem_cons_succ, List.getElem_cons_zero, Act.put, List.setIfInBounds_toArray, List.set_cons_zero, List.set_cons_succ]))
              (refine wpAny_take (i := 5) (v := ?_) rfl (by kernel_rfl) (by kernel_rfl) (by kernel_rfl) (fun _ _ _ h => h) (Or.inl ⟨by kernel_rfl, ?_⟩) ?_; rotate_left; focus (intro w; go_simp; try with_reducible rfl); (try simp only [List.getElem_toArray, List.getElem_cons_succ, List.getElem_cons_zero, Act.put, List.setIfInBounds_toArray, List.set_cons_zero, List.set_cons_succ]))
              refine wpAny_ready (rs := [6]) (by kernel_rfl) (by simp) (AllReady.cons rfl (fun K hK => ?_) AllReady.nil)
              obtain ⟨-, -, z0, z1⟩ := HW.out.1.cells
              obtain ⟨g0, g1, -, -⟩ := HW.out.1.cells
              have HF := Lib.hid (And.intro (HW.out.1.put0 m') (And.intro (HW.out.2.1.other (one_heap w9 gn 0 (.int .i64 m') pn (by omega))) (HW.out.2.2.setCell (p := ⟨gn, 0, none⟩) (Nat.le_refl _) (.int .i64 m'))))
              have HK := Lib.hid hK; clear hK
              simp only at g0 g1
              go_simp
              clear g0 g1 z0 z1
              refine HK.out _ _ ?_
              clear HK K
              (try simp only [List.getElem_toArray, List.getElem_cons_succ, List.getElem_cons_zero, Act.put, List.setIfInBounds_toArray, List.set_cons_zero, List.set_cons_succ])
              refine wpAny_done (by kernel_rfl) ?_ _
              go_wp2_with fail
              go_meet
              first | exact ⟨rfl, HF⟩ | (rw [hm1]; exact ⟨rfl, HF⟩)
        case rest =>
          obtain ⟨ha20, HX⟩ := hcut
          subst ha20
          go_upto_region 7 with (fail)
          have HWW := HX
          refine wp_region_any (by kernel_rfl) ?_
          change wpAny _ _ _ _ _ _ _ (World.drew _)
          have HV := Lib.hid (show NowAt (World.drew wc) gn (m', d) ∧ NowAt (World.drew wc) pn (x, y) ∧ Below gn w0 (World.drew wc) from ⟨HX.out.1, HX.out.2.1, Below.drew HX.out.2.2⟩)
          generalize World.drew wc = V at *
          (refine wpAny_take (i := 0) (v := ?_) rfl (by kernel_rfl) (by kernel_rfl) (by kernel_rfl) (fun _ _ _ h => h) (Or.inl ⟨by kernel_rfl, ?_⟩) ?_; rotate_left; focus (intro w; go_simp; try with_reducible rfl); (try simp only [List.getElem_toArray, List.getElem_cons_succ, List.getElem_cons_zero, Act.put, List.setIfInBounds_toArray, List.set_cons_zero, List.set_cons_succ]))
          refine wpAny_ready (rs := [1, 2]) (by kernel_rfl) (by simp) (AllReady.cons rfl (fun K hK => ?_) (AllReady.cons rfl (fun K hK => ?_) AllReady.nil))
          · obtain ⟨g0, g1, -, -⟩ := HV.out.1.cells
            have HK := Lib.hid hK; clear hK
            simp only at g0 g1
            go_simp
            clear g0 g1
            refine HK.out _ _ ?_
            clear HK K
            (try simp only [List.getElem_toArray, List.getElem_cons_succ, List.getElem_cons_zero, Act.put, List.setIfInBounds_toArray, List.set_cons_zero, List.set_cons_succ])
            refine wpAny_ready (rs := [2]) (by kernel_rfl) (by simp) (AllReady.cons rfl (fun K hK => ?_) AllReady.nil)
            obtain ⟨g0, g1, -, -⟩ := HV.out.2.1.cells
            have HK := Lib.hid hK; clear hK
            simp only at g0 g1
            go_simp
            clear g0 g1
            refine HK.out _ _ ?_
            clear HK K
            (try simp only [List.getElem_toArray, List.getElem_cons_succ, List.getElem_cons_zero, Act.put, List.setIfInBounds_toArray, List.set_cons_zero, List.set_cons_succ])
            refine wpAny_ready (rs := [3]) (by kernel_rfl) (by simp) (AllReady.cons rfl (fun K hK => ?_) AllReady.nil)
            have HK := Lib.hid hK; clear hK
            go_simp
            go_at_call 80
            refine (HLE1.out _).mono ?_; rintro r w9 ⟨rfl, b9⟩
            have HW := Lib.hid (And.intro (HV.out.1.keep b9) (And.intro (HV.out.2.1.keep b9) (HV.out.2.2.trans (b9.mono (by have := HV.out.2.2.size; omega))))); clear b9
            go_wp2_with fail
            refine HK.out _ _ ?_
            clear HK K
            (try simp only [List.getElem_toArray, List.getElem_cons_succ, List.getElem_cons_zero, Act.put, List.setIfInBounds_toArray, List.set_cons_zero, List.set_cons_succ])
            (refine wpAny_take (i := 4) (v := ?_) rfl (by kernel_rfl) (by kernel_rfl) (by kernel_rfl) (fun _ _ _ h => h) (Or.inl ⟨by kernel_rfl, ?_⟩) ?_; rotate_left; focus (intro w; go_simp; try with_reducible rfl); (try simp only [List.getElem_toArray, List.getElem_cons_succ, List.getElem_cons_zero, Act.put, List.setIfInBounds_toArray, List.set_cons_zero, List.set_cons_succ]))
            (refine wpAny_take (i := 5) (v := ?_) rfl (by kernel_rfl) (by kernel_rfl) (by kernel_rfl) (fun _ _ _ h => h) (Or.inl ⟨by kernel_rfl, ?_⟩) ?_; rotate_left; focus (intro w; go_simp; try with_reducible rfl); (try simp only [List.getElem_toArray, List.getElem_cons_succ, List.getElem_cons_zero, Act.put, List.setIfInBounds_toArray, List.set_cons_zero, List.set_cons_succ]))
            refine wpAny_ready (rs := [6]) (by kernel_rfl) (by simp) (AllReady.cons rfl (fun K hK => ?_) AllReady.nil)
            obtain ⟨-, -, z0, z1⟩ := HW.out.1.cells
            obtain ⟨g0, g1, -, -⟩ := HW.out.1.cells
            have HF := Lib.hid (And.intro (HW.out.1.put1 d') (And.intro (HW.out.2.1.other (one_heap w9 gn 1 (.int .i64 d') pn (by omega))) (HW.out.2.2.setCell (p := ⟨gn, 1, none⟩) (Nat.le_refl _) (.int .i64 d'))))
            have HK := Lib.hid hK; clear hK
            simp only at g0 g1
            go_simp
            clear g0 g1 z0 z1
            refine HK.out _ _ ?_
            clear HK K
            (try simp only [List.getElem_toArray, List.getElem_cons_succ, List.getElem_cons_zero, Act.put, List.setIfInBounds_toArray, List.set_cons_zero, List.set_cons_succ])
            refine wpAny_done (by kernel_rfl) ?_ _
            go_wp2_with fail
            go_roundw
            case rel =>
              exact ⟨k + 1, m', d', by go_num, by omega, by omega, by omega, by omega, by omega, HF2, HG2, Lib.hid (by first | exact HF.out.1 | (rw [hm2]; exact HF.out.1)), Lib.hid (by first | exact HF.out.2.2 | (rw [hm2]; exact HF.out.2.2))⟩
            case measure => simp [intOf]; omega
          · obtain ⟨g0, g1, -, -⟩ := HV.out.2.1.cells
            have HK := Lib.hid hK; clear hK
            simp only at g0 g1
            go_simp
            clear g0 g1
            refine HK.out _ _ ?_
            clear HK K
            (try simp only [List.getElem_toArray, List.getElem_cons_succ, List.getElem_cons_zero, Act.put, List.setIfInBounds_toArray, List.set_cons_zero, List.set_cons_succ])
            refine wpAny_ready (rs := [1, 3]) (by kernel_rfl) (by simp) (AllReady.cons rfl (fun K hK => ?_) (AllReady.cons rfl (fun K hK => ?_) AllReady.nil))
            · obtain ⟨g0, g1, -, -⟩ := HV.out.1.cells
              have HK := Lib.hid hK; clear hK
              simp only at g0 g1
              go_simp
              clear g0 g1
              refine HK.out _ _ ?_
              clear HK K
              (try simp only [List.getElem_toArray, List.getElem_cons_succ, List.getElem_cons_zero, Act.put, List.setIfInBounds_toArray, List.set_cons_zero, List.set_cons_succ])
              refine wpAny_ready (rs := [3]) (by kernel_rfl) (by simp) (AllReady.cons rfl (fun K hK => ?_) AllReady.nil)
              have HK := Lib.hid hK; clear hK
              go_simp
              go_at_call 80
              refine (HLE1.out _).mono ?_; rintro r w9 ⟨rfl, b9⟩
              have HW := Lib.hid (And.intro (HV.out.1.keep b9) (And.intro (HV.out.2.1.keep b9) (HV.out.2.2.trans (b9.mono (by have := HV.out.2.2.size; omega))))); clear b9
              go_wp2_with fail
              refine HK.out _ _ ?_
              clear HK K
              (try simp only [List.getElem_toArray, List.getElem_cons_succ, List.getElem_cons_zero, Act.put, List.setIfInBounds_toArray, List.set_cons_zero, List.set_cons_succ])
              (refine wpAny_take (i := 4) (v := ?_) rfl (by kernel_rfl) (by kernel_rfl) (by kernel_rfl) (fun _ _ _ h => h) (Or.inl ⟨by kernel_rfl, ?_⟩) ?_; rotate_left; focus (intro w; go_simp; try with_reducible rfl); (try simp only [List.getElem_toArray, List.getElem_cons_succ, List.getElem_cons_zero, Act.put, List.setIfInBounds_toArray, List.set_cons_zero, List.set_cons_succ]))
              (refine wpAny_take (i := 5) (v := ?_) rfl (by kernel_rfl) (by kernel_rfl) (by kernel_rfl) (fun _ _ _ h => h) (Or.inl ⟨by kernel_rfl, ?_⟩) ?_; rotate_left; focus (intro w; go_simp; try with_reducible rfl); (try simp only [List.getElem_toArray, List.getElem_cons_succ, List.getElem_cons_zero, Act.put, List.setIfInBounds_toArray, List.set_cons_zero, List.set_cons_succ]))
              refine wpAny_ready (rs := [6]) (by kernel_rfl) (by simp) (AllReady.cons rfl (fun K hK => ?_) AllReady.nil)
              obtain ⟨-, -, z0, z1⟩ := HW.out.1.cells
              obtain ⟨g0, g1, -, -⟩ := HW.out.1.cells
              have HF := Lib.hid (And.intro (HW.out.1.put1 d') (And.intro (HW.out.2.1.other (one_heap w9 gn 1 (.int .i64 d') pn (by omega))) (HW.out.2.2.setCell (p := ⟨gn, 1, none⟩) (Nat.le_refl _) (.int .i64 d'))))
              have HK := Lib.hid hK; clear hK
              simp only at g0 g1
              go_simp
              clear g0 g1 z0 z1
              refine HK.out _ _ ?_
              clear HK K
              (try simp only [List.getElem_toArray, List.getElem_cons_succ, List.getElem_cons_zero, Act.put, List.setIfInBounds_toArray, List.set_cons_zero, List.set_cons_succ])
              refine wpAny_done (by kernel_rfl) ?_ _
              go_wp2_with fail
              go_roundw
              case rel =>
                exact ⟨k + 1, m', d', by go_num, by omega, by omega, by omega, by omega, by omega, HF2, HG2, Lib.hid (by first | exact HF.out.1 | (rw [hm2]; exact HF.out.1)), Lib.hid (by first | exact HF.out.2.2 | (rw [hm2]; exact HF.out.2.2))⟩
              case measure => simp [intOf]; omega
            · have HK := Lib.hid hK; clear hK
              go_simp
              go_at_call 80
              refine (HLE1.out _).mono ?_; rintro r w9 ⟨rfl, b9⟩
              have HW := Lib.hid (And.intro (HV.out.1.keep b9) (And.intro (HV.out.2.1.keep b9) (HV.out.2.2.trans (b9.mono (by have := HV.out.2.2.size; omega))))); clear b9
              go_wp2_with fail
              refine HK.out _ _ ?_
              clear HK K
              (try simp only [List.getElem_toArray, List.getElem_cons_succ, List.getElem_cons_zero, Act.put, List.setIfInBounds_toArray, List.set_cons_zero, List.set_cons_succ])
              refine wpAny_ready (rs := [1]) (by kernel_rfl) (by simp) (AllReady.cons rfl (fun K hK => ?_) AllReady.nil)
              obtain ⟨g0, g1, -, -⟩ := HW.out.1.cells
              have HK := Lib.hid hK; clear hK
              simp only at g0 g1
              go_simp
              clear g0 g1
              refine HK.out _ _ ?_
              clear HK K
              (try simp only [List.getElem_toArray, List.getElem_cons_succ, List.getElem_cons_zero, Act.put, List.setIfInBounds_toArray, List.set_cons_zero, List.set_cons_succ])
              (refine wpAny_take (i := 4) (v := ?_) rfl (by kernel_rfl) (by kernel_rfl) (by kernel_rfl) (fun _ _ _ h => h) (Or.inl ⟨by kernel_rfl, ?_⟩) ?_; rotate_left; focus (intro w; go_simp; try with_reducible rfl); (try simp only [List.getElem_toArray, List.getElem_cons_succ, List.getElem_cons_zero, Act.put, List.setIfInBounds_toArray, List.set_cons_zero, List.set_cons_succ]))
              (refine wpAny_take (i := 5) (v := ?_) rfl (by kernel_rfl) (by kernel_rfl) (by kernel_rfl) (fun _ _ _ h => h) (Or.inl ⟨by kernel_rfl, ?_⟩) ?_; rotate_left; focus (intro w; go_simp; try with_reducible rfl); (try simp only [List.getElem_toArray, List.getElem_cons_succ, List.getElem_cons_zero, Act.put, List.setIfInBounds_toArray, List.set_cons_zero, List.set_cons_succ]))
              refine wpAny_ready (rs := [6]) (by kernel_rfl) (by simp) (AllReady.cons rfl (fun K hK => ?_) AllReady.nil)
              obtain ⟨-, -, z0, z1⟩ := HW.out.1.cells
              obtain ⟨g0, g1, -, -⟩ := HW.out.1.cells
              have HF := Lib.hid (And.intro (HW.out.1.put1 d') (And.intro (HW.out.2.1.other (one_heap w9 gn 1 (.int .i64 d') pn (by omega))) (HW.out.2.2.setCell (p := ⟨gn, 1, none⟩) (Nat.le_refl _) (.int .i64 d'))))
              have HK := Lib.hid hK; clear hK
              simp only at g0 g1
              go_simp
              clear g0 g1 z0 z1
              refine HK.out _ _ ?_
              clear HK K
              (try simp only [List.getElem_toArray, List.getElem_cons_succ, List.getElem_cons_zero, Act.put, List.setIfInBounds_toArray, List.set_cons_zero, List.set_cons_succ])
              refine wpAny_done (by kernel_rfl) ?_ _
              go_wp2_with fail
              go_roundw
              case rel =>
                exact ⟨k + 1, m', d', by go_num, by omega, by omega, by omega, by omega, by omega, HF2, HG2, Lib.hid (by first | exact HF.out.1 | (rw [hm2]; exact HF.out.1)), Lib.hid (by first | exact HF.out.2.2 | (rw [hm2]; exact HF.out.2.2))⟩
              case measure => simp [intOf]; omega

      · obtain rfl : k = n := by omega
        have hend : m = sc.foldl mlA 0 := by rw [← hF.out, List.drop_of_length_le (by rw [HSL.out]; exact Nat.le_refl _)]; rfl
        have hend2 : d = sc.foldl mlB 0 := by rw [← hG.out, List.drop_of_length_le (by rw [HSL.out]; exact Nat.le_refl _)]; rfl
        have HE := Lib.hid (And.intro hend hend2); clear hend hend2
        obtain ⟨r0, r1, -, -⟩ := hN.out.cells
        have HBE : Hid (Below w.heap.size w wr) := HC.out.2.2.trans (hB.out.mono (by omega))
        go_wp2_with fail
        go_quiet (fail)
        go_wp2_with fail
        refine bodyPost_ret (v := .tuple #[.int .i64 m, .int .i64 d, .bool true]) (by simp [results, Try.results52, go_sem]) rfl ⟨by rw [← HE.out.1, ← HE.out.2]; rfl, below_drewN HBE.out _⟩
end Go.Proofs.Ythbhhcpkilckkaa
