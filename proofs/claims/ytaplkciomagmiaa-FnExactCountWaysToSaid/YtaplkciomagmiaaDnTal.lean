/-
  Darts: the program's tallies: the walk.
-/
import Derived.Test.YtaplkciomagmiaaDnTalA
namespace Go.Proofs.Ytaplkciomagmiaa
open Go.RowKit Go.Maps
set_option linter.unusedVariables false
set_option linter.unusedSimpArgs false

def TlW (w : World) (b gd k : Nat) (l : List (Int × Int)) (wr : World) : Prop := MapAt wr b k ∧ DcAt wr gd l ∧ Below w.heap.size w wr
theorem TlW.grown {w wr w' : World} {b gd k : Nat} {l : List (Int × Int)} (h : TlW w b gd k l wr) (hb : w.heap.size ≤ b) (hne : gd ≠ b) (hm : MapAt w' b (k + 1)) (hg : wr.grownBy w' (some b)) : TlW w b gd (k + 1) l w' := by
  obtain ⟨h1, h2, h3⟩ := h
  have e : w'.heap[gd]? = wr.heap[gd]? := hg.block gd h2.1 (by simp; exact hne)
  refine ⟨hm, ⟨?_, fun j hj => ?_⟩, h3.grown hg h3.size ?_⟩
  · have := hg.size; have := h2.1; omega
  · have := h2.2 j hj
    unfold World.cell? at this ⊢
    simp only [e]; exact this
  · rintro k hk; cases hk; exact hb
theorem map_lt {wr : World} {b k : Nat} (h : MapAt wr b k) : b < wr.heap.size := h.lt
theorem TlW.keep {w wr w' : World} {b gd k : Nat} {l : List (Int × Int)} (h : TlW w b gd k l wr) (hb : Below wr.heap.size wr w') : TlW w b gd k l w' :=
  ⟨owns_block h.1 (hb.block b (map_lt h.1)), h.2.1.keep hb, h.2.2.trans (hb.mono h.2.2.size)⟩
theorem TlW.put {w wr : World} {b gd k g c : Nat} {l : List (Int × Int)} (v : Value) (h : TlW w b gd k l wr) (hne : b ≠ g ∧ gd ≠ g ∧ w.heap.size ≤ g) : TlW w b gd k l (wr.setCell ⟨g, c, none⟩ v) :=
  ⟨owns_block h.1 (heap_setCell_other wr _ b v hne.1), h.2.1.other _ _ hne.2.1, h.2.2.setCell (p := ⟨g, c, none⟩) hne.2.2 v⟩

set_option maxRecDepth 8000 in
set_option maxHeartbeats 6400000 in
theorem tallies_any (w : World) :
    Calls Try.prog 56 #[] w fun e w' => ∃ b, e = .returned (.map (some b)) ∧ w.heap.size ≤ b ∧ MapAt w' b 3 ∧ Below w.heap.size w w' := by
  have HI := Lib.hid info181
  have hmm := @run_makeMap Try.prog
  go_enter Try.func56, Try.ntmps56
  go_wp2_with fail
  refine (allDarts_any _).mono ?_; rintro e w1 ⟨v, rfl, hown, b1⟩
  obtain ⟨gd, cap, rfl, hgd, hdc⟩ := dcells_of_own hown (by rw [allD_len]; omega)
  obtain ⟨l, hl⟩ : ∃ l, l = allD := ⟨_, rfl⟩
  rw [← hl] at hdc ⊢
  have hl62 : l.length ≤ 62 := by rw [hl, allD_len]; omega
  have HL := Lib.hid hl; clear hl
  have hm0 := World.ownsMap_made w1 Try.prog 3 heldR
  have HDC := Lib.hid (And.intro hdc (And.intro hgd b1)); clear hdc hgd b1 hown
  have HM0 := Lib.hid hm0; clear hm0
  have HK0 := Lib.hid (keyI 0 (by omega))
  go_wp2_with (refine wpList_insert_own _ rfl _ _ _ 61 rfl 3 60 keysInt Try.underlying61 heldR w1.heap.size 0 (.map []) rfl HM0.out (by unfold maxLen; omega) (.int .i64 ((0 : Nat) : Int)) (.agg (Try.zeroCells60.setIfInBounds 0 (.int .i64 1))) _ rfl rfl HK0.out (.held (.agg (Try.zeroCells60.setIfInBounds 0 (.int .i64 1)))) [] rfl ?_)
  intro w2 hm2 hg2
  rw [z181_is] at hm2
  have HS : Hid (TlW w w1.heap.size gd 0 l w2) := by
    obtain ⟨h1, h2, h3⟩ := HDC.out
    have e : w2.heap[gd]? = w1.heap[gd]? := by
      rw [hg2.block gd (by simp; have := h1.1; omega) (by simp; have := h1.1; omega)]
      exact (below_new w1 _).block gd h1.1
    refine Lib.hid ⟨hm2, ⟨?_, fun j hj => ?_⟩, (h3.trans ((below_new w1 _).mono h3.size)).grown hg2 ?_ ?_⟩
    · have := hg2.size; have := h1.1; simp at *; omega
    · have := h1.2 j hj
      unfold World.cell? at this ⊢
      simp only [e]; exact this
    · have := h3.size; simp; omega
    · rintro k hk; cases hk; exact h3.size
  have HNE : Hid (w.heap.size ≤ w1.heap.size ∧ gd ≠ w1.heap.size) := Lib.hid ⟨HDC.out.2.2.size, by have := HDC.out.1.1; omega⟩
  clear hm2 hg2 HM0 HDC HK0
  go_wp2_with fail
  generalize w1.heap.size = b at *
  go_loopw [3] (fun i wr => ∃ k : Nat, i = .int .i64 ((k : Int) + 1) ∧ k ≤ 3 ∧ Hid (TlW w b gd k l wr)) (fun i _ => 4 - (intOf i).toNat)
  case atStart => exact ⟨0, rfl, by omega, HS⟩
  case round =>
    clear HS
    obtain ⟨k, rfl, hk, hT⟩ := hrel
    by_cases hlt : k < 3
    · have b1 : (k : Int) + 1 ≤ 3 := by omega
      have HW1 : Hid (TlW w b gd k l (wr.alloc (.cells Try.zeroCells60 60)) ∧ RowAt (wr.alloc (.cells Try.zeroCells60 60)) wr.heap.size 60 (rowW 181 (pushV k ((0 : Nat) : Int) 0))) := by
        refine Lib.hid ⟨hT.out.keep (below_new _ _), ?_⟩
        rw [rowW_zero 181 (f := pushV k ((0 : Nat) : Int) 0) (fun i => pushV_start k i)]
        unfold RowAt; rw [← zc181]; exact heap_alloc_last wr _
      have HLook := Lib.hid (lookup_tally (n := k) HW1.out.1.1 hk (Nat.le_refl _))
      have HG4 : Hid (b ≠ wr.heap.size ∧ gd ≠ wr.heap.size ∧ w.heap.size ≤ wr.heap.size) := Lib.hid ⟨by have := map_lt hT.out.1; omega, by have := hT.out.2.1.1; omega, hT.out.2.2.size⟩
      clear hT
      go_wp2_with (at_lookup; refine wpList_lookup_run _ rfl _ _ 61 rfl b rfl _ (k : Int) rfl (by omega) _ HLook.out ?_)
      clear HLook
      generalize wr.alloc (.cells Try.zeroCells60 60) = W1 at *
      generalize wr.heap.size = g4 at *
      go_loopw [21] (fun i wr => ∃ c : Nat, i = .int .i64 c ∧ c ≤ 181 ∧ Hid (TlW w b gd k l wr ∧ RowAt wr g4 60 (rowW 181 (pushV k (c : Int) 0)))) (fun i _ => 181 - (intOf i).toNat)
      case atStart => exact ⟨0, rfl, by omega, HW1⟩
      case round =>
        clear HW1
        obtain ⟨c, rfl, hc, hC⟩ := hrel
        by_cases hc2 : c < 181
        · have b2 : (c : Int) < 181 := by omega
          have hix : ∀ w, (Instr.index 60 (.agg (tallyA k)) (.int .i64 (c : Int))).run Try.prog w = .ok (.int .i64 (ways k c)) w := fun w => index_tally k c (by omega) (by omega) w
          have hwb := ways_bd k (c : Int)
          have hp := pow62 k (by omega)
          have htop : ways k c ≠ 0 → c ≤ 120 := fun h => Decidable.byContradiction fun q => h (ways_top k c (by omega))
          have HSk := Lib.hid (fun h => pushV_skip k (c : Int) h)
          have HSt := Lib.hid (fun (j : Nat) (hj : j < l.length) (i : Int) => by
            have := pushV_step k (c : Int) (j := j) (by rw [← HL.out]; exact hj) i
            rw [← HL.out] at this; exact this)
          have HRo : Hid (∀ i, pushV k (c : Int) l.length i = pushV k ((c + 1 : Nat) : Int) 0 i) := Lib.hid (fun i => by rw [HL.out]; exact pushV_round k c i)
          generalize ways k c = x at *
          by_cases q : x = 0
          · have e0 : (x == 0) = true := by simp [q]
            have HC : Hid (TlW w b gd k l wr ∧ RowAt wr g4 60 (rowW 181 (pushV k ((c + 1 : Nat) : Int) 0))) := Lib.hid ⟨hC.out.1, by
              rw [show pushV k ((c + 1 : Nat) : Int) 0 = pushV k (c : Int) 0 from funext fun i => (HSk.out q i).symm]; exact hC.out.2⟩
            clear hC htop hp hwb q
            go_wp2_with fail
            go_roundw
            case rel => exact ⟨c + 1, by go_num, by omega, HC⟩
            case measure => simp [intOf]; omega
          · have e0 : (x == 0) = false := by simp [q]
            have hc120 := htop q
            have hx1 : x ≤ 3844 := Int.le_trans hwb.2 hp
            have hx0 := hwb.1
            clear htop hp hwb HSk q
            go_wp2_with fail
            go_loopw [29] (fun i wr => ∃ j : Nat, i = .int .i64 j ∧ j ≤ l.length ∧ Hid (TlW w b gd k l wr ∧ RowAt wr g4 60 (rowW 181 (pushV k (c : Int) j)))) (fun i _ => l.length - (intOf i).toNat)
            case atStart => exact ⟨0, rfl, Nat.zero_le _, hC⟩
            case round =>
              clear hC
              obtain ⟨j, rfl, hj, hW⟩ := hrel
              by_cases hjl : j < l.length
              · have b3 : (j : Int) < (l.length : Int) := by omega
                obtain ⟨c0, c1⟩ := hW.out.1.2.1.2 j hjl
                have hbd := allD_bd (l.getD j (0, 0)) (by rw [← HL.out]; simp [hjl])
                have hst := HSt.out j hjl
                generalize l.getD j (0, 0) = y at *
                obtain ⟨x1, x2⟩ := y
                simp only [scD] at hbd
                simp only at c0 c1
                obtain ⟨g5, g6, -, -, -, -⟩ := hbd
                have HST := Lib.hid hst; clear hst
                go_wp2_with fail
                refine (dartScore_any x1 x2 _ g5 g6).mono ?_; rintro e w2 ⟨rfl, bd2⟩
                have HW2 : Hid (TlW w b gd k l w2 ∧ RowAt w2 g4 60 (rowW 181 (pushV k (c : Int) j))) := Lib.hid ⟨(hW.out.1.keep (below_new _ _)).keep bd2, (hW.out.2.keep (below_new _ _)).keep bd2⟩
                clear hW bd2 c0 c1
                obtain ⟨p, hp⟩ : ∃ p : Nat, (c : Int) + x1 * x2 = (p : Int) := ⟨((c : Int) + x1 * x2).toNat, by omega⟩
                have b4 : (p : Int) < 181 := by omega
                have hpb := pushV_bd k (by omega) (c : Int) j (p : Int)
                have cp := HW2.out.2.cell (j := p) (by rw [rowW_len]; omega)
                rw [rowW_get _ (by omega), wrap64_in hpb.1 (by omega)] at cp
                have fp := HW2.out.2.free p
                have hnew : pushV k (c : Int) (j + 1) (p : Int) = pushV k (c : Int) j (p : Int) + x := by rw [HST.out, if_pos (show (p : Int) - scD (x1, x2) = (c : Int) by show (p : Int) - x1 * x2 = (c : Int); omega)]
                have hput := HW2.out.2.put (j := p) (by rw [rowW_len]; omega) (wrap64 (pushV k (c : Int) j (p : Int) + x))
                rw [rowW_put (f := pushV k (c : Int) (j + 1)) _ (by omega) hnew (fun i hi hne => by rw [HST.out, if_neg (show ¬ (i : Int) - scD (x1, x2) = (c : Int) by show ¬ (i : Int) - x1 * x2 = (c : Int); omega)]; omega), wrap64_in (by omega) (by omega)] at hput
                have HP := Lib.hid (And.intro (HW2.out.1.put (c := p) (.int .i64 (pushV k (c : Int) j (p : Int) + x)) HG4.out) hput)
                clear hput hnew HST HW2
                generalize pushV k (c : Int) j (p : Int) = y at *
                go_wp2_with fail
                go_roundw
                case rel => exact ⟨j + 1, by go_num, by omega, HP⟩
                case measure => simp [intOf]; omega
              · obtain rfl : j = l.length := by omega
                have HC : Hid (TlW w b gd k l wr ∧ RowAt wr g4 60 (rowW 181 (pushV k ((c + 1 : Nat) : Int) 0))) := Lib.hid ⟨hW.out.1, by
                  rw [show pushV k ((c + 1 : Nat) : Int) 0 = pushV k (c : Int) l.length from funext fun i => (HRo.out i).symm]; exact hW.out.2⟩
                have b3 : ¬ (l.length : Int) < (l.length : Int) := by omega
                clear hW
                go_wp2_with fail
                go_roundw
                case rel => exact ⟨c + 1, by go_num, by omega, HC⟩
                case measure => simp [intOf]; omega
        · obtain rfl : c = 181 := by omega
          have b2 : ¬ ((181 : Nat) : Int) < 181 := by omega
          have hrow : wr.heap[g4]? = some (.cells (tallyA (k + 1)) 60 (0, 0)) := by
            have h := hC.out.2
            unfold RowAt at h
            rw [tallyA_is, h, show rowW 181 (pushV k ((181 : Nat) : Int) 0) = tallyL (k + 1) from rowW_congr fun i hi => pushV_end k i (by omega)]
          have hsz : (Try.prog.info? 60).map (·.size) = some (tallyA (k + 1)).size := by rw [tallyA_size]; exact HI.out
          have HR := Lib.hid (And.intro hrow (And.intro hsz hC.out.1)); clear hrow hsz hC
          have HK := Lib.hid (keyI (k + 1) (by omega))
          have hmap := HR.out.2.2.1
          unfold MapAt at hmap
          have HM := Lib.hid hmap; clear hmap
          go_wp2_with (first | refine wpList_load_row rfl 60 _ rfl g4 rfl 60 (tallyA (k + 1)) (0, 0) _ HR.out.1 Try.underlying60 rfl HR.out.2.1 ?_ | (at_mapUpdate; refine wpList_mapUpdate_own _ rfl _ _ _ 61 rfl 3 60 keysInt Try.underlying61 heldR b (k + 1) (DM k) rfl HM.out (by unfold maxLen; omega) (.int .i64 ((k + 1 : Nat) : Int)) (.agg (tallyA (k + 1))) _ rfl rfl HK.out (.held (.agg (tallyA (k + 1)))) [] rfl ?_))
          intro w3 hm3 hg3
          have HS2 : Hid (TlW w b gd (k + 1) l w3) := Lib.hid (HR.out.2.2.grown HNE.out.1 HNE.out.2 hm3 hg3)
          clear hm3 hg3 HM HR HK
          go_wp2_with fail
          go_roundw
          case rel => exact ⟨k + 1, by go_num, by omega, HS2⟩
          case measure => simp [intOf]; omega
    · obtain rfl : k = 3 := by omega
      have b1 : ¬ ((3 : Nat) : Int) + 1 ≤ 3 := by omega
      go_wp2_with fail
      go_ret
      exact ⟨b, rfl, HNE.out.1, hT.out.1, hT.out.2.2⟩
end Go.Proofs.Ytaplkciomagmiaa
