/-
  Puzzles: the points that all solutions have: the program.
-/
import Derived.Test.YtcigighklghjkaaDoorPzSure
namespace Go.Proofs.YtcigighklghjkaaDoor
open Go.RowKit
set_option linter.unusedVariables false
set_option linter.unusedSimpArgs false

/-- A block of bytes. -/
def RowU (w : World) (g n : Nat) (fn : Nat → UInt8) : Prop := g < w.heap.size ∧ ∀ q, q < n → w.cell? ⟨g, q, none⟩ = some (.int .u8 ((fn q).toNat : Int)) ∧ w.frozen? ⟨g, q, none⟩ = false
theorem RowU.keep {w w' : World} {g n : Nat} {fn : Nat → UInt8} (h : RowU w g n fn) (hb : Below w.heap.size w w') : RowU w' g n fn :=
  ⟨Nat.lt_of_lt_of_le h.1 hb.size, fun q hq => by rw [hb.cell (p := ⟨g, q, none⟩) h.1, hb.frozen (p := ⟨g, q, none⟩) h.1]; exact h.2 q hq⟩
theorem RowU.congr {w : World} {g n : Nat} {fn fm : Nat → UInt8} (h : RowU w g n fn) (he : ∀ q, q < n → fm q = fn q) : RowU w g n fm :=
  ⟨h.1, fun q hq => by rw [he q hq]; exact h.2 q hq⟩
theorem RowU.put {w : World} {g n i : Nat} {fn : Nat → UInt8} (h : RowU w g n fn) (hi : i < n) (x : UInt8) : RowU (w.setCell ⟨g, i, none⟩ (.int .u8 (x.toNat : Int))) g n (fun q => if q = i then x else fn q) := by
  have same := World.cell?_setCell_same w ⟨g, i, none⟩ (.int .u8 (x.toNat : Int)) (h.2 i hi).1
  have other : ∀ j, j ≠ i → (w.setCell ⟨g, i, none⟩ (.int .u8 (x.toNat : Int))).cell? ⟨g, j, none⟩ = w.cell? ⟨g, j, none⟩ := fun j hj => World.cell?_setCell_other _ _ _ _ (by intro e; injection e; omega)
  refine ⟨by simpa [World.setCell] using h.1, fun q hq => ⟨?_, by rw [World.frozen?_setCell]; exact (h.2 q hq).2⟩⟩
  by_cases e : q = i
  · subst e; rw [same]; simp
  · rw [other q e, (h.2 q hq).1]; simp [e]
theorem RowU.conv (w : World) (f : ByteArray) : RowU (Lib.bytesWorld w 5 f) w.heap.size f.size (bat f) ∧ Below w.heap.size w (Lib.bytesWorld w 5 f) := by
  have hs := Lib.bytesWorld_size w 5 f
  refine ⟨⟨by omega, fun q hq => ⟨Lib.bytesWorld_cell w 5 f q hq, ?_⟩⟩, ⟨rfl, rfl, rfl, by omega, fun k hk => Lib.bytesWorld_at_old w 5 f k hk⟩⟩
  have h := Lib.bytesWorld_at_new w 5 f
  have hl : q < (Lib.bytesCells w 5 f).size := by
    unfold Lib.bytesCells
    have : f.data.size = f.size := rfl
    simp; omega
  unfold World.frozen?
  rw [h]
  simp; omega
def mixL (L : List ByteArray) (j i q : Nat) : UInt8 := if q < i then sureAt L (j + 1) q else sureAt L j q
theorem rix (s : ByteArray) (k : Nat) (h : k < s.size) (w : World) : (Instr.index 9 (.string s) (.int .i64 (k : Int))).run Tryd.prog w = .ok (.int .u8 ((bat s k).toNat : Int)) w := by
  rw [rindex s k h, bat_get]

set_option maxHeartbeats 800000 in
set_option maxRecDepth 100000 in
theorem implSure_any (p : Int) (l : List Cl) (ad : Option Addr) (c : Nat) (pe0 pe1 : Addr) (w : World) (hl : (l.length : Int) ≤ 1000000000000) (hr : Reads w ad (clus l)) (hd : PzDoor w pe0 pe1) :
    Calls Tryd.prog 31 #[.agg #[.int .i64 p, .slice ad l.length c]] w fun e w' => e = .returned (.tuple #[.string (sureO p l), .bool (someS (solsO p l))]) ∧ Below w.heap.size w w' := by
  have T0 := Lib.hid (PzB.new w p (.slice ad l.length c))
  obtain ⟨p0, p1, -⟩ := T0.out.full
  have HS := Lib.hid (implSolutions_any p l ad c pe0 pe1 _ hl (hr.old T0.out.2) (hd.keep T0.out.2)); clear hr hd
  have HSZ := Lib.hid (fun s hs => solsO_size (p := p) (l := l) s hs)
  have hLb := solsO_len p l
  have hsu : sureO p l = if someS (solsO p l) then ⟨(sureL (solsO p l) p.toNat).toArray⟩ else ⟨#[]⟩ := rfl
  rw [hsu]; clear hsu
  have h8 : 0 < (solsO p l).length → p.toNat ≤ 8 := fun h => by
    unfold solsO at h
    split at h
    · rename_i hg; have := (goodP_bd hg).1; omega
    · simp at h
  generalize goodP p l = o at *
  generalize solsO p l = L at *
  by_cases h0 : L.length = 0
  · obtain rfl : L = [] := List.length_eq_zero_iff.1 h0
    clear h0 HSZ hLb h8
    rw [show someS [] = false from rfl]
    simp only [Bool.false_eq_true, if_false]
    go_enter Tryd.func31, Tryd.ntmps31
    go_wp2_with fail
    refine HS.out.mono ?_; rintro e w1 ⟨v, rfl, h1⟩
    obtain ⟨ra, rc, rfl, -, -, -⟩ := own_cap h1.1
    have HB := Lib.hid (T0.out.2.trans (h1.2.mono T0.out.2.size)); clear h1 HS
    go_wp2_with fail
    refine bodyPost_ret (v := .tuple #[.string ⟨#[]⟩, .bool false]) ?_ rfl ⟨rfl, HB.out⟩
    simp [results, Tryd.results31, go_sem, *]
  · have hs : someS L = true := by unfold someS; exact decide_eq_true (by omega)
    rw [hs, if_pos rfl]; clear hs
    have hi0 : ¬ (L.length : Int) = 0 := by omega
    have hlt0 : (0 : Int) < (L.length : Int) := by omega
    have hlt0n : 0 < L.length := by omega
    have h8 := h8 hlt0n
    generalize p.toNat = pn at *
    have hf0 : (headS L).size = pn := HSZ.out _ (getD_mem L 0 hlt0n)
    have HS0 : Hid (∀ q, sureAt L 0 q = bat (headS L) q) := fun q => rfl
    have HS1 : Hid (∀ j q, sureAt L (j + 1) q = stepS (sureAt L j q) (bat (L.getD j ⟨#[]⟩) q)) := fun j q => rfl
    have HLN : Hid ((sureL L pn).length = pn ∧ ∀ q (h : q < (sureL L pn).length), (sureL L pn)[q] = sureAt L L.length q) := ⟨by simp [sureL], fun q h => by simp [sureL]⟩
    go_enter Tryd.func31, Tryd.ntmps31
    go_wp2_with fail
    refine HS.out.mono ?_; rintro e w1 ⟨v, rfl, h1⟩
    obtain ⟨ra, rc, rfl, -, hrd, -⟩ := own_cap h1.1
    have HRD := Lib.hid hrd
    obtain ⟨b, off, ha, hb1, hcs⟩ := scells_of_reads hrd (by omega)
    subst ha
    have c0 := hcs 0 (by omega)
    rw [Nat.add_zero] at c0
    change _ = some (Value.string (headS L)) at c0
    have HCS : Hid (∀ W, Below w1.heap.size w1 W → ∀ j, j < L.length → W.cell? ⟨b, off + j, none⟩ = some (.string (L.getD j ⟨#[]⟩))) := fun W hW j hj => by
      rw [hW.cell (p := ⟨b, off + j, none⟩) hb1]; exact hcs j hj
    have HB := Lib.hid (T0.out.2.trans (h1.2.mono T0.out.2.size))
    have hbs := HB.out.size
    clear hcs hrd h1 HS hb1 p0 p1
    have hcv := Lib.run_convert_string_bytes (P := Tryd.prog) w1 9 70 5 (headS L) Tryd.underlying9 Tryd.underlying70 Tryd.underlying5
    have hro := RowU.conv w1 (headS L)
    rw [hf0] at hcv hro
    have HRO := Lib.hid hro; clear hro
    generalize grownCap w1 pn 0 5 = c6 at *
    generalize Lib.bytesWorld w1 5 (headS L) = W0 at *
    have H00 : Hid (RowU W0 w1.heap.size pn (sureAt L 0) ∧ Below w1.heap.size w1 W0) := ⟨HRO.out.1.congr (fun q hq => HS0.out q), HRO.out.2⟩
    clear HRO
    generalize headS L = f at *
    have h8i : (pn : Int) ≤ 8 := by omega
    go_wp2_with fail
    obtain ⟨g, hg⟩ : ∃ g, g = w1.heap.size := ⟨_, rfl⟩
    rw [← hg] at H00 HCS
    rw [← hg]
    have HGW := Lib.hid (And.intro hg hbs); clear hg hbs
    go_loopw [24] (fun i wq => ∃ j : Nat, i = .int .i64 j ∧ j ≤ L.length ∧ Hid (RowU wq g pn (sureAt L j) ∧ Below g w1 wq)) (fun i _ => L.length - (intOf i).toNat)
    case atStart => exact ⟨0, rfl, Nat.zero_le _, H00.out⟩
    case round =>
      clear H00
      obtain ⟨j, rfl, hj, HJ⟩ := hrel
      by_cases hlt : j < L.length
      · have b2 : (j : Int) < (L.length : Int) := by omega
        have c1 := HCS.out wr HJ.out.2 j hlt
        have hsz : (L.getD j ⟨#[]⟩).size = pn := HSZ.out _ (getD_mem L j hlt)
        have HST := Lib.hid (fun q => HS1.out j q)
        have HM0 : Hid (RowU wr g pn (mixL L j 0) ∧ Below g w1 wr) := ⟨HJ.out.1.congr (fun q hq => by simp [mixL]), HJ.out.2⟩
        generalize L.getD j ⟨#[]⟩ = s at *
        go_wp2_with fail
        go_loopw [30] (fun i wq => ∃ k : Nat, i = .int .i64 k ∧ k ≤ pn ∧ Hid (RowU wq g pn (mixL L j k) ∧ Below g w1 wq)) (fun i _ => pn - (intOf i).toNat)
        case atStart => exact ⟨0, rfl, Nat.zero_le _, HM0.out⟩
        case round =>
          clear HM0 HJ c1
          obtain ⟨k, rfl, hk, HK⟩ := hrel
          by_cases hlk : k < pn
          · have b3 : (k : Int) < (pn : Int) := by omega
            have hbd := Below.drew (Below.refl wr.heap.size wr)
            have hgs : g ≤ wr.heap.size := Nat.le_of_lt HK.out.1.1
            have KD := Lib.hid (And.intro (HK.out.1.keep hbd) (HK.out.2.trans (hbd.mono hgs)))
            clear hbd
            have hm : mixL L j k k = sureAt L j k := by simp [mixL]
            obtain ⟨cc, ff⟩ := KD.out.1.2 k hlk
            rw [hm] at cc
            have hix := rix s k (by omega)
            by_cases hq : bat s k = sureAt L j k
            · have hst : sureAt L (j + 1) k = sureAt L j k := by rw [HST.out]; unfold stepS; rw [if_pos hq]
              have HN : Hid (RowU wr.drew g pn (mixL L j (k + 1)) ∧ Below g w1 wr.drew) := ⟨KD.out.1.congr (fun q hq2 => by
                unfold mixL
                by_cases e : q = k
                · subst e; rw [if_pos (by omega), if_neg (by omega), hst]
                · by_cases e2 : q < k
                  · rw [if_pos (by omega), if_pos e2]
                  · rw [if_neg (by omega), if_neg e2]), KD.out.2⟩
              rw [hq] at hix
              clear hst hq hm
              generalize sureAt L j k = y at *
              have q0 : (((y.toNat : Nat) : Int) != ((y.toNat : Nat) : Int)) = false := by simp
              go_wp2_with fail
              refine wp_region_held_drew (S := fun wi => wi.cell? ⟨g, k, none⟩ = some (.int .u8 (y.toNat : Int))) (by kernel_rfl) cc (fun hHeld => ?_)
              (refine wpAnyH_take (i := 0) (v := ?_) rfl (by kernel_rfl) (by kernel_rfl) (by kernel_rfl) (fun _ _ _ h => h) (Or.inl ⟨by kernel_rfl, ?_⟩) (by assumption) ?_; rotate_left; focus (intro w hSw; (try dsimp only at hSw); go_simp; try with_reducible rfl); (try simp only [List.getElem_toArray, List.getElem_cons_succ, List.getElem_cons_zero, Act.put, List.setIfInBounds_toArray, List.set_cons_zero, List.set_cons_succ])); (refine wpAnyH_take (i := 1) (v := ?_) rfl (by kernel_rfl) (by kernel_rfl) (by kernel_rfl) (fun _ _ _ h => h) (Or.inl ⟨by kernel_rfl, ?_⟩) (by assumption) ?_; rotate_left; focus (intro w hSw; (try dsimp only at hSw); go_simp; try with_reducible rfl); (try simp only [List.getElem_toArray, List.getElem_cons_succ, List.getElem_cons_zero, Act.put, List.setIfInBounds_toArray, List.set_cons_zero, List.set_cons_succ])); (refine wpAnyH_take (i := 2) (v := ?_) rfl (by kernel_rfl) (by kernel_rfl) (by kernel_rfl) (fun _ _ _ h => h) (Or.inl ⟨by kernel_rfl, ?_⟩) (by assumption) ?_; rotate_left; focus (intro w hSw; (try dsimp only at hSw); go_simp; try with_reducible rfl); (try simp only [List.getElem_toArray, List.getElem_cons_succ, List.getElem_cons_zero, Act.put, List.setIfInBounds_toArray, List.set_cons_zero, List.set_cons_succ])); (refine wpAnyH_take (i := 3) (v := ?_) rfl (by kernel_rfl) (by kernel_rfl) (by kernel_rfl) (fun _ _ _ h => h) (Or.inl ⟨by kernel_rfl, ?_⟩) (by assumption) ?_; rotate_left; focus (intro w hSw; (try dsimp only at hSw); go_simp; try with_reducible rfl); (try simp only [List.getElem_toArray, List.getElem_cons_succ, List.getElem_cons_zero, Act.put, List.setIfInBounds_toArray, List.set_cons_zero, List.set_cons_succ])); (refine wpAnyH_take (i := 4) (v := ?_) rfl (by kernel_rfl) (by kernel_rfl) (by kernel_rfl) (fun _ _ _ h => h) (Or.inl ⟨by kernel_rfl, ?_⟩) (by assumption) ?_; rotate_left; focus (intro w hSw; (try dsimp only at hSw); go_simp; try with_reducible rfl); (try simp only [List.getElem_toArray, List.getElem_cons_succ, List.getElem_cons_zero, Act.put, List.setIfInBounds_toArray, List.set_cons_zero, List.set_cons_succ])); (refine wpAnyH_take (i := 5) (v := ?_) rfl (by kernel_rfl) (by kernel_rfl) (by kernel_rfl) (fun _ _ _ h => h) (Or.inl ⟨by kernel_rfl, ?_⟩) (by assumption) ?_; rotate_left; focus (intro w hSw; (try dsimp only at hSw); go_simp; try with_reducible rfl); (try simp only [List.getElem_toArray, List.getElem_cons_succ, List.getElem_cons_zero, Act.put, List.setIfInBounds_toArray, List.set_cons_zero, List.set_cons_succ])); (refine wpAnyH_take (i := 6) (v := ?_) rfl (by kernel_rfl) (by kernel_rfl) (by kernel_rfl) (fun _ _ _ h => h) (Or.inl ⟨by kernel_rfl, ?_⟩) (by assumption) ?_; rotate_left; focus (intro w hSw; (try dsimp only at hSw); go_simp; try with_reducible rfl); (try simp only [List.getElem_toArray, List.getElem_cons_succ, List.getElem_cons_zero, Act.put, List.setIfInBounds_toArray, List.set_cons_zero, List.set_cons_succ])); (refine wpAnyH_take (i := 7) (v := ?_) rfl (by kernel_rfl) (by kernel_rfl) (by kernel_rfl) (fun _ _ _ h => h) (Or.inl ⟨by kernel_rfl, ?_⟩) (by assumption) ?_; rotate_left; focus (intro w hSw; (try dsimp only at hSw); go_simp; try with_reducible rfl); (try simp only [List.getElem_toArray, List.getElem_cons_succ, List.getElem_cons_zero, Act.put, List.setIfInBounds_toArray, List.set_cons_zero, List.set_cons_succ]))
              (try simp only [List.getElem_toArray, List.getElem_cons_succ, List.getElem_cons_zero, Act.put, List.setIfInBounds_toArray, List.set_cons_zero, List.set_cons_succ])
              refine wpAnyH_done (by kernel_rfl) ?_ _
              (try simp only [List.getElem_toArray, List.getElem_cons_succ, List.getElem_cons_zero, Act.put, List.setIfInBounds_toArray, List.set_cons_zero, List.set_cons_succ])
              clear hHeld
              go_wp2_with fail
              go_roundw
              case rel => exact ⟨k + 1, by go_num, by omega, HN⟩
              case measure => simp [intOf]; omega
            · have hst : sureAt L (j + 1) k = 63 := by rw [HST.out]; unfold stepS; rw [if_neg hq]
              have HN : Hid (RowU (wr.drew.setCell ⟨g, k, none⟩ (.int .u8 63)) g pn (mixL L j (k + 1)) ∧ Below g w1 (wr.drew.setCell ⟨g, k, none⟩ (.int .u8 63))) := ⟨(KD.out.1.put hlk 63).congr (fun q hq2 => by
                unfold mixL
                by_cases e : q = k
                · subst e; rw [if_pos (by omega), if_pos rfl, hst]
                · rw [if_neg e]
                  by_cases e2 : q < k
                  · rw [if_pos (by omega), if_pos e2]
                  · rw [if_neg (by omega), if_neg e2]), KD.out.2.setCell (p := ⟨g, k, none⟩) (Nat.le_refl _) _⟩
              have q0 : ((((bat s k).toNat : Nat) : Int) == (((sureAt L j k).toNat : Nat) : Int)) = false := by rw [beq_u8]; exact decide_eq_false hq
              clear hst hq hm
              generalize sureAt L j k = y at *
              generalize bat s k = x at *
              have q1 : (((x.toNat : Nat) : Int) != ((y.toNat : Nat) : Int)) = true := by unfold bne; rw [q0]; rfl
              have q2 : ¬ ((x.toNat : Nat) : Int) = ((y.toNat : Nat) : Int) := by simpa using q0
              have q3 : ¬ x.toNat = y.toNat := by omega
              go_wp2_with fail
              refine wp_region_held_drew (S := fun wi => wi.cell? ⟨g, k, none⟩ = some (.int .u8 (y.toNat : Int))) (by kernel_rfl) cc (fun hHeld => ?_)
              (refine wpAnyH_take (i := 0) (v := ?_) rfl (by kernel_rfl) (by kernel_rfl) (by kernel_rfl) (fun _ _ _ h => h) (Or.inl ⟨by kernel_rfl, ?_⟩) (by assumption) ?_; rotate_left; focus (intro w hSw; (try dsimp only at hSw); go_simp; try with_reducible rfl); (try simp only [List.getElem_toArray, List.getElem_cons_succ, List.getElem_cons_zero, Act.put, List.setIfInBounds_toArray, List.set_cons_zero, List.set_cons_succ])); (refine wpAnyH_take (i := 1) (v := ?_) rfl (by kernel_rfl) (by kernel_rfl) (by kernel_rfl) (fun _ _ _ h => h) (Or.inl ⟨by kernel_rfl, ?_⟩) (by assumption) ?_; rotate_left; focus (intro w hSw; (try dsimp only at hSw); go_simp; try with_reducible rfl); (try simp only [List.getElem_toArray, List.getElem_cons_succ, List.getElem_cons_zero, Act.put, List.setIfInBounds_toArray, List.set_cons_zero, List.set_cons_succ])); (refine wpAnyH_take (i := 2) (v := ?_) rfl (by kernel_rfl) (by kernel_rfl) (by kernel_rfl) (fun _ _ _ h => h) (Or.inl ⟨by kernel_rfl, ?_⟩) (by assumption) ?_; rotate_left; focus (intro w hSw; (try dsimp only at hSw); go_simp; try with_reducible rfl); (try simp only [List.getElem_toArray, List.getElem_cons_succ, List.getElem_cons_zero, Act.put, List.setIfInBounds_toArray, List.set_cons_zero, List.set_cons_succ])); (refine wpAnyH_take (i := 3) (v := ?_) rfl (by kernel_rfl) (by kernel_rfl) (by kernel_rfl) (fun _ _ _ h => h) (Or.inl ⟨by kernel_rfl, ?_⟩) (by assumption) ?_; rotate_left; focus (intro w hSw; (try dsimp only at hSw); go_simp; try with_reducible rfl); (try simp only [List.getElem_toArray, List.getElem_cons_succ, List.getElem_cons_zero, Act.put, List.setIfInBounds_toArray, List.set_cons_zero, List.set_cons_succ])); (refine wpAnyH_take (i := 4) (v := ?_) rfl (by kernel_rfl) (by kernel_rfl) (by kernel_rfl) (fun _ _ _ h => h) (Or.inl ⟨by kernel_rfl, ?_⟩) (by assumption) ?_; rotate_left; focus (intro w hSw; (try dsimp only at hSw); go_simp; try with_reducible rfl); (try simp only [List.getElem_toArray, List.getElem_cons_succ, List.getElem_cons_zero, Act.put, List.setIfInBounds_toArray, List.set_cons_zero, List.set_cons_succ])); (refine wpAnyH_take (i := 5) (v := ?_) rfl (by kernel_rfl) (by kernel_rfl) (by kernel_rfl) (fun _ _ _ h => h) (Or.inl ⟨by kernel_rfl, ?_⟩) (by assumption) ?_; rotate_left; focus (intro w hSw; (try dsimp only at hSw); go_simp; try with_reducible rfl); (try simp only [List.getElem_toArray, List.getElem_cons_succ, List.getElem_cons_zero, Act.put, List.setIfInBounds_toArray, List.set_cons_zero, List.set_cons_succ])); (refine wpAnyH_take (i := 6) (v := ?_) rfl (by kernel_rfl) (by kernel_rfl) (by kernel_rfl) (fun _ _ _ h => h) (Or.inl ⟨by kernel_rfl, ?_⟩) (by assumption) ?_; rotate_left; focus (intro w hSw; (try dsimp only at hSw); go_simp; try with_reducible rfl); (try simp only [List.getElem_toArray, List.getElem_cons_succ, List.getElem_cons_zero, Act.put, List.setIfInBounds_toArray, List.set_cons_zero, List.set_cons_succ])); (refine wpAnyH_take (i := 7) (v := ?_) rfl (by kernel_rfl) (by kernel_rfl) (by kernel_rfl) (fun _ _ _ h => h) (Or.inl ⟨by kernel_rfl, ?_⟩) (by assumption) ?_; rotate_left; focus (intro w hSw; (try dsimp only at hSw); go_simp; try with_reducible rfl); (try simp only [List.getElem_toArray, List.getElem_cons_succ, List.getElem_cons_zero, Act.put, List.setIfInBounds_toArray, List.set_cons_zero, List.set_cons_succ]))
              (try simp only [List.getElem_toArray, List.getElem_cons_succ, List.getElem_cons_zero, Act.put, List.setIfInBounds_toArray, List.set_cons_zero, List.set_cons_succ])
              refine wpAnyH_done (by kernel_rfl) ?_ _
              (try simp only [List.getElem_toArray, List.getElem_cons_succ, List.getElem_cons_zero, Act.put, List.setIfInBounds_toArray, List.set_cons_zero, List.set_cons_succ])
              clear hHeld
              go_wp2_with fail
              go_roundw
              case rel => exact ⟨k + 1, by go_num, by omega, HN⟩
              case measure => simp [intOf]; omega
          · obtain rfl : k = pn := by omega
            have HN : Hid (RowU wr g k (sureAt L (j + 1)) ∧ Below g w1 wr) := ⟨HK.out.1.congr (fun q hq => by unfold mixL; rw [if_pos hq]), HK.out.2⟩
            go_wp2_with fail
            go_roundw
            case rel => exact ⟨j + 1, by go_num, by omega, HN⟩
            case measure => simp [intOf]; omega
      · obtain rfl : j = L.length := by omega
        have hbk := run_convert_bytes_back (P := Tryd.prog) wr 70 9 5 ⟨g, 0, none⟩ c6 (sureL L pn) Tryd.underlying70 Tryd.underlying5 Tryd.underlying9 (fun q hq => by
          have hq2 := hq
          rw [HLN.out.1] at hq2
          have e : (⟨g, 0, none⟩ : Addr).add q = ⟨g, q, none⟩ := by unfold Addr.add; split <;> simp_all
          rw [e, (HJ.out.1.2 q hq2).1, HLN.out.2 q hq])
        rw [HLN.out.1] at hbk
        have HFB : Hid (Below w.heap.size w wr) := HB.out.trans (HJ.out.2.mono (by rw [HGW.out.1]; exact HGW.out.2))
        generalize hR : (⟨(sureL L pn).toArray⟩ : ByteArray) = R at *
        have HRR := Lib.hid hR; clear hR
        go_wp2_with fail
        refine bodyPost_ret (v := .tuple #[.string R, .bool true]) ?_ rfl ⟨by rw [HRR.out], HFB.out⟩
        simp [results, Tryd.results31, go_sem, *]
end Go.Proofs.YtcigighklghjkaaDoor
