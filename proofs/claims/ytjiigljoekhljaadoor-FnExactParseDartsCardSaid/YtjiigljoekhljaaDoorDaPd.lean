/-
  The program reads darts out of a text.
-/
import Derived.Test.YtjiigljoekhljaaDoorDaDarts
import Derived.Test.YtjiigljoekhljaaDoorDaPieces
import Derived.Test.YtjiigljoekhljaaDoorShelf
import Derived.Lib.SplitLaws
namespace Go.Proofs.YtjiigljoekhljaaDoor
open Go.RowKit
open ExParseDart
set_option linter.unusedVariables false
set_option linter.unusedSimpArgs false

/-- What the library's variable holds. -/
def DoorD (w : World) : Prop := ∃ m, w.cell? ⟨2, 0, none⟩ = some (.int .i64 m)
theorem DoorD.keep {w w' : World} (h : DoorD w) (hb : Below w.heap.size w w') : DoorD w' := by
  obtain ⟨m, hm⟩ := h
  exact ⟨m, (hb.cell (Lib.lt_of_cell hm)).trans hm⟩
theorem reads_new (w : World) (ps : List ByteArray) : Reads (w.alloc (.cells (ps.map Value.string).toArray 9)) (some ⟨w.heap.size, 0, none⟩) (strS ps) :=
  .inr ⟨w.heap.size, 0, rfl, by simp, fun j hj => by rw [Nat.zero_add, cell_of_row _ _ j _ _ _ (heap_alloc_last w _)]; simp [strS]⟩
def EndsI (p : ByteArray) : Prop := ∃ x t : Int, (okL p.data.toList = true → (x, t) = srcD p.data.toList) ∧ ∀ w : World, Calls Tryd.prog 45 #[.string p] w fun e w' => e = .returned (.tuple #[.agg #[.int .i64 x, .int .i64 t], .bool (okL p.data.toList)]) ∧ Below w.heap.size w w'
theorem endsI (p : ByteArray) : EndsI p := by
  have h := fun w => implParse_any p w
  rw [picked_eq] at h
  unfold specV at h
  cases hok : okL p.data.toList
  · rw [hok] at h
    refine ⟨0, 0, fun hh => ?_, fun w => ?_⟩
    · rw [hok] at hh; cases hh
    · rw [hok]; exact h w
  · rw [hok] at h
    exact ⟨(srcD p.data.toList).1, (srcD p.data.toList).2, fun _ => rfl, fun w => by rw [hok]; exact h w⟩

set_option maxHeartbeats 3200000 in
set_option maxRecDepth 100000 in
theorem implDarts_any (s : ByteArray) (hz : (s.size : Int) ≤ 1048576) (w : World) (hd0 : DoorD w) :
    Calls Tryd.prog 18 #[.string s] w fun e w' => GotD w (dartsOf s) e w' := by
  obtain ⟨m, hm⟩ := hd0
  have hsp := Tryd.strings_Split s ⟨#[45]⟩ m w (by omega) hm (by decide)
  have hcnt : (Lib.splitB ⟨#[45]⟩ 0 (Lib.countB s ⟨#[45]⟩) s).length = Lib.countB s ⟨#[45]⟩ + 1 := Lib.splitB_all ⟨#[45]⟩ (by decide) 0 _ s rfl
  rw [← hcnt, pieces_same s 45] at hsp
  have hps := cut_size s 45 s.size 0
  have hpl := cut_len s 45 s.size 0
  have hd : dartsOf s = if 9 < (cutS s 45 s.size 0).length then none else allOf (cutS s 45 s.size 0) := rfl
  rw [hd]; clear hd
  generalize cutS s 45 s.size 0 = ps at *
  have HSP := Lib.hid hsp; clear hsp hcnt hm
  have hdp : ∀ p ∈ ps, EndsI p := fun p hp => endsI p
  clear hps
  have hlb : (ps.length : Int) ≤ 1048577 := by omega
  clear hpl
  have HDP := Lib.hid hdp; clear hdp
  obtain ⟨i0, hi, hz0, hz1, hz2⟩ := info_parts infoD
  have HI := Lib.hid (And.intro hi (And.intro hz0 (And.intro hz1 hz2))); clear hi hz0 hz1 hz2
  by_cases h9 : (9 : Int) < (ps.length : Int)
  · rw [if_pos (by omega)]
    go_enter Tryd.func18, Tryd.ntmps18
    go_wp2_with fail
    refine HSP.out.mono ?_; rintro e w1 ⟨rfl, hw1⟩
    have hrd := reads_new w ps
    have hbel : Below w.heap.size w w1 := by rw [hw1]; exact (Below.refl _ _).alloc (Nat.le_refl _) _
    rw [← hw1] at hrd
    clear hw1
    have HB := Lib.hid hbel; clear hbel
    have HR := Lib.hid hrd; clear hrd
    go_wp2_with fail
    refine bodyPost_ret (v := .tuple #[.slice none 0 0, .bool false]) (by simp [results, Tryd.results18, go_sem]) rfl ⟨HB.out, rfl⟩
  · rw [if_neg (by omega)]
    go_enter Tryd.func18, Tryd.ntmps18
    go_wp2_with fail
    refine HSP.out.mono ?_; rintro e w1 ⟨rfl, hw1⟩
    have hrd := reads_new w ps
    have hbel : Below w.heap.size w w1 := by rw [hw1]; exact (Below.refl _ _).alloc (Nat.le_refl _) _
    rw [← hw1] at hrd
    clear hw1
    have HB := Lib.hid hbel; clear hbel
    have HR := Lib.hid hrd; clear hrd
    have h0 : DsAt ps w1 0 (.slice none 0 0) w1 := ⟨[], rfl, by rw [List.drop_zero]; simp, ⟨rfl, .inl ⟨rfl, rfl⟩⟩, Below.refl _ _⟩
    have H0 := Lib.hid h0; clear h0
    go_wp2_with fail
    go_loopw [5, 17] (fun v i wr => ∃ k : Nat, i = .int .i64 k ∧ k ≤ ps.length ∧ Hid (DsAt ps w1 k v wr)) (fun _ i _ => ps.length - (intOf i).toNat)
    case atStart => exact ⟨0, rfl, Nat.zero_le _, H0⟩
    case round =>
      clear H0
      obtain ⟨k, rfl, hk, hH⟩ := hrel
      by_cases hlt : k < ps.length
      · have hb : (k : Int) < (ps.length : Int) := by omega
        obtain ⟨xs, hxl, hal, hown, hbel⟩ := hH.out
        have hRo := HR.out.old hbel
        have c0 : wr.cell? ⟨w.heap.size, k, none⟩ = some (.string ps[k]) := by
          rcases hRo with hr | ⟨b, off, he, hlb2, hc⟩
          · have := congrArg List.length hr; simp [strS] at this; rw [this] at hlt; simp at hlt
          · injection he with he
            injection he with e1 e2
            subst e1 e2
            have c0 := hc k (by simp [strS]; omega)
            rw [Nat.zero_add] at c0
            rw [c0]; simp [strS, hlt]
        clear hRo
        have hdrop : ps.drop k = ps[k] :: ps.drop (k + 1) := List.drop_eq_getElem_cons hlt
        rw [hdrop] at hal
        obtain ⟨x, t, hv, hcl⟩ := HDP.out ps[k] (List.getElem_mem hlt)
        clear hH hdrop
        generalize ps[k] = p at *
        have hbase := hbel.size
        cases hok : okL p.data.toList
        · have hal : allOf ps = none := by rw [hal, allOf, if_neg (by rw [hok]; simp)]; rfl
          rw [hok] at hcl
          have HC := Lib.hid hcl; clear hcl
          have HH := Lib.hid (And.intro hal hbel); clear hal hown hbel hv hok
          go_wp2_with fail
          refine (HC.out _).mono ?_; rintro e w2 ⟨rfl, b2⟩
          have hbW : Below w.heap.size w w2 := HB.out.trans ((HH.out.2.trans (b2.mono hbase)).mono HB.out.size)
          have HW := Lib.hid hbW; clear hbW b2
          go_wp2_with fail
          refine bodyPost_ret (v := .tuple #[.slice none 0 0, .bool false]) (by simp [results, Tryd.results18, go_sem]) rfl ⟨HW.out.alloc HW.out.size _, ?_⟩
          rw [HH.out.1]
        · rw [allOf, if_pos hok] at hal
          rw [← hv hok] at hal
          rw [hok] at hcl
          have HC := Lib.hid hcl; clear hcl
          have HH := Lib.hid (And.intro hal (And.intro hown hbel)); clear hal hown hbel hv hok
          have hxn : xs.length ≤ 1048577 := by omega
          go_wp2_with fail
          refine (HC.out _).mono ?_; rintro e w2 ⟨rfl, b2⟩
          have hown2 := owns_below HH.out.2.1 b2
          have hbel2 := HH.out.2.2.trans (b2.mono hbase)
          have hb2 := hbel2.size
          have hsz : (w2.alloc (.cells #[.int .i64 x, .int .i64 t] 69)).heap.size = w2.heap.size + 1 := by simp
          have hcells := cell_two_new (w2.alloc (.cells #[.int .i64 x, .int .i64 t] 69)) (.int .i64 x) (.int .i64 t) 69
          rw [hsz] at hcells
          have HCL := Lib.hid hcells; clear hcells hsz
          have H2 := Lib.hid (And.intro hown2 hbel2); clear hown2 hbel2 b2
          go_wp2_with (at_builtin; refine wpList_append_own_at _ rfl _ _ 32 rfl w1.heap.size 69 i0 (.agg #[.int .i64 0, .int .i64 0]) 2 16 Tryd.underlying32 HI.out.1 HI.out.2.1 HI.out.2.2.1 HI.out.2.2.2 rfl (by decide) _ _ _ rfl ((H2.out.1.alloc _).alloc _) ⟨w2.heap.size + 1, 0, none⟩ 1 1 [.int .i64 x, .int .i64 t] rfl rfl HCL.out ?_ ?_ ?_ ?_ ?_)
          · intro u hu; simp at hu; rcases hu with rfl | rfl <;> rfl
          · unfold maxLen; omega
          · omega
          · simp; omega
          intro v' w3 hown3 hgrow _ _
          have hbel3 : Below w1.heap.size w1 w3 := ((H2.out.2.alloc H2.out.2.size _).alloc (by simp; omega) _).grown hgrow (by simp; omega) (fun g hg => by
            obtain ⟨_, h | ⟨g', cap, cur, hv, hb', _⟩⟩ := H2.out.1
            · rw [h.1] at hg; cases hg
            · rw [hv] at hg; simp [Value.ownBlock] at hg; omega)
          have hown4 : w3.ownsRow w1.heap.size 69 2 v' (xs ++ [(x, t)]).length (darts (xs ++ [(x, t)])) := by
            rw [darts_append, List.length_append, hxl]; exact hown3
          have hal4 : allOf ps = (allOf (ps.drop (k + 1))).map ((xs ++ [(x, t)]) ++ ·) := by
            rw [HH.out.1]; cases allOf (ps.drop (k + 1)) <;> simp
          have H3 := Lib.hid (And.intro hal4 (And.intro hown4 hbel3)); clear hown3 hgrow hown4 hbel3 hal4
          go_wp2
          go_roundw
          case rel => exact ⟨k + 1, by go_num, by omega, Lib.hid ⟨_, by simp; omega, H3.out.1, H3.out.2.1, H3.out.2.2⟩⟩
          case measure => simp [intOf]; omega
      · obtain rfl : k = ps.length := by omega
        obtain ⟨xs, hxl, hal, hown, hbel⟩ := hH.out
        rw [List.drop_length] at hal
        have hal : allOf ps = some xs := by rw [hal]; simp [allOf]
        obtain ⟨a2, c2, rfl, -⟩ := Reads.own hown
        have HH := Lib.hid (And.intro hal (And.intro hown hbel)); clear hown hbel hal hH hxl
        go_wp2_with fail
        refine bodyPost_ret (v := .tuple #[.slice a2 xs.length c2, .bool true]) (by simp [results, Tryd.results18, go_sem]) rfl ⟨HB.out.trans (HH.out.2.2.mono HB.out.size), ?_⟩
        rw [HH.out.1]
        exact ⟨_, rfl, owns_mono HH.out.2.1 HB.out.size⟩
end Go.Proofs.YtjiigljoekhljaaDoor
