/-
  Leagues out of texts: the program.
-/
import Derived.Test.YtgkkjlpfkoplhaaDoorLqTwo
import Derived.Test.YtgkkjlpfkoplhaaDoorLqLaw
import Derived.Test.YtgkkjlpfkoplhaaDoorShelf2
import Derived.Deep.DeepCutAuto
import Derived.StillTailTactics
namespace Go.Proofs.YtgkkjlpfkoplhaaDoor
open Go.RowKit
set_option linter.unusedVariables false
set_option linter.unusedSimpArgs false

/-- The clues of the first k pieces. -/
def PrAt (B : Nat) (w : World) (ps : List ByteArray) (k : Nat) (v : Value) (wr : World) : Prop := wr.ownsRow B 50 4 v k (ress ((ps.take k).map fun p => resP p.data.toList)) ∧ Below B w wr
theorem pr_step {ps : List ByteArray} {k : Nat} (h : k < ps.length) : ((ps.take (k + 1)).map fun p => resP p.data.toList) = ((ps.take k).map fun p => resP p.data.toList) ++ [resP ps[k].data.toList] := by
  rw [List.take_succ_eq_append_getElem h, List.map_append]; rfl
theorem ress_snoc (l : List Rs) (x y z u : Int) : ress l ++ [.int .i64 x, .int .i64 y, .int .i64 z, .int .i64 u] = ress (l ++ [(x, y, z, u)]) := by simp [ress, flatR, ints]
theorem cells_four_new (w : World) (u0 u1 u2 u3 : Value) (t : TypeId) : ∀ j' u, ([u0, u1, u2, u3] : List Value)[j']? = some u → (w.alloc (.cells #[u0, u1, u2, u3] t)).cell? ((⟨w.heap.size, 0, none⟩ : Addr).add j') = some u := by
  intro j u hj
  have h := ObAt.new w t #[u0, u1, u2, u3]
  have e : (⟨w.heap.size, 0, none⟩ : Addr).add j = ⟨w.heap.size, 0 + j, none⟩ := by unfold Addr.add; split <;> simp_all
  rw [e, Nat.zero_add, h.cell j]
  simpa using hj
theorem pr_grown {B : Nat} {w w2 w3 : World} {T : TypeId} {v : Value} {n sz : Nat} {xs : List Value} {cs : Array Value} (h : w2.ownsRow B T sz v n xs) (hb : B ≤ w2.heap.size) (hbel : Below B w w2) (t : TypeId) (hg : (w2.alloc (.cells cs t)).grownBy w3 v.ownBlock) : Below B w w3 :=
  (hbel.alloc hb _).grown hg (by simp; omega) (fun g hg => by
    obtain ⟨_, h | ⟨g', cap, cur, hv, hb', _⟩⟩ := h
    · rw [h.1] at hg; cases hg
    · rw [hv] at hg; simp [Value.ownBlock] at hg; omega)

set_option maxHeartbeats 1600000 in
set_option maxRecDepth 100000 in
theorem readResults_any (Y : List UInt8) (hY : Y.length ≤ 1048576) (w : World) (hd : Door w) :
    Calls Tryd.prog 51 #[.string ⟨Y.toArray⟩, .string ⟨#[44]⟩, .func (.func 52) #[] #[]] w fun e w' => ∃ a c, e = .returned (.slice a (rowsP Y).length c) ∧ w'.ownsRow w.heap.size 50 4 (.slice a (rowsP Y).length c) (rowsP Y).length (ress (rowsP Y)) ∧ Below w.heap.size w w' := by
  by_cases hne : Y = []
  · subst hne
    have e1 : rowsP [] = [] := rfl
    rw [e1]
    have HY2 : (⟨([] : List UInt8).toArray⟩ : ByteArray).toList.isEmpty = true := by rw [ByteArray.toList_eq]; rfl
    go_enter Tryd.func51, Tryd.ntmps51
    go_wp2_with fail
    go_ret
    exact ⟨none, 0, rfl, owns_nil4 _ _ _, Below.refl _ _⟩
  · have HY2 : (⟨Y.toArray⟩ : ByteArray).toList.isEmpty = false := by rw [ByteArray.toList_eq]; simpa using hne
    have HY1 : (Y != []) = true := by simpa using hne
    have hpl := cutS_len ⟨Y.toArray⟩ 44 (⟨Y.toArray⟩ : ByteArray).size 0
    have hps := fun p (hp : p ∈ cutS ⟨Y.toArray⟩ 44 (⟨Y.toArray⟩ : ByteArray).size 0) => cutS_size ⟨Y.toArray⟩ 44 _ 0 p hp
    have hpc := pcsL ⟨Y.toArray⟩ 44
    rw [show (⟨Y.toArray⟩ : ByteArray).data.toList = Y from by simp] at hpc
    have hYs : (⟨Y.toArray⟩ : ByteArray).size ≤ 1048576 := ofL_size (by omega)
    have hsp : ∀ W, Door W → Calls Tryd.prog 75 #[.string ⟨Y.toArray⟩, .string ⟨#[44]⟩] W fun e w' => e = .returned (.slice (some ⟨W.heap.size, 0, none⟩) (cutS ⟨Y.toArray⟩ 44 (⟨Y.toArray⟩ : ByteArray).size 0).length (cutS ⟨Y.toArray⟩ 44 (⟨Y.toArray⟩ : ByteArray).size 0).length) ∧ w' = W.alloc (.cells ((cutS ⟨Y.toArray⟩ 44 (⟨Y.toArray⟩ : ByteArray).size 0).map Value.string).toArray 9) := fun W hW => by
      obtain ⟨m2, hm2⟩ := hW.m
      have h := Tryd.strings_Split ⟨Y.toArray⟩ ⟨#[44]⟩ m2 W (by omega) hm2 (by decide)
      have hcnt : (Lib.splitB ⟨#[44]⟩ 0 (Lib.countB ⟨Y.toArray⟩ ⟨#[44]⟩) ⟨Y.toArray⟩).length = Lib.countB ⟨Y.toArray⟩ ⟨#[44]⟩ + 1 := Lib.splitB_all ⟨#[44]⟩ (by decide) 0 _ ⟨Y.toArray⟩ rfl
      rw [← hcnt, pieces_same ⟨Y.toArray⟩ 44] at h
      exact h
    have hRS : rowsP Y = (cutS ⟨Y.toArray⟩ 44 (⟨Y.toArray⟩ : ByteArray).size 0).map fun p => resP p.data.toList := by
      unfold rowsP; rw [if_neg hne, ← hpc, List.map_map]; rfl
    rw [hRS]
    clear hpc hRS
    generalize cutS ⟨Y.toArray⟩ 44 (⟨Y.toArray⟩ : ByteArray).size 0 = ps at *
    have hps2 := fun p hp => Nat.le_trans (hps p hp) hYs
    have hpn : (ps.length : Int) ≤ 1048577 := by omega
    clear hps hpl hYs hne hY
    generalize (⟨Y.toArray⟩ : ByteArray) = SY at *
    have HRR := Lib.hid (fun p (hp : p ∈ ps) W hd => readResult_any p (hps2 p hp) W hd); clear hps2
    have HSP := Lib.hid (hsp w hd); clear hsp
    have HD := Lib.hid (hd.keep (Below.ofNew (w := w) (.cells (ps.map Value.string).toArray 9))); clear hd
    have HC := Lib.hid (And.intro (ObAt.new w 9 (ps.map Value.string).toArray) (Below.ofNew (w := w) (.cells (ps.map Value.string).toArray 9)))
    obtain ⟨i0, hi, hz0, hz1, hz2⟩ := info_parts infoResult
    have HI := Lib.hid (And.intro hi (And.intro hz0 (And.intro hz1 hz2))); clear hi hz0 hz1 hz2
    go_enter Tryd.func51, Tryd.ntmps51
    go_wp2_with fail
    refine HSP.out.mono ?_; rintro e w1 ⟨rfl, hw1⟩
    rw [← hw1] at HD HC
    clear hw1 HSP
    have H0 : Hid (PrAt w1.heap.size w1 ps 0 (.slice none 0 0) w1) := ⟨⟨rfl, .inl ⟨rfl, rfl⟩⟩, Below.refl _ _⟩
    have hbW := HC.out.2.size
    go_wp2_with fail
    clear HY1 HY2
    go_loopw [7, 16] (fun v i wr => ∃ k : Nat, i = .int .i64 k ∧ k ≤ ps.length ∧ Hid (PrAt w1.heap.size w1 ps k v wr)) (fun _ i _ => ps.length - (intOf i).toNat)
    case atStart => exact ⟨0, rfl, Nat.zero_le _, H0⟩
    case round =>
      clear H0
      obtain ⟨k, rfl, hk, hH⟩ := hrel
      by_cases hlt : k < ps.length
      · have hb : (k : Int) < (ps.length : Int) := by omega
        have c0 := (HC.out.1.keep hH.out.2).cell k
        rw [show (ps.map Value.string).toArray[k]? = some (.string ps[k]) from by simp [hlt]] at c0
        have HS := Lib.hid (pr_step hlt)
        have HLN : Hid (((ps.take k).map fun p => resP p.data.toList).length = k) := Lib.hid (by simp; omega)
        have HA := Lib.hid (fun w hd => HRR.out ps[k] (List.getElem_mem hlt) w hd)
        generalize ps[k] = p at *
        have HDr := Lib.hid (HD.out.keep hH.out.2)
        rcases hrr : resP p.data.toList with ⟨r0, r1, r2, r3⟩
        rw [hrr] at HS HA
        clear hrr
        go_wp2_with fail
        refine (HA.out _ HDr.out).mono ?_; rintro e w2 ⟨rfl, b2⟩
        have hO := Lib.hid (And.intro (owns_below hH.out.1 b2) (hH.out.2.trans (b2.mono hH.out.2.size)))
        have hbs := hO.out.2.size
        have HN := Lib.hid (cells_four_new w2 (.int .i64 r0) (.int .i64 r1) (.int .i64 r2) (.int .i64 r3) 50)
        clear b2 c0 hH HDr
        go_wp2_with (at_builtin; refine wpList_append_own_at _ rfl _ _ 32 rfl w1.heap.size 50 i0 (.agg #[.int .i64 0, .int .i64 0, .int .i64 0, .int .i64 0]) 4 32 Tryd.underlying32 HI.out.1 HI.out.2.1 HI.out.2.2.1 HI.out.2.2.2 rfl (by decide) _ _ _ rfl (hO.out.1.alloc _) ⟨w2.heap.size, 0, none⟩ 1 1 [.int .i64 r0, .int .i64 r1, .int .i64 r2, .int .i64 r3] rfl rfl HN.out ?_ ?_ ?_ ?_ ?_)
        · intro u hu; simp at hu; rcases hu with rfl | rfl | rfl | rfl <;> rfl
        · unfold maxLen; omega
        · omega
        · simp; omega
        intro v' w3 hown3 hgrow _ _
        have hbel3 := pr_grown hO.out.1 hbs hO.out.2 _ hgrow
        rw [ress_snoc] at hown3
        have H3 : Hid (PrAt w1.heap.size w1 ps (k + 1) v' w3) := ⟨by rw [HS.out]; first | exact hown3 | (rw [List.map_take]; exact hown3), hbel3⟩
        clear hown3 hgrow hbel3
        go_wp2_with fail
        go_roundw
        case rel => exact ⟨k + 1, by go_num, by omega, H3⟩
        case measure => simp [intOf]; omega
      · obtain rfl : k = ps.length := by omega
        have ho := hH.out.1
        have hob := hH.out.2
        rw [List.take_length] at ho
        have hl : (ps.map fun p => resP p.data.toList).length = ps.length := by simp
        rw [← hl] at ho
        obtain ⟨a, c, rfl, hrd, -, -, -⟩ := Reads.own ho
        have HO := Lib.hid (And.intro (owns_base ho hbW) (HC.out.2.trans (hob.mono hbW))); clear ho hob hH hrd
        go_wp2_with fail
        go_ret
        exact ⟨a, c, rfl, HO.out⟩
end Go.Proofs.YtgkkjlpfkoplhaaDoor
