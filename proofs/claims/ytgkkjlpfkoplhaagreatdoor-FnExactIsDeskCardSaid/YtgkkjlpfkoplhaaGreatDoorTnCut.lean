/-
  Tennis: the program parts points into a play and what is behind its end.
-/
import Derived.Test.YtgkkjlpfkoplhaaGreatDoorTnErrAs3
import Derived.Test.YtgkkjlpfkoplhaaGreatDoorTnCheck
import Derived.Test.YtgkkjlpfkoplhaaGreatDoorTnSetMath
import Derived.Laws.CopyOwn
namespace Go.Proofs.YtgkkjlpfkoplhaaGreatDoor
open Go.RowKit
set_option linter.unusedVariables false
set_option linter.unusedSimpArgs false

def cutV : Option (List UInt8 × List UInt8) → Value
  | none => .tuple #[.string ⟨#[]⟩, .string ⟨#[]⟩, .bool false]
  | some (g, b) => .tuple #[.string ⟨g.toArray⟩, .string ⟨b.toArray⟩, .bool true]
theorem cut_of (to : Int) (l : List UInt8) : cutI to l = match strayAt to l with
    | none => some (l, [])
    | some (k, true) => some (l.take k, l.drop k)
    | some (_, false) => none := by
  unfold cutI strayAt
  by_cases h : 300 < l.length
  · rw [if_pos h, if_pos h]
  · rw [if_neg h, if_neg h]; rcases stray to 0 0 l with _ | ⟨k, _ | _⟩ <;> rfl
theorem str_list (s : ByteArray) : (⟨s.data.toList.toArray⟩ : ByteArray) = s := by cases s; simp
theorem strayAt_end {to : Int} {l : List UInt8} {k : Nat} (h : strayAt to l = some (k, true)) : k < l.length := by
  unfold strayAt at h; split at h
  · simp at h
  · exact (stray_end _ _ _ _ _ h).1

theorem slice_from (s : ByteArray) (k : Nat) (h : k ≤ s.size) (w : World) :
    (Instr.slice 9 (.string s) (some (.int .i64 (k : Int))) none none).run Tryz.prog w = .ok (.string (s.extract k s.size)) w := by
  have := run_slice_string_l (P := Tryz.prog) w 9 s Tryz.underlying9 .i64 (k : Int) (by omega) (by omega)
  rw [this, show ((k : Int)).toNat = k from by omega]
theorem ext_upto (s : ByteArray) (k : Nat) : s.extract 0 k = ⟨(s.data.toList.take k).toArray⟩ := by rw [Lib.extract_eq]; simp
theorem ext_from (s : ByteArray) (k : Nat) : s.extract k s.size = ⟨(s.data.toList.drop k).toArray⟩ := by
  rw [Lib.extract_eq, List.take_of_length_le (by simp)]

/-- What the walks need of the world in which the program's two errors and the library's handle lie. -/
structure Laid (w : World) (p0 p1 : Addr) : Prop where
  no : w.cell? ⟨3, 0, none⟩ = some (errV p0)
  behind : w.cell? ⟨0, 0, none⟩ = some (errV p1)
  handle : w.cell? ⟨1, 0, none⟩ = some (.iface 150 (.agg #[.pointer (some ⟨4, 104, none⟩)]))
  ne : p0 ≠ p1
  row0 : ∃ c t, w.heap[p0.block]? = some (.cells c t (0, 0))
  row1 : ∃ c t, w.heap[p1.block]? = some (.cells c t (0, 0))
theorem Laid.keep {w w' : World} {p0 p1 : Addr} (h : Laid w p0 p1) (hb : Below w.heap.size w w') : Laid w' p0 p1 := by
  obtain ⟨h1, h2, h3, h4, ⟨c, t, h5⟩, ⟨d, u, h6⟩⟩ := h
  have z1 := World.block_lt_of_cell? w _ h1
  have z2 := World.block_lt_of_cell? w _ h2
  have z3 := World.block_lt_of_cell? w _ h3
  exact ⟨by rw [hb.cell (p := ⟨_, 0, none⟩) z1]; exact h1, by rw [hb.cell (p := ⟨_, 0, none⟩) z2]; exact h2, by rw [hb.cell (p := ⟨_, 0, none⟩) z3]; exact h3, h4,
    ⟨c, t, by rw [hb.block _ (Array.getElem?_eq_some_iff.1 h5).1]; exact h5⟩, ⟨d, u, by rw [hb.block _ (Array.getElem?_eq_some_iff.1 h6).1]; exact h6⟩⟩

set_option maxHeartbeats 3200000 in
theorem cutPlay_any (to : Int) (s : ByteArray) (p0 p1 : Addr) (w : World) (hs : (s.size : Int) ≤ 1000000000000) (L : Laid w p0 p1) :
    Calls Tryz.prog 41 #[.agg #[.int .i64 to, .int .i64 2], .string s] w fun e w' => e = .returned (cutV (cutI to s.data.toList)) ∧ Below w.heap.size w w' := by
  have hb0 : Below w.heap.size w (w.alloc (.cells #[.int .i64 to, .int .i64 2] 78)) := (Below.refl _ _).alloc (Nat.le_refl _) _
  have L1 := L.keep hb0
  have hck := checkPlay_any to s p0 p1 _ hs L1.no L1.behind
  have HCK := Lib.hid hck; clear hck
  have HL := Lib.hid (And.intro L1 hb0); clear L L1 hb0
  rw [cut_of]
  cases hst : strayAt to s.data.toList with
  | none =>
    have HST := Lib.hid hst; clear hst
    go_enter Tryz.func41, Tryz.ntmps41
    go_wp2_with fail
    refine HCK.out.mono ?_; rintro e w1 ⟨rfl, b1⟩
    rw [HST.out]
    have HB := Lib.hid (HL.out.2.trans (b1.mono (by simp))); clear b1
    unfold checkV
    go_wp2_with fail
    refine bodyPost_ret (v := .tuple #[.string s, .string ⟨#[]⟩, .bool true]) (by simp [results, Tryz.results41, go_sem]) rfl ⟨by simp only [cutV, str_list], HB.out⟩
  | some x =>
    obtain ⟨k, e⟩ := x
    cases e
    · have HST := Lib.hid hst; clear hst
      go_enter Tryz.func41, Tryz.ntmps41
      go_wp2_with fail
      refine HCK.out.mono ?_; rintro e w1 ⟨rfl, b1⟩
      rw [HST.out]
      have HB := Lib.hid (HL.out.2.trans (b1.mono (by simp)))
      have L2 := (HL.out.1.keep b1).keep ((Below.refl _ _).alloc (Nat.le_refl _) (.cells #[.int .i64 0, .nilIface] 107))
      clear b1
      unfold checkV strayV
      simp only [Bool.false_eq_true, if_false]
      obtain ⟨c0, t0, r0⟩ := L2.row0
      obtain ⟨c1, t1, r1⟩ := L2.row1
      have hio := is_other k p0 p1 c0 c1 t0 t1 _ L2.ne r0 r1
      have g1 := L2.behind
      unfold errV at g1
      have HI := Lib.hid hio; clear hio r0 r1 L2
      go_wp2_with fail
      refine HI.out.mono ?_; rintro e w2 ⟨rfl, b2⟩
      go_wp2_with fail
      refine bodyPost_ret (v := .tuple #[.string ⟨#[]⟩, .string ⟨#[]⟩, .bool false]) (by simp [results, Tryz.results41, go_sem]) rfl ⟨rfl, ?_⟩
      exact (HB.out.alloc HB.out.size _).trans (b2.mono (by have := HB.out.size; simp; omega))
    · have hk := strayAt_end hst
      rw [len_list] at hk
      have HST := Lib.hid hst; clear hst
      have q1 := slice_upto s k (by omega)
      have q2 := slice_from s k (by omega)
      rw [ext_upto] at q1
      rw [ext_from] at q2
      have Q := Lib.hid (And.intro q1 q2); clear q1 q2
      have k0 : (0 : Int) ≤ (k : Int) := by omega
      have k1 : (k : Int) ≤ (s.size : Int) := by omega
      go_enter Tryz.func41, Tryz.ntmps41
      go_wp2_with fail
      refine HCK.out.mono ?_; rintro e w1 ⟨rfl, b1⟩
      rw [HST.out]
      have HB := Lib.hid (HL.out.2.trans (b1.mono (by simp)))
      have L2 := (HL.out.1.keep b1).keep ((Below.refl _ _).alloc (Nat.le_refl _) (.cells #[.int .i64 0, .nilIface] 107))
      clear b1
      unfold checkV strayV
      simp only [if_true]
      have hio := is_same k p1 (w1.alloc (.cells #[.int .i64 0, .nilIface] 107))
      have g1 := L2.behind
      unfold errV at g1
      have HI := Lib.hid (And.intro hio L2); clear hio L2
      go_wp2_with fail
      refine HI.out.1.mono ?_; rintro e w2 ⟨rfl, b2⟩
      have L3 := HI.out.2.keep b2
      have zt : w1.heap.size < (w1.alloc (.cells #[.int .i64 0, .nilIface] 107)).heap.size := by simp
      have ht : w2.heap[w1.heap.size]? = some (.cells #[.int .i64 0, .nilIface] 107 (0, 0)) := by rw [b2.block _ zt]; exact heap_alloc_last _ _
      have zw : w.heap.size ≤ w1.heap.size := HB.out.size
      have hB2 := (HB.out.alloc HB.out.size (.cells #[.int .i64 0, .nilIface] 107)).trans (b2.mono (by simp; omega))
      have has := as_hit k p1 w1.heap.size _ w2 L3.handle ht rfl
      have ht4 : (asW4 w2 w1.heap.size k p1).heap[w1.heap.size]? = some (.cells #[.int .i64 0, .nilIface] 107 (0, 0)) := by
        rw [(asW4_below w2 w1.heap.size k p1).block _ (Array.getElem?_eq_some_iff.1 ht).1]; exact ht
      have hc := cell_setRow_same (asW4 w2 w1.heap.size k p1) w1.heap.size 0 _ #[.int .i64 k, .iface 167 (.pointer (some p1))] _ _ ht4
      have hB4 := below_setRow (hB2.trans ((asW4_below w2 w1.heap.size k p1).mono hB2.size)) zw #[.int .i64 k, .iface 167 (.pointer (some p1))]
      have H := Lib.hid (And.intro has (And.intro hc hB4)); clear has hc hB4 ht4 ht L3 b2 hB2 g1 zt
      go_wp2_with fail
      refine H.out.1.mono ?_; rintro e w3 ⟨rfl, hw3⟩
      have hc3 : w3.cell? ⟨w1.heap.size, 0, none⟩ = some (.int .i64 k) := by rw [hw3]; exact H.out.2.1
      have hb3 : Below w.heap.size w w3 := by rw [hw3]; exact H.out.2.2
      have HB3 := Lib.hid hb3; clear hb3 hw3
      have q1 := Q.out.1
      have q2 := Q.out.2
      generalize w1.heap.size = g at *
      go_wp2_with fail
      go_quiet (fail)
      clear q1 q2
      go_wp2
      refine bodyPost_ret (v := .tuple #[.string ⟨(s.data.toList.take k).toArray⟩, .string ⟨(s.data.toList.drop k).toArray⟩, .bool true]) (by simp [results, Tryz.results41, go_sem]) rfl ⟨rfl, below_drewN HB3.out _⟩

end Go.Proofs.YtgkkjlpfkoplhaaGreatDoor
