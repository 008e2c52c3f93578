/-
  The model splits a text at a byte.
-/
import Derived.Test.YtbgdngfjeikheaaDoorLqRead
import Derived.OwnWalk
import Derived.Maps.AppendAt
namespace Go.Proofs.YtbgdngfjeikheaaDoor
open Go.RowKit
set_option linter.unusedVariables false

def strS (l : List ByteArray) : List Value := l.map Value.string
theorem strS_append (l m : List ByteArray) : strS (l ++ m) = strS l ++ strS m := by simp [strS]
/-- What is still to come: n bytes are still to be looked at, the piece under way began at f. -/
def cutS (s : ByteArray) (b : UInt8) : Nat → Nat → List ByteArray
  | 0, f => [s.extract f s.size]
  | n + 1, f => if s.data.toList[s.size - (n + 1)]? = some b then s.extract f (s.size - (n + 1)) :: cutS s b n (s.size - (n + 1) + 1) else cutS s b n f
def CutAt (s : ByteArray) (b : UInt8) (w : World) (n f : Nat) (v : Value) (wr : World) : Prop :=
  ∃ xs : List ByteArray, xs ++ cutS s b n f = cutS s b s.size 0 ∧ xs.length + n ≤ s.size ∧ wr.ownsRow w.heap.size 9 1 v xs.length (strS xs) ∧ Below w.heap.size w wr
theorem infoS : (Tryd.prog.info? 9).map (fun i => (i.zero, i.size, i.bytes)) = some (some (.string ⟨#[]⟩), 1, 16) := by kernel_rfl
theorem beqB (c k : UInt8) : ((c.toNat : Int) == (k.toNat : Int)) = decide (c = k) := by
  rw [Bool.eq_iff_iff]; simp only [beq_iff_eq, decide_eq_true_eq]
  constructor
  · intro h; exact UInt8.toNat_inj.1 (by omega)
  · intro h; rw [h]

set_option maxHeartbeats 3200000 in
set_option maxRecDepth 100000 in
theorem l1Split_any (s : ByteArray) (b : UInt8) (hz : (s.size : Int) ≤ 1048576) (w : World) :
    Calls Tryd.prog 88 #[.string s, .int .u8 (b.toNat : Int)] w fun e w' => ∃ v, e = .returned v ∧ w'.ownsRow w.heap.size 9 1 v (cutS s b s.size 0).length (strS (cutS s b s.size 0)) ∧ Below w.heap.size w w' := by
  have h0 : CutAt s b w s.size 0 (.slice none 0 0) w := ⟨[], rfl, by simp, ⟨rfl, .inl ⟨rfl, rfl⟩⟩, Below.refl _ _⟩
  have H0 := Lib.hid h0; clear h0
  obtain ⟨i0, hi, hz0, hz1, hz2⟩ := info_parts infoS
  have HI := Lib.hid (And.intro hi (And.intro hz0 (And.intro hz1 hz2))); clear hi hz0 hz1 hz2
  go_enter Tryd.func88, Tryd.ntmps88
  go_wp2
  go_loopw [5, 6, 7] (fun v fr t wr => ∃ f i : Nat, fr = .int .i64 f ∧ t = .int .i64 i ∧ f ≤ i ∧ i ≤ s.size ∧ Hid (CutAt s b w (s.size - i) f v wr)) (fun _ _ t _ => s.size - (intOf t).toNat)
  case atStart => exact ⟨0, 0, rfl, rfl, Nat.le_refl _, Nat.zero_le _, H0⟩
  case round =>
    clear H0
    obtain ⟨f, i, rfl, rfl, hfi, his, hH⟩ := hrel
    by_cases hlt : i < s.size
    · have hltI : (i : Int) < (s.size : Int) := by omega
      have hfI : (f : Int) ≤ (i : Int) := by omega
      have hix := rindex s i hlt
      have hbe := beqB s[i] b
      have hget : s.data.toList[s.size - (s.size - (i + 1) + 1)]? = some s[i] := by
        rw [show s.size - (s.size - (i + 1) + 1) = i from by omega, List.getElem?_eq_getElem (by simpa using hlt)]; rfl
      obtain ⟨xs, hx, hlen, hown, hbel⟩ := hH.out
      rw [show s.size - i = (s.size - (i + 1)) + 1 from by omega] at hx
      have hc : cutS s b ((s.size - (i + 1)) + 1) f = if s[i] = b then s.extract f i :: cutS s b (s.size - (i + 1)) (i + 1) else cutS s b (s.size - (i + 1)) f := by
        show (if s.data.toList[s.size - (s.size - (i + 1) + 1)]? = some b then _ else _) = _
        rw [hget, show s.size - (s.size - (i + 1) + 1) = i from by omega]
        by_cases e : s[i] = b
        · rw [if_pos (by rw [e]), if_pos e]
        · rw [if_neg (fun h => e (Option.some.inj h)), if_neg e]
      rw [hc] at hx
      clear hc hget hH
      generalize s[i] = c at *
      by_cases hcb : c = b
      · rw [if_pos hcb] at hx
        rw [decide_eq_true hcb] at hbe
        have HH := Lib.hid (And.intro hx (And.intro hlen (And.intro hown hbel)))
        have hbase := hbel.size
        have hn : xs.length ≤ 1048576 := by omega
        clear hx hlen hown hbel hcb
        go_wp2_with (at_builtin; refine wpList_append_own_at _ rfl _ _ 107 rfl w.heap.size 9 i0 (.string ⟨#[]⟩) 1 16 Tryd.underlying107 HI.out.1 HI.out.2.1 HI.out.2.2.1 HI.out.2.2.2 rfl (by decide) _ _ _ rfl (HH.out.2.2.1.alloc _) ⟨wr.heap.size, 0, none⟩ 1 1 [.string (s.extract f i)] rfl rfl (cell_one_new wr (.string (s.extract f i)) 9) ?_ ?_ ?_ ?_ ?_)
        · intro u hu; simp at hu; rcases hu with rfl; rfl
        · unfold maxLen; omega
        · omega
        · simp; omega
        intro v' w3 hown3 hgrow _ _
        have hbel3 : Below w.heap.size w w3 := (HH.out.2.2.2.alloc hbase _).grown hgrow (by simp; omega) (fun g hg => by
          obtain ⟨_, h | ⟨g', cap, cur, hv, hb', _⟩⟩ := HH.out.2.2.1
          · rw [h.1] at hg; cases hg
          · rw [hv] at hg; simp [Value.ownBlock] at hg; omega)
        have hown4 : w3.ownsRow w.heap.size 9 1 v' (xs ++ [s.extract f i]).length (strS (xs ++ [s.extract f i])) := by
          rw [strS_append, List.length_append]; exact hown3
        have H3 := Lib.hid (And.intro hown4 hbel3); clear hown3 hgrow hown4 hbel3
        go_wp2
        go_roundw
        case rel => exact ⟨i + 1, i + 1, by go_num, by go_num, by omega, by omega, Lib.hid ⟨_, by have := HH.out.1; simpa using this, by have := HH.out.2.1; simp; omega, H3.out.1, H3.out.2⟩⟩
        case measure => simp [intOf]; omega
      · rw [if_neg hcb] at hx
        rw [decide_eq_false hcb] at hbe
        have HH := Lib.hid (And.intro hx (And.intro hlen (And.intro hown hbel))); clear hx hlen hown hbel hcb
        go_wp2
        go_roundw
        case rel => exact ⟨f, i + 1, rfl, by go_num, by omega, by omega, Lib.hid ⟨xs, HH.out.1, by have := HH.out.2.1; omega, HH.out.2.2.1, HH.out.2.2.2⟩⟩
        case measure => simp [intOf]; omega
    · obtain rfl : i = s.size := by omega
      obtain ⟨xs, hx, hlen, hown, hbel⟩ := hH.out
      rw [Nat.sub_self] at hx
      have hx : xs ++ [s.extract f s.size] = cutS s b s.size 0 := hx
      have hfI : (f : Int) ≤ (s.size : Int) := by omega
      have HH := Lib.hid (And.intro hx (And.intro hlen (And.intro hown hbel)))
      have hbase := hbel.size
      have hn : xs.length ≤ 1048576 := by omega
      clear hx hlen hown hbel hH
      go_wp2_with (at_builtin; refine wpList_append_own_at _ rfl _ _ 107 rfl w.heap.size 9 i0 (.string ⟨#[]⟩) 1 16 Tryd.underlying107 HI.out.1 HI.out.2.1 HI.out.2.2.1 HI.out.2.2.2 rfl (by decide) _ _ _ rfl (HH.out.2.2.1.alloc _) ⟨wr.heap.size, 0, none⟩ 1 1 [.string (s.extract f s.size)] rfl rfl (cell_one_new wr (.string (s.extract f s.size)) 9) ?_ ?_ ?_ ?_ ?_)
      · intro u hu; simp at hu; rcases hu with rfl; rfl
      · unfold maxLen; omega
      · omega
      · simp; omega
      intro v' w3 hown3 hgrow _ _
      have hbel3 : Below w.heap.size w w3 := (HH.out.2.2.2.alloc hbase _).grown hgrow (by simp; omega) (fun g hg => by
        obtain ⟨_, h | ⟨g', cap, cur, hv, hb', _⟩⟩ := HH.out.2.2.1
        · rw [h.1] at hg; cases hg
        · rw [hv] at hg; simp [Value.ownBlock] at hg; omega)
      have hown4 : w3.ownsRow w.heap.size 9 1 v' (xs ++ [s.extract f s.size]).length (strS (xs ++ [s.extract f s.size])) := by
        rw [strS_append, List.length_append]; exact hown3
      have H3 := Lib.hid (And.intro hown4 hbel3); clear hown3 hgrow hown4 hbel3
      go_wp2_with fail
      refine bodyPost_ret (v := v') (by simp [results, Tryd.results88, go_sem]) rfl ⟨v', rfl, ?_, H3.out.2⟩
      rw [← HH.out.1]; exact H3.out.1
end Go.Proofs.YtbgdngfjeikheaaDoor
