/-
  Laws over leagues whose results are rows; results marked and held.
-/
import Derived.Test.YtgkkjlpfkoplhaaDoorLgLaw
namespace Go.Proofs.YtgkkjlpfkoplhaaDoor
open Go.RowKit
set_option linter.unusedVariables false
set_option linter.unusedSimpArgs false

theorem Writable.keep {w w' : World} {a : Option Addr} {n : Nat} (h : Writable w a n) (hb : Below w.heap.size w w') : Writable w' a n := by
  rcases h with h | ⟨b, off, rfl, hlt, hc⟩
  · exact .inl h
  · refine .inr ⟨b, off, rfl, Nat.lt_of_lt_of_le hlt hb.size, fun j hj => ?_⟩
    have hk := hb.block b hlt
    rw [World.cell?_of_block (w := w) (a := ⟨b, off + j, none⟩) hk, World.frozen?_of_block (w := w) (a := ⟨b, off + j, none⟩) hk]
    exact hc j hj
theorem write_heap (w : World) (a : Option Addr) (vs : List Value) (k : Nat) (h : blockOf a ≠ some k) : (writeAt w a vs).heap[k]? = w.heap[k]? := by
  match a with
  | none => rfl
  | some ⟨b, off, sp⟩ => exact setCells_heap b vs off w k (fun e => h (by simp [blockOf, e]))
theorem write_size (w : World) (a : Option Addr) (vs : List Value) : (writeAt w a vs).heap.size = w.heap.size := by
  match a with
  | none => rfl
  | some ⟨b, off, sp⟩ => exact setCells_size b vs off w
theorem own_block {a : Option Addr} {n c : Nat} : (Value.slice a n c).ownBlock = blockOf a := by
  match a with
  | none => rfl
  | some ⟨_, _, _⟩ => rfl
theorem owns_below {B : Nat} {e : TypeId} {k : Nat} {v : Value} {n : Nat} {xs : List Value} {w w' : World} (h : w.ownsRow B e k v n xs) (hb : Below w.heap.size w w') : w'.ownsRow B e k v n xs := by
  obtain ⟨h1, h2⟩ := h
  refine ⟨h1, ?_⟩
  rcases h2 with h2 | ⟨g, cap, cur, hv, hg, hh, r⟩
  · exact Or.inl h2
  · exact Or.inr ⟨g, cap, cur, hv, hg, by rw [hb.block g (Array.getElem?_eq_some_iff.1 hh).1]; exact hh, r⟩
theorem own_cap {w : World} {B T n size : Nat} {v : Value} {xs : List Value} (h : w.ownsRow B T size v n xs) : ∃ a c, v = .slice a n c ∧ n ≤ c ∧ Reads w a xs ∧ (∀ x, a = some x → x.spot = none) := by
  obtain ⟨a, c, rfl, hr, -⟩ := Reads.own h
  obtain ⟨hl, ⟨hv, h2⟩ | ⟨g', cap, cur, hv, hb, hh, hn, r⟩⟩ := h
  · injection hv with h3 h4 h5
    subst h3 h5
    exact ⟨none, 0, rfl, by omega, hr, fun x e => by cases e⟩
  · injection hv with h3 h4 h5
    subst h3 h5
    exact ⟨_, _, rfl, hn, hr, fun x e => by cases e; rfl⟩
theorem owns_base {w : World} {B B' T n size : Nat} {v : Value} {xs : List Value} (h : w.ownsRow B' T size v n xs) (hb : B ≤ B') : w.ownsRow B T size v n xs := by
  obtain ⟨hl, ⟨rfl, h2⟩ | ⟨g', cap, cur, rfl, hbb, r⟩⟩ := h
  · exact ⟨hl, .inl ⟨rfl, h2⟩⟩
  · exact ⟨hl, .inr ⟨g', cap, cur, rfl, Nat.le_trans hb hbb, r⟩⟩
theorem owns_heap {w w' : World} {T base n size : Nat} {v : Value} {xs : List Value} (ho : w.ownsRow base T size v n xs) (hs : ∀ k, v.ownBlock = some k → w'.heap[k]? = w.heap[k]?) : w'.ownsRow base T size v n xs := by
  obtain ⟨hl, ⟨rfl, h2⟩ | ⟨g', cap, cur, rfl, hb, hh, r⟩⟩ := ho
  · exact ⟨hl, .inl ⟨rfl, h2⟩⟩
  · refine ⟨hl, .inr ⟨g', cap, cur, rfl, hb, ?_, r⟩⟩
    rw [hs g' (by simp [Value.ownBlock])]; exact hh
theorem owns_ge {w : World} {T base n size : Nat} {v : Value} {xs : List Value} (ho : w.ownsRow base T size v n xs) {g : Nat} (e : v.ownBlock = some g) : base ≤ g ∧ g < w.heap.size := by
  obtain ⟨hl, ⟨rfl, h2⟩ | ⟨g', cap, cur, rfl, hb, hh, r⟩⟩ := ho
  · simp [Value.ownBlock] at e
  · simp [Value.ownBlock] at e
    subst e
    exact ⟨hb, (Array.getElem?_eq_some_iff.1 hh).1⟩
theorem owns_apart {w : World} {g T T' base n size : Nat} {v : Value} {xs : List Value} {cs : Array Value} {fr : Nat × Nat} (h : w.heap[g]? = some (.cells cs T fr)) (hT : T ≠ T') (ho : w.ownsRow base T' size v n xs) : v.ownBlock ≠ some g := by
  obtain ⟨_, ⟨rfl, _⟩ | ⟨g', cap, cur, rfl, _, hh, _⟩⟩ := ho
  · simp [Value.ownBlock]
  · intro e
    simp [Value.ownBlock] at e
    subst e
    rw [hh] at h
    injection h with h
    injection h with h1 h2 h3
    exact hT h2.symm
/-- What a function hands back whose results are a row of its own and a bool. -/
def RowR (L : List Int) (o : Bool) (w : World) (e : Ending) (w' : World) : Prop :=
  ∃ v, e = .returned (.tuple #[v, .bool o]) ∧ w'.ownsRow w.heap.size 3 1 v L.length (ints L) ∧ Below w.heap.size w w'
theorem owns_nil (w : World) (B : Nat) (T : TypeId) : w.ownsRow B T 1 (.slice none 0 0) 0 (ints []) := ⟨rfl, .inl ⟨rfl, rfl⟩⟩


theorem marks_four (k0 : Int) (k : Nat) : ints (marks k0 (k * 4)) ++ [.int .i64 (k0 + ((k * 4 : Nat) : Int)), .int .i64 (k0 + ((k * 4 : Nat) : Int) + 1), .int .i64 (k0 + ((k * 4 : Nat) : Int) + 1 + 1), .int .i64 (k0 + ((k * 4 : Nat) : Int) + 1 + 1 + 1)] = ints (marks k0 ((k + 1) * 4)) := by
  rw [show (k + 1) * 4 = k * 4 + 1 + 1 + 1 + 1 from by omega]
  simp only [marks_succ, ints, List.map_append, List.map_cons, List.map_nil, List.append_assoc, List.cons_append, List.nil_append]
  rw [show k0 + ((k * 4 + 1 : Nat) : Int) = k0 + ((k * 4 : Nat) : Int) + 1 from by omega, show k0 + ((k * 4 + 1 + 1 : Nat) : Int) = k0 + ((k * 4 : Nat) : Int) + 1 + 1 from by omega, show k0 + ((k * 4 + 1 + 1 + 1 : Nat) : Int) = k0 + ((k * 4 : Nat) : Int) + 1 + 1 + 1 from by omega]
theorem set_four (w : World) (b off : Nat) (vs : List Value) (x0 x1 x2 x3 : Value) :
    ((((w.setCells b off vs).setCell ⟨b, off + vs.length, none⟩ x0).setCell ⟨b, off + vs.length + 1, none⟩ x1).setCell ⟨b, off + vs.length + 2, none⟩ x2).setCell ⟨b, off + vs.length + 3, none⟩ x3 = w.setCells b off (vs ++ [x0, x1, x2, x3]) := by
  rw [setCells_snoc b x0 vs off w]
  have e1 := setCells_snoc b x1 (vs ++ [x0]) off w
  have e2 := setCells_snoc b x2 ((vs ++ [x0]) ++ [x1]) off w
  have e3 := setCells_snoc b x3 (((vs ++ [x0]) ++ [x1]) ++ [x2]) off w
  simp only [List.length_append, List.length_cons, List.length_nil, Nat.zero_add, ← Nat.add_assoc] at e1 e2 e3
  rw [e1]
  rw [show off + vs.length + 2 = off + vs.length + 1 + 1 from rfl, e2]
  rw [show off + vs.length + 3 = off + vs.length + 1 + 1 + 1 from rfl, e3]
  simp

set_option maxHeartbeats 1600000 in
theorem markResultS_any (n : Nat) (a : Option Addr) (c : Nat) (k0 : Int) (w : World) (hn : (n : Int) ≤ 1000000000000) (h0 : 0 ≤ k0) (h1 : k0 ≤ 1000000000000) (h : Writable w a (n * 4)) :
    Calls Tryd.prog 55 #[.slice a n c, .int .i64 k0] w fun e w' => e = .returned (.int .i64 (k0 + ((n * 4 : Nat) : Int))) ∧ w' = writeAt w a (ints (marks k0 (n * 4))) := by
  rcases h with h | ⟨b, off, rfl, hlt, hc⟩
  · obtain rfl : n = 0 := by omega
    have hw : writeAt w a (ints (marks k0 (0 * 4))) = w := by
      match a with
      | none => rfl
      | some ⟨_, _, _⟩ => rfl
    rw [hw]; clear hw
    go_enter Tryd.func55, Tryd.ntmps55
    go_wp2_with fail
    refine wp_loop_rounds 1 ?_
    rw [rounds_succ]
    go_wp2
    go_ret
    exact ⟨ret_int (by simp), rfl⟩
  · have HC := Lib.hid hc; clear hc
    go_enter Tryd.func55, Tryd.ntmps55
    go_wp2_with fail
    go_loopw [1, 5] (fun q i wr => ∃ k : Nat, i = .int .i64 k ∧ k ≤ n ∧ q = .int .i64 (k0 + ((k * 4 : Nat) : Int)) ∧ wr = w.setCells b off (ints (marks k0 (k * 4)))) (fun _ i _ => n - (intOf i).toNat)
    case atStart => exact ⟨0, rfl, Nat.zero_le _, by simp, rfl⟩
    case round =>
      obtain ⟨k, rfl, hk, rfl, hw⟩ := hrel
      by_cases hlt : k < n
      · have hsz := ints_len (marks k0 (k * 4))
        rw [marks_len] at hsz
        have cellOf : ∀ d, d < 4 → ∃ v, wr.cell? ⟨b, off + k * 4 + d, none⟩ = some v := by
          intro d hd
          have hcell := World.cell?_setCells_out b (ints (marks k0 (k * 4))) off w ⟨b, off + k * 4 + d, none⟩ (fun _ _ => .inr (by simp only; omega))
          obtain ⟨v, hv⟩ := Option.isSome_iff_exists.1 (HC.out (k * 4 + d) (by omega)).1
          rw [← Nat.add_assoc] at hv
          rw [← hw, hv] at hcell
          exact ⟨v, hcell⟩
        have frOf : ∀ d, d < 4 → wr.frozen? ⟨b, off + k * 4 + d, none⟩ = false := by
          intro d hd
          have hf := World.frozen?_setCells b (ints (marks k0 (k * 4))) off w ⟨b, off + k * 4 + d, none⟩
          have h2 := (HC.out (k * 4 + d) (by omega)).2
          rw [← Nat.add_assoc] at h2
          rw [← hw, h2] at hf
          exact hf
        obtain ⟨v0, hv0⟩ := cellOf 0 (by omega)
        obtain ⟨v1, hv1⟩ := cellOf 1 (by omega)
        obtain ⟨v2, hv2⟩ := cellOf 2 (by omega)
        obtain ⟨v3, hv3⟩ := cellOf 3 (by omega)
        have f0 := frOf 0 (by omega)
        have f1 := frOf 1 (by omega)
        have f2 := frOf 2 (by omega)
        have f3 := frOf 3 (by omega)
        rw [Nat.add_zero] at hv0 f0
        clear cellOf frOf
        generalize hK : k0 + ((k * 4 : Nat) : Int) = K
        have hs := set_four w b off (ints (marks k0 (k * 4))) (.int .i64 K) (.int .i64 (K + 1)) (.int .i64 (K + 1 + 1)) (.int .i64 (K + 1 + 1 + 1))
        rw [hsz, ← hw, ← hK, marks_four, hK] at hs
        have HS := Lib.hid hs; clear hs
        have HW := Lib.hid hw; clear hw hsz
        have hb : (k : Int) < (n : Int) := by omega
        have HK := Lib.hid hK; have hK0 : 0 ≤ K ∧ K ≤ 10000000000000 := by omega
        clear hK
        go_wp2
        go_roundw
        case rel => exact ⟨k + 1, by go_num, by omega, by have := HK.out; go_num, HS.out⟩
        case measure => simp [intOf]; omega
      · obtain rfl : k = n := by omega
        have HW := Lib.hid hw; clear hw
        go_wp2
        go_ret
        exact ⟨rfl, HW.out⟩

set_option maxHeartbeats 1600000 in
theorem heldResultS_any (n : Nat) (a : Option Addr) (c : Nat) (k0 : Int) (w : World) (hn : (n : Int) ≤ 1000000000000) (h0 : 0 ≤ k0) (h1 : k0 ≤ 1000000000000) (h : Reads w a (ints (marks k0 (n * 4)))) :
    Calls Tryd.prog 56 #[.slice a n c, .int .i64 k0] w fun e w' => e = .returned (.int .i64 (k0 + ((n * 4 : Nat) : Int))) ∧ w' = w := by
  by_cases hz : n = 0
  · subst hz
    clear h
    go_enter Tryd.func56, Tryd.ntmps56
    go_wp2_with fail
    refine wp_loop_rounds 1 ?_
    rw [rounds_succ]
    go_wp2
    go_ret
    exact ⟨ret_int (by simp), rfl⟩
  · obtain ⟨b, off, rfl, _, hc⟩ := cells_of_reads h (by rw [marks_len]; omega)
    have HC := Lib.hid hc; clear hc h hz
    go_enter Tryd.func56, Tryd.ntmps56
    go_wp2_with fail
    go_loop [1, 5] (fun q i => ∃ k : Nat, i = .int .i64 k ∧ k ≤ n ∧ q = .int .i64 (k0 + ((k * 4 : Nat) : Int))) (fun _ i => n - (intOf i).toNat)
    case atStart => exact ⟨0, rfl, Nat.zero_le _, by simp⟩
    case round =>
      obtain ⟨k, rfl, hk, rfl⟩ := hrel
      by_cases hlt : k < n
      · have cellOf : ∀ d : Nat, d < 4 → w.cell? ⟨b, off + k * 4 + d, none⟩ = some (.int .i64 (k0 + ((k * 4 : Nat) : Int) + (d : Int))) := by
          intro d hd
          have hcell := HC.out (k * 4 + d) (by rw [marks_len]; omega)
          rw [marks_get _ _ _ (by omega)] at hcell
          rw [Nat.add_assoc, hcell]
          congr 2; omega
        have c0 := cellOf 0 (by omega)
        have c1 := cellOf 1 (by omega)
        have c2 := cellOf 2 (by omega)
        have c3 := cellOf 3 (by omega)
        rw [Nat.add_zero] at c0
        clear cellOf
        simp only [Int.natCast_zero, Int.add_zero, Int.natCast_one, Int.cast_ofNat_Int] at c0 c1 c2 c3
        generalize hK : k0 + ((k * 4 : Nat) : Int) = K at *
        have hb : (k : Int) < (n : Int) := by omega
        have HK := Lib.hid hK; have hK0 : 0 ≤ K ∧ K ≤ 10000000000000 := by omega
        clear hK
        have q0 : (K != K) = false := by simp
        have q1 : (K + 1 != K + 1) = false := by simp
        have q2 : (K + 2 != K + 2) = false := by simp
        have q3 : (K + 3 != K + 3) = false := by simp
        go_wp2
        go_round
        case rel => exact ⟨k + 1, by go_num, by omega, by have := HK.out; go_num⟩
        case measure => simp [intOf]; omega
      · obtain rfl : k = n := by omega
        go_wp2
        go_ret
        exact ⟨rfl, rfl⟩


theorem Writable.keep' {w w' : World} {a : Option Addr} {n : Nat} (h : Writable w a n) (hb : Below w.heap.size w w') : Writable w' a n := h.keep hb
set_option maxHeartbeats 800000 in
theorem markLeague_any (t wn : Int) (n : Nat) (a : Option Addr) (c : Nat) (k0 : Int) (w : World) (hn : (n : Int) ≤ 1000000000000) (h0 : 0 ≤ k0) (h1 : k0 ≤ 1000000000000) (h : Writable w a (n * 4)) :
    Calls Tryd.prog 29 #[.agg #[.int .i64 t, .int .i64 wn, .slice a n c], .int .i64 k0] w fun e w' => e = .returned (.int .i64 (k0 + ((n * 4 : Nat) : Int))) ∧ w' = writeAt (w.alloc (.cells #[.int .i64 t, .int .i64 wn, .slice a n c] 34)) a (ints (marks k0 (n * 4))) := by
  have HM := Lib.hid (markResultS_any n a c k0 _ hn h0 h1 (h.keep (Below.ofNew (.cells #[.int .i64 t, .int .i64 wn, .slice a n c] 34))))
  clear h
  go_enter Tryd.func29, Tryd.ntmps29
  go_wp2_with fail
  refine HM.out.mono ?_; rintro e w1 ⟨rfl, hw⟩
  have HW := Lib.hid hw; clear hw
  go_wp2_with fail
  go_ret
  exact ⟨rfl, HW.out⟩

theorem eq_same (L : List Int) (a a' : Option Addr) (c c' : Nat) (w : World) (hl : (L.length : Int) ≤ 1048576) (h : Reads w a (ints L)) (h' : Reads w a' (ints L)) :
    Calls Tryd.prog 8 #[.slice a L.length c, .slice a' L.length c'] w fun e w' => e = .returned (.bool true) ∧ Below w.heap.size w w' := by
  have := eqIntS_any L L a a' c c' w (by omega) (by omega) h h'
  rw [show SameB L L = true from by simp [SameB]] at this
  exact this
end Go.Proofs.YtgkkjlpfkoplhaaDoor
