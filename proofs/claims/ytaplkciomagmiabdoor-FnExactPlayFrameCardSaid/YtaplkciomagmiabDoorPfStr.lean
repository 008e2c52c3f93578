/-
  Lists of texts in the laws over frames: compared, marked.
-/
import Derived.Test.YtaplkciomagmiabDoorFwRow
import Derived.Test.YtaplkciomagmiabDoorSliceStr
import Derived.Test.YtaplkciomagmiabDoorFrAfterL
import Derived.Deep.RegionHeld3
import Derived.BigQuiet
import Derived.Laws.BytesString
namespace Go.Proofs.YtaplkciomagmiabDoor
open Go.RowKit
set_option linter.unusedVariables false
set_option linter.unusedSimpArgs false

set_option maxHeartbeats 1600000 in
theorem eqStringS_same (l : List ByteArray) (a a' : Option Addr) (c c' : Nat) (w : World) (hl : (l.length : Int) ≤ 1000000000000) (h : Reads w a (strs l)) (h' : Reads w a' (strs l)) :
    Calls Tryd.prog 12 #[.slice a l.length c, .slice a' l.length c'] w fun e w' => e = .returned (.bool true) ∧ Below w.heap.size w w' := by
  by_cases hne : 0 < l.length
  · obtain ⟨b, off, rfl, _, hc⟩ := scells_of_reads h hne
    obtain ⟨b', off', rfl, _, hc'⟩ := scells_of_reads h' hne
    have HC := Lib.hid hc; clear hc
    have HC' := Lib.hid hc'; clear hc' h h'
    have hb : (((l.length : Nat) : Int) != ((l.length : Nat) : Int)) = false := by simp
    go_enter Tryd.func12, Tryd.ntmps12
    go_wp2_with fail
    go_loopw [5] (fun i wr => ∃ k : Nat, i = .int .i64 k ∧ k ≤ l.length ∧ ∃ nq, wr = w.drewN nq) (fun i _ => l.length - (intOf i).toNat)
    case atStart => exact ⟨0, rfl, Nat.zero_le _, 0, rfl⟩
    case round =>
      obtain ⟨k, rfl, hk, nq, rfl⟩ := hrel
      by_cases hlt : k < l.length
      · have c1 := HC.out k hlt
        have c2 := HC'.out k hlt
        have b1 : (k : Int) < (l.length : Int) := by omega
        generalize l.getD k ⟨#[]⟩ = s at *
        obtain ⟨V⟩ := s
        have q0 : (V.toList != V.toList) = false := by simp
        have q2 : (V != V) = false := by simp
        go_wp2
        go_quiet (fail)
        go_wp2
        go_roundw
        case rel => exact ⟨k + 1, by go_num, by omega, _, rfl⟩
        case measure => simp [intOf]; omega
      · obtain rfl : k = l.length := by omega
        go_wp2
        go_ret
        exact ⟨rfl, below_drewN (Below.refl _ _) _⟩
  · have h0 : l.length = 0 := by omega
    rw [h0]
    have hb : (((0 : Nat) : Int) != ((0 : Nat) : Int)) = false := by simp
    go_enter Tryd.func12, Tryd.ntmps12
    go_wp2_with fail
    refine wp_loop_rounds 1 ?_
    rw [rounds_succ]
    go_wp2
    go_ret
    exact ⟨rfl, Below.refl _ _⟩


def dgL : Nat → Nat → List UInt8 → List UInt8
  | 0, _, T => T
  | f + 1, n, T => if n = 0 then T else dgL f (n / 10) (dig (n % 10) :: T)
/-- The mark that a number makes. -/
def mT (k : Int) : ByteArray := ⟨(109 :: dgL 20 k.toNat []).toArray⟩
theorem pre_m (T : List UInt8) : ((⟨#[109]⟩ : ByteArray) ++ (⟨T.toArray⟩ : ByteArray)) = ⟨(109 :: T).toArray⟩ := by
  rw [ByteArray.mk_append_mk]; simp

set_option maxHeartbeats 800000 in
set_option maxRecDepth 100000 in
theorem markText_any (N : Nat) (w : World) (h0 : 1 ≤ N) (h1 : N ≤ 1000000000000) :
    Calls Tryd.prog 27 #[.int .i64 N] w fun e w' => e = .returned (.string (mT N)) ∧ Below w.heap.size w w' := by
  have hb : ¬ (N : Int) ≤ 0 := by omega
  have HE : Hid (mT N = ⟨(109 :: dgL 20 N []).toArray⟩) := rfl
  go_enter Tryd.func27, Tryd.ntmps27
  go_wp2_with fail
  go_loopw [0, 3] (fun r s wr => ∃ (f n : Nat) (T : List UInt8), r = .int .i64 n ∧ s = .string ⟨T.toArray⟩ ∧ n ≤ 1000000000000 ∧ T.length + f ≤ 20 ∧ Hid (n < 10 ^ f ∧ dgL f n T = dgL 20 N [] ∧ Below w.heap.size w wr)) (fun r _ _ => (intOf r).toNat)
  case atStart => exact ⟨20, N, [], rfl, rfl, h1, by simp, by omega, rfl, Below.refl _ _⟩
  case round =>
    obtain ⟨f, n, T, rfl, rfl, hn, hT, HJ⟩ := hrel
    by_cases hz : n = 0
    · have hd : dgL f n T = T := by
        subst hz; cases f with
        | zero => rfl
        | succ f => simp [dgL]
      have he := HJ.out.2.1
      rw [hd] at he
      have HEQ : Hid (mT N = ⟨(109 :: T).toArray⟩) := by
        show _ = _
        rw [HE.out, ← he]
      have HB := Lib.hid HJ.out.2.2
      subst hz
      have ha : ∀ W : World, (Op.stringOp .add ⟨#[109]⟩ ⟨T.toArray⟩).run Tryd.prog W = .ok (.string ⟨([109] ++ T).toArray⟩) W := fun W => run_string_add_lists W [109] T (by simp) (by omega)
      clear hd he HJ
      go_wp2_with fail
      go_ret
      refine ⟨?_, HB.out⟩
      rw [HEQ.out]; first | rfl | simp
    · obtain ⟨f', rfl⟩ : ∃ f', f = f' + 1 := by
        cases f with
        | zero => have := HJ.out.1; simp at this; omega
        | succ f' => exact ⟨f', rfl⟩
      have he := HJ.out.2.1
      rw [dgL, if_neg hz] at he
      have hlt : n / 10 < 10 ^ f' := by have := HJ.out.1; rw [Nat.pow_succ] at this; omega
      have HQ := Lib.hid (And.intro hlt (And.intro he HJ.out.2.2)); clear hlt he
      have hsz := HJ.out.2.2.size
      have hb1 : (0 : Int) < (n : Int) := by omega
      have e1 : ((n : Int)).tdiv 10 = ((n / 10 : Nat) : Int) := by rw [Int.tdiv_eq_ediv_of_nonneg (by omega)]; omega
      have e2 : ((n : Int)) / 10 = ((n / 10 : Nat) : Int) := by omega
      have e7 : IntKind.i64.wrap ((n / 10 : Nat) : Int) = ((n / 10 : Nat) : Int) := IntWalk.i64_in _ (by omega)
      have e3 : ((n : Int)).tmod 10 = ((n % 10 : Nat) : Int) := by rw [Int.tmod_eq_emod_of_nonneg (by omega)]; omega
      have e4 : ((n : Int)) % 10 = ((n % 10 : Nat) : Int) := by omega
      have hm : n % 10 < 10 := by omega
      have hq10 : n / 10 < n := by omega
      have hq12 : n / 10 ≤ 1000000000000 := by omega
      have e5 : IntKind.i64.wrap (48 + ((n % 10 : Nat) : Int)) = 48 + ((n % 10 : Nat) : Int) := IntWalk.i64_in _ (by omega)
      have e6 : IntKind.u8.wrap (48 + ((n % 10 : Nat) : Int)) = 48 + ((n % 10 : Nat) : Int) := by
        have : ∀ r : Fin 10, IntKind.u8.wrap (48 + ((r.val : Nat) : Int)) = 48 + ((r.val : Nat) : Int) := by decide
        exact this ⟨n % 10, hm⟩
      have hc : ∀ W : World, (convert 61 9 (.slice (some ⟨W.heap.size, 0, none⟩) 1 1)).run Tryd.prog (W.alloc (.cells #[.int .u8 (48 + ((n % 10 : Nat) : Int))] 5)) = .ok (.string ⟨#[dig (n % 10)]⟩) (W.alloc (.cells #[.int .u8 (48 + ((n % 10 : Nat) : Int))] 5)) :=
        fun W => one_byte (cell_of_row _ _ 0 #[.int .u8 (48 + ((n % 10 : Nat) : Int))] _ _ (heap_alloc_last W _))
      have hadd : ∀ W : World, (Op.stringOp .add ⟨#[dig (n % 10)]⟩ ⟨T.toArray⟩).run Tryd.prog W = .ok (.string ⟨([dig (n % 10)] ++ T).toArray⟩) W := fun W =>
        run_string_add_lists W [dig (n % 10)] T (by simp) (by omega)
      generalize n % 10 = r at *
      generalize n / 10 = q at *
      clear HJ hz
      go_wp2_with fail
      go_roundw
      case rel => exact ⟨f', q, dig r :: T, by go_num, by first | rfl | simp, hq12, by simp; omega, HQ.out.1, HQ.out.2.1, HQ.out.2.2.alloc hsz _⟩
      case measure => simp [intOf]; omega

/-- Nothing has turned but one row. -/
def OnlyO (a : Option Addr) (w w' : World) : Prop := (w'.os = w.os ∧ w'.tape = w.tape ∧ w'.output = w.output ∧ w.heap.size ≤ w'.heap.size) ∧ ∀ k, k < w.heap.size → blockOf a ≠ some k → w'.heap[k]? = w.heap[k]?
theorem OnlyO.refl (a : Option Addr) (w : World) : OnlyO a w w := ⟨⟨rfl, rfl, rfl, Nat.le_refl _⟩, fun _ _ _ => rfl⟩
theorem OnlyO.then {a : Option Addr} {w w1 w2 : World} (h : OnlyO a w w1) (hb : Below w1.heap.size w1 w2) : OnlyO a w w2 :=
  ⟨⟨hb.os.trans h.1.1, hb.tape.trans h.1.2.1, hb.output.trans h.1.2.2.1, Nat.le_trans h.1.2.2.2 hb.size⟩, fun k hk hne => (hb.block k (Nat.lt_of_lt_of_le hk h.1.2.2.2)).trans (h.2 k hk hne)⟩
theorem OnlyO.put {b off : Nat} {w w1 : World} (h : OnlyO (some ⟨b, off, none⟩) w w1) (o : Nat) (v : Value) : OnlyO (some ⟨b, off, none⟩) w (w1.setCell ⟨b, o, none⟩ v) :=
  ⟨⟨h.1.1, h.1.2.1, h.1.2.2.1, by simpa [World.setCell] using h.1.2.2.2⟩, fun k hk hne => (Below.heap_setCell _ _ _ _ (fun e => hne (by simp [blockOf, e]))).trans (h.2 k hk hne)⟩
theorem below_onlyO {B : Nat} {w0 w w' : World} {a : Option Addr} (h : Below B w0 w) (ho : OnlyO a w w') (hB : ∀ b, blockOf a = some b → B ≤ b) (hs : B ≤ w.heap.size) : Below B w0 w' :=
  h.trans ⟨ho.1.1, ho.1.2.1, ho.1.2.2.1, ho.1.2.2.2, fun k hk => ho.2 k (by omega) (fun e => by have := hB k e; omega)⟩
theorem Reads.onlyO {w w' : World} {a a' : Option Addr} {cs : List Value} (h : Reads w a cs) (ho : OnlyO a' w w') (hne : ∀ b, blockOf a = some b → blockOf a' ≠ some b) : Reads w' a cs := by
  rcases h with h | ⟨b, off, rfl, hlt, hc⟩
  · exact .inl h
  · refine .inr ⟨b, off, rfl, Nat.lt_of_lt_of_le hlt ho.1.2.2.2, fun j hj => ?_⟩
    rw [World.cell?_of_block (w := w) (a := ⟨b, off + j, none⟩) (ho.2 b hlt (hne b rfl))]
    exact hc j hj
def mtx (k0 : Int) (n : Nat) : List ByteArray := (List.range n).map fun (i : Nat) => mT (k0 + (i : Int))
theorem mtx_len (k0 : Int) (n : Nat) : (mtx k0 n).length = n := by simp [mtx]
/-- A row half marked. -/
def HalfM (w : World) (b off n : Nat) (k0 : Int) (k : Nat) (wr : World) : Prop :=
  OnlyO (some ⟨b, off, none⟩) w wr ∧ b < wr.heap.size ∧ (∀ j, j < n → (wr.cell? ⟨b, off + j, none⟩).isSome = true ∧ wr.frozen? ⟨b, off + j, none⟩ = false) ∧ ∀ j, j < k → wr.cell? ⟨b, off + j, none⟩ = some (.string (mT (k0 + (j : Int))))
theorem HalfM.keep {w : World} {b off n : Nat} {k0 : Int} {k : Nat} {wr w2 : World} (h : HalfM w b off n k0 k wr) (hb : Below wr.heap.size wr w2) : HalfM w b off n k0 k w2 :=
  ⟨h.1.then hb, Nat.lt_of_lt_of_le h.2.1 hb.size, fun j hj => by rw [hb.cell (p := ⟨b, off + j, none⟩) h.2.1, hb.frozen (p := ⟨b, off + j, none⟩) h.2.1]; exact h.2.2.1 j hj, fun j hj => by rw [hb.cell (p := ⟨b, off + j, none⟩) h.2.1]; exact h.2.2.2 j hj⟩
theorem HalfM.put {w : World} {b off n : Nat} {k0 : Int} {k : Nat} {wr : World} (h : HalfM w b off n k0 k wr) (hk : k < n) : HalfM w b off n k0 (k + 1) (wr.setCell ⟨b, off + k, none⟩ (.string (mT (k0 + (k : Int))))) := by
  obtain ⟨h1, h2, h3, h4⟩ := h
  obtain ⟨u, hu⟩ := Option.isSome_iff_exists.1 (h3 k hk).1
  have same := World.cell?_setCell_same wr ⟨b, off + k, none⟩ (.string (mT (k0 + (k : Int)))) hu
  have other : ∀ j, j ≠ k → (wr.setCell ⟨b, off + k, none⟩ (.string (mT (k0 + (k : Int))))).cell? ⟨b, off + j, none⟩ = wr.cell? ⟨b, off + j, none⟩ := fun j hj => World.cell?_setCell_other _ _ _ _ (by intro e; injection e; omega)
  refine ⟨h1.put _ _, by simpa [World.setCell] using h2, fun j hj => ⟨?_, by rw [World.frozen?_setCell]; exact (h3 j hj).2⟩, fun j hj => ?_⟩
  · by_cases e : j = k
    · subst e; rw [same]; rfl
    · rw [other j e]; exact (h3 j hj).1
  · by_cases e : j = k
    · subst e; exact same
    · rw [other j e]; exact h4 j (by omega)

set_option maxHeartbeats 800000 in
set_option maxRecDepth 100000 in
theorem markStringS_any (n : Nat) (a : Option Addr) (c : Nat) (w : World) (hn : (n : Int) ≤ 1000000000) (h : Writable w a n) :
    Calls Tryd.prog 13 #[.slice a n c, .int .i64 1] w fun e w' => e = .returned (.int .i64 (1 + n)) ∧ Reads w' a (strs (mtx 1 n)) ∧ OnlyO a w w' := by
  rcases h with rfl | ⟨b, off, rfl, hlt, hc⟩
  · go_enter Tryd.func13, Tryd.ntmps13
    go_wp2_with fail
    refine wp_loop_rounds 1 ?_
    rw [rounds_succ]
    go_wp2
    go_ret
    exact ⟨ret_int (by simp), .inl rfl, OnlyO.refl _ _⟩
  · have H0 : Hid (HalfM w b off n 1 0 w) := ⟨OnlyO.refl _ _, hlt, hc, fun j hj => by omega⟩
    clear hc
    go_enter Tryd.func13, Tryd.ntmps13
    go_wp2_with fail
    go_loopw [1, 5] (fun q i wr => ∃ k : Nat, i = .int .i64 k ∧ k ≤ n ∧ q = .int .i64 (1 + k) ∧ Hid (HalfM w b off n 1 k wr)) (fun _ i _ => n - (intOf i).toNat)
    case atStart => exact ⟨0, rfl, Nat.zero_le _, by simp, H0.out⟩
    case round =>
      obtain ⟨k, rfl, hk, rfl, HJ⟩ := hrel
      by_cases hlt2 : k < n
      · have hb : (k : Int) < (n : Int) := by omega
        have HM := markText_any (k + 1) wr (by omega) (by omega)
        rw [show ((k + 1 : Nat) : Int) = 1 + (k : Int) from by omega] at HM
        have HM2 := Lib.hid HM; clear HM
        go_wp2_with fail
        refine HM2.out.mono ?_; rintro e w2 ⟨rfl, b2⟩
        have H2 := Lib.hid (HJ.out.keep b2); clear b2
        obtain ⟨v, hv⟩ := Option.isSome_iff_exists.1 (H2.out.2.2.1 k hlt2).1
        have hf := (H2.out.2.2.1 k hlt2).2
        have H3 := Lib.hid (H2.out.put hlt2)
        generalize mT (1 + (k : Int)) = s at *
        go_wp2_with fail
        go_roundw
        case rel => exact ⟨k + 1, by go_num, by omega, by go_num, H3⟩
        case measure => simp [intOf]; omega
      · obtain rfl : k = n := by omega
        go_wp2
        go_ret
        refine ⟨rfl, .inr ⟨b, off, rfl, HJ.out.2.1, fun j hj => ?_⟩, HJ.out.1⟩
        rw [strs_len, mtx_len] at hj
        rw [HJ.out.2.2.2 j hj, strs_get _ _ (by rw [mtx_len]; exact hj)]
        simp [mtx, hj]

end Go.Proofs.YtaplkciomagmiabDoor
