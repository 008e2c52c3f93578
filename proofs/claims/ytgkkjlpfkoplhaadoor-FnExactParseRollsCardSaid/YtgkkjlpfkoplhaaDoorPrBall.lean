/-
  Pins: the program's next ball of a text.
-/
import Derived.Test.YtgkkjlpfkoplhaaDoorPnTr
import Derived.Test.YtgkkjlpfkoplhaaDoorPnLawT
import Derived.Test.YtgkkjlpfkoplhaaDoorPrMath
import Derived.Deep.DeepAppendWide
import Derived.ArgAppend
import Derived.Deep.CutRange
namespace Go.Proofs.YtgkkjlpfkoplhaaDoor
open Go.RowKit
set_option linter.unusedVariables false
set_option linter.unusedSimpArgs false

theorem owns_base {w : World} {B B' T n size : Nat} {v : Value} {xs : List Value} (h : w.ownsRow B' T size v n xs) (hb : B ≤ B') : w.ownsRow B T size v n xs := by
  obtain ⟨h1, h2 | ⟨g, cap, cur, e, hg, r⟩⟩ := h
  · exact ⟨h1, .inl h2⟩
  · exact ⟨h1, .inr ⟨g, cap, cur, e, Nat.le_trans hb hg, r⟩⟩
theorem infoI : ∃ i, Tryd.prog.info? 3 = some i := by
  have h : (Tryd.prog.info? 3).isSome = true := by kernel_rfl
  exact Option.isSome_iff_exists.1 h
theorem cellsI : Tryd.prog.cellsOf 3 = 1 := by kernel_rfl
theorem elemI : Tryd.prog.elem 22 = 3 := by kernel_rfl
theorem underI : Tryd.prog.underlying 22 = some (.slice (Tryd.prog.elem 22)) := by rw [elemI]; exact Tryd.underlying22
theorem sliced_all (a : Option Addr) (n : Nat) (ha : ∀ x, a = some x → x.spot = none) : sliced a 0 n n 1 = .slice a n n := by
  unfold sliced
  rw [Nat.zero_mul]
  have e : a.map (fun x => x.add 0) = a := by
    cases a with
    | none => rfl
    | some x =>
      have := ha x rfl
      obtain ⟨b, off, sp⟩ := x
      simp at this
      subst this
      simp [Addr.add]
  split
  · simp
  · rw [e]; simp
/-- 'x[:n:n]'. -/
theorem slice_whole (a : Option Addr) (n c : Nat) (h2 : n ≤ c) (ha : ∀ x, a = some x → x.spot = none) (w : World) :
    (Instr.slice 22 (.slice a n c) none (some (.int .i64 (n : Int))) (some (.int .i64 (n : Int)))).run Tryd.prog w = .ok (.slice a n n) w := by
  obtain ⟨i, hi⟩ := infoI
  rw [run_slice_hm (P := Tryd.prog) (w := w) 22 a n c underI .i64 .i64 (n : Int) (n : Int) (by omega) (by omega) (by omega)]
  rw [elemI, run_sizeOf (P := Tryd.prog) (w := w) hi, cellsI, Result.andThen_ok, Int.toNat_natCast, sliced_all a n ha]
theorem own_cap {w : World} {B T n size : Nat} {v : Value} {xs : List Value} (h : w.ownsRow B T size v n xs) : ∃ a c, v = .slice a n c ∧ n ≤ c ∧ Reads w a xs ∧ (∀ x, a = some x → x.spot = none) := by
  obtain ⟨a, c, rfl, hr, -⟩ := Reads.own h
  obtain ⟨hl, ⟨hv, h2⟩ | ⟨g', cap, cur, hv, hb, hh, hn, r⟩⟩ := h
  · injection hv with h3 h4 h5
    subst h3 h5
    exact ⟨none, 0, rfl, by omega, hr, fun x e => by cases e⟩
  · injection hv with h3 h4 h5
    subst h3 h5
    exact ⟨_, _, rfl, hn, hr, fun x e => by cases e; rfl⟩

set_option maxHeartbeats 1600000 in
theorem withBall_any (l : List Int) (p : Int) (a : Option Addr) (c : Nat) (hl : l.length ≤ 1048576) (hc : l.length ≤ c) (hn : a = none → l = []) (ha : ∀ x, a = some x → x.spot = none) (w : World) (h : Reads w a (ints l)) :
    Calls Tryd.prog 21 #[.slice a l.length c, .int .i64 p] w fun e w' => ∃ v, e = .returned v ∧ w'.ownsRow w.heap.size 3 1 v (l ++ [p]).length (ints (l ++ [p])) ∧ Below w.heap.size w w' := by
  obtain ⟨i0, hi0, hz0, hz1, hz2⟩ := info_parts infoInt
  have hsl := fun w => slice_whole a l.length c hc ha w
  have bd := below_new w (.cells #[.int .i64 p] 3)
  have holds : ∀ b, a = some b → ∀ j u, (ints l)[j]? = some u → (w.alloc (.cells #[.int .i64 p] 3)).cell? (b.add j) = some u := by
    intro b e j u hj
    subst e
    have hjl : j < l.length := by have := (List.getElem?_eq_some_iff.1 hj).1; rwa [ints_len] at this
    obtain ⟨b2, off, e2, hlt, hcs⟩ := cells_of_reads h (by omega)
    have e3 : b = ⟨b2, off, none⟩ := Option.some.inj e2
    subst e3
    rw [add_pl, bd.cell (p := ⟨b2, off + j, none⟩) hlt, hcs j hjl, ← hj, ints_get l j hjl]
  have HH := Lib.hid (And.intro holds bd); clear holds bd h
  have HN := Lib.hid hn; clear hn
  go_enter Tryd.func21, Tryd.ntmps21
  go_wp2_with (at_builtin; refine wpList_append_grows _ rfl _ _ 22 rfl 3 i0 (.int .i64 0) 1 8 Tryd.underlying22 hi0 hz0 hz1 hz2 rfl (by decide) a l.length l.length (ints l) rfl ?_ ?_ HH.out.1 ⟨w.heap.size, 0, none⟩ 1 1 [.int .i64 p] rfl rfl (cell_one_new _ _ _) ?_ ?_ ?_ ?_ ?_)
  · intro e; rw [HN.out e]; exact ⟨rfl, rfl⟩
  · rw [ints_len]; omega
  · first | (intro u hu; simp at hu; subst hu; rfl) | rfl | simp
  · omega
  · unfold maxLen; omega
  · omega
  intro v' w3 hown hgrow
  have hb3 := HH.out.2.grown hgrow (by simp) (fun g e => by cases e)
  have hown2 : w3.ownsRow w.heap.size 3 1 v' (l ++ [p]).length (ints (l ++ [p])) := by
    have h5 := owns_base (B := w.heap.size) hown (by simp)
    have e1 : (l ++ [p]).length = l.length + 1 := by simp
    have e2 : ints (l ++ [p]) = ints l ++ [.int .i64 p] := by simp [ints]
    rw [e1, e2]
    exact h5
  have H3 := Lib.hid (And.intro hown2 hb3); clear hown hgrow hb3 hown2
  go_wp2_with fail
  go_ret
  exact ⟨_, rfl, H3.out.1, H3.out.2⟩


/-- With so many pins the text is the one that is wanted. -/
def okBt (f : Int) (rolls : List Int) (s : ByteArray) (k : Nat) : Bool := (goodR f (rolls ++ [(k : Int)])).isSome && ((⟨(txtV (goodR f (rolls ++ [(k : Int)]))).toArray⟩ : ByteArray).toList == s.toList)
def bwO (f : Int) (rolls : List Int) (s : ByteArray) : Option Nat := (List.range 11).find? (okBt f rolls s)
def bwV : Option Nat → Value
  | none => .tuple #[.int .i64 0, .bool false]
  | some k => .tuple #[.int .i64 (k : Int), .bool true]
theorem bw_hit {f : Int} {rolls : List Int} {s : ByteArray} {k : Nat} (hk : k < 11) (h1 : ∀ j, j < k → okBt f rolls s j = false) (h2 : okBt f rolls s k = true) : bwO f rolls s = some k := by
  unfold bwO
  rw [List.find?_eq_some_iff_append]
  refine ⟨h2, List.range k, (List.range (11 - k - 1)).map (fun i => k + 1 + i), ?_, fun a ha => by rw [h1 a (List.mem_range.1 ha)]; rfl⟩
  have e : 11 = k + (1 + (11 - k - 1)) := by omega
  conv => lhs; rw [e]
  rw [List.range_add, Nat.add_comm 1, List.range_succ_eq_map]
  simp [Function.comp_def, Nat.add_comm, Nat.add_left_comm]
theorem bw_no {f : Int} {rolls : List Int} {s : ByteArray} (h1 : ∀ j, j < 11 → okBt f rolls s j = false) : bwO f rolls s = none := by
  unfold bwO
  rw [List.find?_eq_none]
  intro x hx
  rw [h1 x (List.mem_range.1 hx)]; simp

set_option maxHeartbeats 3200000 in
theorem ballWithText_any (f : Int) (rolls : List Int) (s : ByteArray) (a : Option Addr) (c : Nat) (hl : rolls.length ≤ 1000000) (hc : rolls.length ≤ c) (hn : a = none → rolls = []) (ha : ∀ x, a = some x → x.spot = none) (w : World) (h : Reads w a (ints rolls)) :
    Calls Tryd.prog 20 #[.int .i64 f, .slice a rolls.length c, .string s] w fun e w' => e = .returned (bwV (bwO f rolls s)) ∧ Below w.heap.size w w' := by
  have HR := Lib.hid h
  have HWB := Lib.hid (fun (k : Nat) W hr => withBall_any rolls (k : Int) a c (by omega) hc hn ha W hr)
  have htx := fun (k : Nat) a' c' W hr => implRollsText_any f (rolls ++ [(k : Int)]) a' c' W (by simp; omega) hr
  simp only [List.length_append, List.length_singleton] at htx
  have HTX := Lib.hid htx; clear htx
  clear h hn ha
  have H0 : Hid ((∀ j, j < 0 → okBt f rolls s j = false) ∧ Below w.heap.size w w) := Lib.hid ⟨fun j hj => by omega, Below.refl _ _⟩
  go_enter Tryd.func20, Tryd.ntmps20
  go_wp2_with fail
  go_loopw [11] (fun i wr => ∃ k : Nat, i = .int .i64 k ∧ k ≤ 11 ∧ Hid ((∀ j, j < k → okBt f rolls s j = false) ∧ Below w.heap.size w wr)) (fun i _ => 11 - (intOf i).toNat)
  case atStart => exact ⟨0, rfl, Nat.zero_le _, H0⟩
  case round =>
    clear H0
    obtain ⟨k, rfl, hk, hH⟩ := hrel
    by_cases hlt : k < 11
    · have b1 : (k : Int) < 11 := by omega
      have hhit := bw_hit (f := f) (rolls := rolls) (s := s) hlt hH.out.1
      have hmiss : okBt f rolls s k = false → ∀ j, j < k + 1 → okBt f rolls s j = false := fun h j hj => by
        by_cases e : j = k
        · subst e; exact h
        · exact hH.out.1 j (by omega)
      have HQ := Lib.hid (And.intro hhit hmiss); clear hhit hmiss
      go_wp2_with fail
      refine (HWB.out k _ (HR.out.old hH.out.2)).mono ?_; rintro e w1 ⟨v1, rfl, o1, b2⟩
      rw [show (rolls ++ [(k : Int)]).length = rolls.length + 1 by simp] at o1
      obtain ⟨a1, c1, rfl, hr1, -⟩ := Reads.own o1
      have H1 := Lib.hid (And.intro hr1 (hH.out.2.trans (b2.mono hH.out.2.size))); clear hr1 o1 b2 hH
      go_wp2_with fail
      refine (HTX.out k a1 c1 _ H1.out.1).mono ?_; rintro e w2 ⟨rfl, b3⟩
      have H2 := Lib.hid (H1.out.2.trans (b3.mono H1.out.2.size)); clear b3 H1
      have hdef : okBt f rolls s k = ((goodR f (rolls ++ [(k : Int)])).isSome && ((⟨(txtV (goodR f (rolls ++ [(k : Int)]))).toArray⟩ : ByteArray).toList == s.toList)) := rfl
      have HDF := Lib.hid hdef; clear hdef
      generalize (goodR f (rolls ++ [(k : Int)])).isSome = o at *
      generalize (⟨(txtV (goodR f (rolls ++ [(k : Int)]))).toArray⟩ : ByteArray) = tx at *
      cases o with
      | false =>
        have H3 := Lib.hid (And.intro (HQ.out.2 (by rw [HDF.out, Bool.false_and])) H2.out); clear HQ HDF H2
        go_wp2_with fail
        go_roundw
        case rel => exact ⟨k + 1, by go_num, by omega, H3⟩
        case measure => simp [intOf]; omega
      | true =>
        cases he : (tx.toList == s.toList)
        · have H3 := Lib.hid (And.intro (HQ.out.2 (by rw [HDF.out, he, Bool.and_false])) H2.out); clear HQ HDF H2
          go_wp2_with fail
          go_roundw
          case rel => exact ⟨k + 1, by go_num, by omega, H3⟩
          case measure => simp [intOf]; omega
        · have hf := HQ.out.1 (by rw [HDF.out, he, Bool.and_self])
          have HF := Lib.hid hf; clear hf HQ HDF
          go_wp2_with fail
          refine bodyPost_ret (v := .tuple #[.int .i64 (k : Int), .bool true]) (by simp [results, Tryd.results20, go_sem]) rfl ⟨by rw [HF.out]; rfl, H2.out⟩
    · obtain rfl : k = 11 := by omega
      have HF := Lib.hid (bw_no hH.out.1)
      go_wp2_with fail
      refine bodyPost_ret (v := .tuple #[.int .i64 0, .bool false]) (by simp [results, Tryd.results20, go_sem]) rfl ⟨by rw [HF.out]; rfl, hH.out.2⟩
end Go.Proofs.YtgkkjlpfkoplhaaDoor
