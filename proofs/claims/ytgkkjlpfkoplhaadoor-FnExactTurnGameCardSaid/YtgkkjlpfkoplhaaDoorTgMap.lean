/-
  Goals: a game with both sides exchanged: the letters, and the library's Map over them.
-/
import Derived.Test.YtgkkjlpfkoplhaaDoorGoGame
import Derived.Test.YtgkkjlpfkoplhaaDoorShelf2
import Derived.Lib.MapLaws
import Derived.Shelf.Strings.MapAny
namespace Go.Proofs.YtgkkjlpfkoplhaaDoor
open Go.RowKit
set_option linter.unusedVariables false
set_option linter.unusedSimpArgs false

def okC (c : UInt8) : Bool := (decide (97 ≤ c.toNat) && decide (c.toNat ≤ 101)) || (decide (65 ≤ c.toNat) && decide (c.toNat ≤ 69))
def swC (c : UInt8) : UInt8 := if 97 ≤ c.toNat then c - 32 else c + 32
def swL (l : List UInt8) : List UInt8 := l.map swC
theorem all_bytes {p : UInt8 → Bool} (h : ∀ n : Fin 256, p (UInt8.ofNat n.val) = true) (c : UInt8) : p c = true := by
  have := h ⟨c.toNat, c.toNat_lt⟩
  simpa using this
theorem sw_bd (c : UInt8) (h : okC c = true) : (swC c).toNat < 128 ∧ c.toNat < 128 ∧ (swC c).toNat ≠ c.toNat := by
  have := all_bytes (p := fun c => !okC c || (decide ((swC c).toNat < 128) && decide (c.toNat < 128) && decide ((swC c).toNat ≠ c.toNat))) (by decide +kernel) c
  rw [h] at this
  simp at this
  exact ⟨this.1.1, this.1.2, this.2⟩
theorem ok_ten (c : UInt8) (h : okC c = true) : c = 97 ∨ c = 98 ∨ c = 99 ∨ c = 100 ∨ c = 101 ∨ c = 65 ∨ c = 66 ∨ c = 67 ∨ c = 68 ∨ c = 69 := by
  have := all_bytes (p := fun c => !okC c || decide (c = 97 ∨ c = 98 ∨ c = 99 ∨ c = 100 ∨ c = 101 ∨ c = 65 ∨ c = 66 ∨ c = 67 ∨ c = 68 ∨ c = 69)) (by decide +kernel) c
  rw [h] at this
  simpa using this
theorem turn_97 (w : World) : Calls Tryd.prog 26 #[.int .i32 97] w fun e w' => e = .returned (.int .i32 65) ∧ w = w' := by
  go_enter Tryd.func26, Tryd.ntmps26
  go_wp2_with fail
  refine (Tryd.strings_IndexRune_ascii ⟨#[97, 98, 99, 100, 101]⟩ 97 _ (by omega) (by omega)).mono ?_; rintro e w1 ⟨rfl, rfl⟩
  rw [show Lib.indexByte (⟨#[97, 98, 99, 100, 101]⟩ : ByteArray).data.toList (97 : Int).toNat.toUInt8 = 0 from by decide +kernel]
  go_wp2_with fail
  go_ret
  exact ⟨by kernel_rfl, rfl⟩
theorem turn_98 (w : World) : Calls Tryd.prog 26 #[.int .i32 98] w fun e w' => e = .returned (.int .i32 66) ∧ w = w' := by
  go_enter Tryd.func26, Tryd.ntmps26
  go_wp2_with fail
  refine (Tryd.strings_IndexRune_ascii ⟨#[97, 98, 99, 100, 101]⟩ 98 _ (by omega) (by omega)).mono ?_; rintro e w1 ⟨rfl, rfl⟩
  rw [show Lib.indexByte (⟨#[97, 98, 99, 100, 101]⟩ : ByteArray).data.toList (98 : Int).toNat.toUInt8 = 1 from by decide +kernel]
  go_wp2_with fail
  go_ret
  exact ⟨by kernel_rfl, rfl⟩
theorem turn_99 (w : World) : Calls Tryd.prog 26 #[.int .i32 99] w fun e w' => e = .returned (.int .i32 67) ∧ w = w' := by
  go_enter Tryd.func26, Tryd.ntmps26
  go_wp2_with fail
  refine (Tryd.strings_IndexRune_ascii ⟨#[97, 98, 99, 100, 101]⟩ 99 _ (by omega) (by omega)).mono ?_; rintro e w1 ⟨rfl, rfl⟩
  rw [show Lib.indexByte (⟨#[97, 98, 99, 100, 101]⟩ : ByteArray).data.toList (99 : Int).toNat.toUInt8 = 2 from by decide +kernel]
  go_wp2_with fail
  go_ret
  exact ⟨by kernel_rfl, rfl⟩
theorem turn_100 (w : World) : Calls Tryd.prog 26 #[.int .i32 100] w fun e w' => e = .returned (.int .i32 68) ∧ w = w' := by
  go_enter Tryd.func26, Tryd.ntmps26
  go_wp2_with fail
  refine (Tryd.strings_IndexRune_ascii ⟨#[97, 98, 99, 100, 101]⟩ 100 _ (by omega) (by omega)).mono ?_; rintro e w1 ⟨rfl, rfl⟩
  rw [show Lib.indexByte (⟨#[97, 98, 99, 100, 101]⟩ : ByteArray).data.toList (100 : Int).toNat.toUInt8 = 3 from by decide +kernel]
  go_wp2_with fail
  go_ret
  exact ⟨by kernel_rfl, rfl⟩
theorem turn_101 (w : World) : Calls Tryd.prog 26 #[.int .i32 101] w fun e w' => e = .returned (.int .i32 69) ∧ w = w' := by
  go_enter Tryd.func26, Tryd.ntmps26
  go_wp2_with fail
  refine (Tryd.strings_IndexRune_ascii ⟨#[97, 98, 99, 100, 101]⟩ 101 _ (by omega) (by omega)).mono ?_; rintro e w1 ⟨rfl, rfl⟩
  rw [show Lib.indexByte (⟨#[97, 98, 99, 100, 101]⟩ : ByteArray).data.toList (101 : Int).toNat.toUInt8 = 4 from by decide +kernel]
  go_wp2_with fail
  go_ret
  exact ⟨by kernel_rfl, rfl⟩
theorem turn_65 (w : World) : Calls Tryd.prog 26 #[.int .i32 65] w fun e w' => e = .returned (.int .i32 97) ∧ w = w' := by
  go_enter Tryd.func26, Tryd.ntmps26
  go_wp2_with fail
  refine (Tryd.strings_IndexRune_ascii ⟨#[97, 98, 99, 100, 101]⟩ 65 _ (by omega) (by omega)).mono ?_; rintro e w1 ⟨rfl, rfl⟩
  rw [show Lib.indexByte (⟨#[97, 98, 99, 100, 101]⟩ : ByteArray).data.toList (65 : Int).toNat.toUInt8 = -1 from by decide +kernel]
  go_wp2_with fail
  refine (Tryd.strings_IndexRune_ascii ⟨#[65, 66, 67, 68, 69]⟩ 65 _ (by omega) (by omega)).mono ?_; rintro e w1 ⟨rfl, rfl⟩
  rw [show Lib.indexByte (⟨#[65, 66, 67, 68, 69]⟩ : ByteArray).data.toList (65 : Int).toNat.toUInt8 = 0 from by decide +kernel]
  go_wp2_with fail
  go_ret
  exact ⟨by kernel_rfl, rfl⟩
theorem turn_66 (w : World) : Calls Tryd.prog 26 #[.int .i32 66] w fun e w' => e = .returned (.int .i32 98) ∧ w = w' := by
  go_enter Tryd.func26, Tryd.ntmps26
  go_wp2_with fail
  refine (Tryd.strings_IndexRune_ascii ⟨#[97, 98, 99, 100, 101]⟩ 66 _ (by omega) (by omega)).mono ?_; rintro e w1 ⟨rfl, rfl⟩
  rw [show Lib.indexByte (⟨#[97, 98, 99, 100, 101]⟩ : ByteArray).data.toList (66 : Int).toNat.toUInt8 = -1 from by decide +kernel]
  go_wp2_with fail
  refine (Tryd.strings_IndexRune_ascii ⟨#[65, 66, 67, 68, 69]⟩ 66 _ (by omega) (by omega)).mono ?_; rintro e w1 ⟨rfl, rfl⟩
  rw [show Lib.indexByte (⟨#[65, 66, 67, 68, 69]⟩ : ByteArray).data.toList (66 : Int).toNat.toUInt8 = 1 from by decide +kernel]
  go_wp2_with fail
  go_ret
  exact ⟨by kernel_rfl, rfl⟩
theorem turn_67 (w : World) : Calls Tryd.prog 26 #[.int .i32 67] w fun e w' => e = .returned (.int .i32 99) ∧ w = w' := by
  go_enter Tryd.func26, Tryd.ntmps26
  go_wp2_with fail
  refine (Tryd.strings_IndexRune_ascii ⟨#[97, 98, 99, 100, 101]⟩ 67 _ (by omega) (by omega)).mono ?_; rintro e w1 ⟨rfl, rfl⟩
  rw [show Lib.indexByte (⟨#[97, 98, 99, 100, 101]⟩ : ByteArray).data.toList (67 : Int).toNat.toUInt8 = -1 from by decide +kernel]
  go_wp2_with fail
  refine (Tryd.strings_IndexRune_ascii ⟨#[65, 66, 67, 68, 69]⟩ 67 _ (by omega) (by omega)).mono ?_; rintro e w1 ⟨rfl, rfl⟩
  rw [show Lib.indexByte (⟨#[65, 66, 67, 68, 69]⟩ : ByteArray).data.toList (67 : Int).toNat.toUInt8 = 2 from by decide +kernel]
  go_wp2_with fail
  go_ret
  exact ⟨by kernel_rfl, rfl⟩
theorem turn_68 (w : World) : Calls Tryd.prog 26 #[.int .i32 68] w fun e w' => e = .returned (.int .i32 100) ∧ w = w' := by
  go_enter Tryd.func26, Tryd.ntmps26
  go_wp2_with fail
  refine (Tryd.strings_IndexRune_ascii ⟨#[97, 98, 99, 100, 101]⟩ 68 _ (by omega) (by omega)).mono ?_; rintro e w1 ⟨rfl, rfl⟩
  rw [show Lib.indexByte (⟨#[97, 98, 99, 100, 101]⟩ : ByteArray).data.toList (68 : Int).toNat.toUInt8 = -1 from by decide +kernel]
  go_wp2_with fail
  refine (Tryd.strings_IndexRune_ascii ⟨#[65, 66, 67, 68, 69]⟩ 68 _ (by omega) (by omega)).mono ?_; rintro e w1 ⟨rfl, rfl⟩
  rw [show Lib.indexByte (⟨#[65, 66, 67, 68, 69]⟩ : ByteArray).data.toList (68 : Int).toNat.toUInt8 = 3 from by decide +kernel]
  go_wp2_with fail
  go_ret
  exact ⟨by kernel_rfl, rfl⟩
theorem turn_69 (w : World) : Calls Tryd.prog 26 #[.int .i32 69] w fun e w' => e = .returned (.int .i32 101) ∧ w = w' := by
  go_enter Tryd.func26, Tryd.ntmps26
  go_wp2_with fail
  refine (Tryd.strings_IndexRune_ascii ⟨#[97, 98, 99, 100, 101]⟩ 69 _ (by omega) (by omega)).mono ?_; rintro e w1 ⟨rfl, rfl⟩
  rw [show Lib.indexByte (⟨#[97, 98, 99, 100, 101]⟩ : ByteArray).data.toList (69 : Int).toNat.toUInt8 = -1 from by decide +kernel]
  go_wp2_with fail
  refine (Tryd.strings_IndexRune_ascii ⟨#[65, 66, 67, 68, 69]⟩ 69 _ (by omega) (by omega)).mono ?_; rintro e w1 ⟨rfl, rfl⟩
  rw [show Lib.indexByte (⟨#[65, 66, 67, 68, 69]⟩ : ByteArray).data.toList (69 : Int).toNat.toUInt8 = 4 from by decide +kernel]
  go_wp2_with fail
  go_ret
  exact ⟨by kernel_rfl, rfl⟩
theorem turnLetter_any (c : UInt8) (h : okC c = true) (w : World) : Calls Tryd.prog 26 #[.int .i32 (c.toNat : Int)] w fun e w' => e = .returned (.int .i32 ((swC c).toNat : Int)) ∧ w = w' := by
  rcases ok_ten c h with rfl | rfl | rfl | rfl | rfl | rfl | rfl | rfl | rfl | rfl
  · exact turn_97 w
  · exact turn_98 w
  · exact turn_99 w
  · exact turn_100 w
  · exact turn_101 w
  · exact turn_65 w
  · exact turn_66 w
  · exact turn_67 w
  · exact turn_68 w
  · exact turn_69 w

theorem runeLen_1 (n : Nat) (h : n < 128) : Lib.runeLen (n : Int) = 1 := by
  unfold Lib.runeLen
  rw [if_neg (by omega), if_pos (by omega)]
theorem runeCells_1 (n : Nat) (h : n < 128) : Lib.runeCells (n : Int) = [.int .u8 (n : Int)] := by
  unfold Lib.runeCells
  rw [Lib.encodeRuneZ_one (by omega) (by omega)]; rfl
theorem swL_snoc (l : List UInt8) (c : UInt8) : Lib.byteCells (swL (l ++ [c])) = Lib.byteCells (swL l) ++ [.int .u8 ((swC c).toNat : Int)] := by
  simp [swL, Lib.byteCells]
theorem slice_0 (s : ByteArray) (w : World) : (Instr.slice 9 (.string s) none (some (.int .i64 0)) none).run Tryd.prog w = .ok (.string (s.extract 0 0)) w := by
  have := run_slice_string_h (P := Tryd.prog) w 9 s Tryd.underlying9 .i64 0 (by omega) (by omega)
  rw [this]; rfl
theorem slice_1 (s : ByteArray) (h : 1 ≤ s.size) (w : World) : (Instr.slice 9 (.string s) (some (.int .i64 1)) none none).run Tryd.prog w = .ok (.string (s.extract 1 s.size)) w := by
  have := run_slice_string_l (P := Tryd.prog) w 9 s Tryd.underlying9 .i64 1 (by omega) (by omega)
  rw [this]; rfl
theorem take_nx (s : ByteArray) (k : Nat) (h : k < s.size) : s.data.toList.take (k + 1) = s.data.toList.take k ++ [s[k]] := by
  have hk : k < s.data.toList.length := by simpa using h
  rw [List.take_succ_eq_append_getElem hk]; rfl

set_option maxHeartbeats 6400000 in
set_option maxRecDepth 100000 in
theorem map_letters (s : ByteArray) (hs : s.size ≤ 60) (hall : ∀ k (h : k < s.size), okC s[k] = true) (w : World) :
    Calls Tryd.prog 25 #[.func (.func 26) #[] #[], .string s] w fun e w' => e = .returned (.string ⟨(swL s.data.toList).toArray⟩) ∧ Below w.heap.size w w' := by
  have HTL := Lib.hid (fun c h W => turnLetter_any c h W)
  have HAL := Lib.hid hall; clear hall
  go_enter Tryd.func25, Tryd.ntmps25
  go_wp2_with fail
  refine wp_loop_rounds 1 ?_
  rw [rounds_succ]
  have hfr : ((w.alloc (.cells #[.pointer none, .slice none 0 0] 68)).iter s 0).heap[w.heap.size]? = some (.cells #[.pointer none, .slice none 0 0] 68 (0, 0)) := by
    have h1 := heap_alloc_new w (.cells #[.pointer none, .slice none 0 0] 68)
    exact (Below.heap_alloc _ _ _ (by simp)).trans h1
  have hit : ((w.alloc (.cells #[.pointer none, .slice none 0 0] 68)).iter s 0).heap[w.heap.size + 1]? = some (.stringIter s 0) := by
    have := World.iter_heap (w.alloc (.cells #[.pointer none, .slice none 0 0] 68)) s 0
    simpa using this
  have hbw : Below w.heap.size w ((w.alloc (.cells #[.pointer none, .slice none 0 0] 68)).iter s 0) := ((Below.refl _ w).alloc (Nat.le_refl _) _).alloc (by simp) _
  generalize (w.alloc (.cells #[.pointer none, .slice none 0 0] 68)).iter s 0 = W1 at *
  by_cases h0 : 0 < s.size
  · have hok := HAL.out 0 h0
    obtain ⟨q1, q2, q3⟩ := sw_bd _ hok
    have hnx := fun ty => Lib.run_next_ascii_at (P := Tryd.prog) W1 (w.heap.size + 1) s 0 ty hit h0 q2
    have hit2 := Lib.iterAt_heap W1 (w.heap.size + 1) s 0 1 hit
    have hfr2 : (W1.iterAt (w.heap.size + 1) s 1).heap[w.heap.size]? = _ := (Lib.iterAt_other W1 (w.heap.size + 1) w.heap.size s 1 (by omega)).trans hfr
    have hbw2 := Lib.below_iterAt hbw (k := w.heap.size + 1) (by omega) s 1
    have hTL := fun W => HTL.out _ hok W
    have hacc : swL (s.data.toList.take 1) = [swC s[0]] := by rw [take_nx s 0 h0]; rfl
    have hM : Lib.byteCells (swL (s.data.toList.take 1)) = [.int .u8 ((swC s[0]).toNat : Int)] := by rw [hacc]; rfl
    generalize (swC s[0]).toNat = M at *
    generalize W1.iterAt (w.heap.size + 1) s 1 = W2 at *
    have e1 : ((M : Int) == (s[0].toNat : Int)) = false := by simp; omega
    have e2 : ((s[0].toNat : Int) == 65533) = false := by simp; omega
    have e3 : (0 : Int) ≤ (M : Int) := by omega
    have hs0 := slice_0 s
    have hs1 := slice_1 s (by omega)
    have hx0 : (s.extract 0 0).size = 0 := by simp [ByteArray.size_extract]
    have hc0 : Lib.strCells (s.extract 0 0) = [] := by rw [Lib.strCells_eq, Lib.extract_data]; simp [Lib.byteCells]
    have hx1 : (s.extract 1 s.size).size = s.size - 1 := by simp [ByteArray.size_extract]
    have hg1 : ∀ k (h : k < (s.extract 1 s.size).size) (h2 : k + 1 < s.size), (s.extract 1 s.size)[k] = s[k + 1] := fun k h h2 => by
      rw [ByteArray.getElem_extract]; congr 1; omega
    have HX := Lib.hid (And.intro hfr2 (And.intro hbw2 (And.intro hM (And.intro hx1 (And.intro hg1 (And.intro hTL hc0))))))
    clear hfr2 hbw2 hM hx1 hg1 hTL hacc hit hbw hok hfr
    generalize s.extract 0 0 = x0 at *
    generalize s.extract 1 s.size = s2 at *
    have HRL := Lib.hid (fun W => Tryd.utf8_RuneLen (s[0].toNat : Int) W)
    rw [runeLen_1 _ q2] at HRL
    have HGR := Lib.hid (fun W h1 h2 => Tryd.Builder_Grow_fresh w.heap.size w.heap.size (s.size + 4) W (Nat.le_refl _) h1 h2 (by omega))
    rw [Int.natCast_add] at HGR
    go_wp2_with fail
    refine (HX.out.2.2.2.2.2.1 _).mono ?_; rintro e w1 ⟨rfl, rfl⟩
    go_wp2_with fail
    refine (HRL.out _).mono ?_; rintro e w1 ⟨rfl, rfl⟩
    go_wp2_with fail
    refine (HGR.out _ HX.out.1 HX.out.2.1.size).mono ?_; rintro e w4 ⟨rfl, h4, b4⟩
    go_wp2_with fail
    refine (Any.Builder_WriteString_k { Tryd.lays230 with } Tryd.Builder_Extra_230 w.heap.size w.heap.size [] x0 w4 (Lib.IsBuilderF.of (Or.inr h4)) (by rw [hx0]; simp) (Nat.le_trans HX.out.2.1.size b4.size)).mono ?_
    rintro e w5 ⟨rfl, h5, b5, -⟩
    rw [HX.out.2.2.2.2.2.2, List.append_nil] at h5
    go_wp2_with fail
    refine (Any.Builder_WriteRune_k { Tryd.lays230 with } Tryd.Builder_Extra_230 w.heap.size w.heap.size [] (M : Int) (by omega) (by omega) w5 (Or.inr h5) (by simp) (Nat.le_trans HX.out.2.1.size (Nat.le_trans b4.size b5.size))).mono ?_
    rintro e w6 ⟨rfl, h6, b6, -⟩
    rw [runeCells_1 _ q1, List.nil_append] at h6
    have hb6 : Below w.heap.size w w6 := ((HX.out.2.1.trans b4).trans b5).trans b6
    obtain ⟨g6, cap6, hc6, hcap6⟩ : ∃ g6 cap6, w6.cell? ⟨w.heap.size, 1, none⟩ = some (.slice (some ⟨g6, 0, none⟩) 1 cap6) ∧ 1 ≤ cap6 := by
      obtain ⟨_, v6, hv6, hown6, _⟩ := h6
      rcases hown6.2 with ⟨_, h0⟩ | ⟨g6, cap6, _, _, rfl, _, _, _, hnc, _⟩
      · simp at h0
      · exact ⟨g6, cap6, by rw [Lib.cell_of_heap hv6]; rfl, by simpa using hnc⟩
    have H6 := Lib.hid (And.intro h6 (And.intro hb6 hc6)); clear h6 hb6 hc6 b6 b5 b4 h5 h4
    have hcapb : ((cap6 : Int) == 0) = false := by simp; omega
    have HCP := Lib.hid (fun W h => Tryd.Builder_Cap_cell w.heap.size (some ⟨g6, 0, none⟩) 1 cap6 W h)
    go_wp2_with fail
    refine (HCP.out _ H6.out.2.2).mono ?_; rintro e w7 ⟨rfl, rfl⟩
    go_wp2_with fail
    have HL0 : Hid (Lib.IsBuilderF 68 5 w.heap.size w.heap.size (Lib.byteCells (swL (s.data.toList.take 1))) (w7.iter s2 0) ∧ (w7.iter s2 0).heap[w7.heap.size]? = some (.stringIter s2 0) ∧ Below w.heap.size w (w7.iter s2 0) ∧ w.heap.size < w7.heap.size) := Lib.hid ⟨by rw [HX.out.2.2.1]; exact Lib.IsBuilderF.alloc (Or.inr H6.out.1) _, World.iter_heap w7 s2 0, H6.out.2.1.alloc H6.out.2.1.size _, H6.out.1.lt⟩
    generalize w7.iter s2 0 = W8 at *
    generalize w7.heap.size = K at *
    go_loopw [11] (fun _ wr => ∃ p2 : Nat, p2 ≤ s2.size ∧ Hid (Lib.IsBuilderF 68 5 w.heap.size w.heap.size (Lib.byteCells (swL (s.data.toList.take (p2 + 1)))) wr ∧ wr.heap[K]? = some (.stringIter s2 p2) ∧ Below w.heap.size w wr ∧ w.heap.size < K)) (fun _ wr => s2.size - wr.iterPos K)
    case atStart => exact ⟨0, Nat.zero_le _, HL0⟩
    case round =>
      clear HL0
      obtain ⟨p2, hp2, hH⟩ := hrel
      have HIP := Lib.hid (iterPos_of hH.out.2.1)
      by_cases hlt : p2 < s2.size
      · have hlt2 : p2 + 1 < s.size := by have := HX.out.2.2.2.1; omega
        have hok := HAL.out (p2 + 1) hlt2
        rw [← HX.out.2.2.2.2.1 p2 hlt hlt2] at hok
        obtain ⟨r1, r2, r3⟩ := sw_bd _ hok
        have hnx := fun ty => Lib.run_next_ascii_at (P := Tryd.prog) wr K s2 p2 ty hH.out.2.1 hlt r2
        have hI := hH.out.1.iterAt hH.out.2.1 (p2 + 1)
        have hit2 := Lib.iterAt_heap wr K s2 p2 (p2 + 1) hH.out.2.1
        have hbw2 := Lib.below_iterAt hH.out.2.2.1 (k := K) (by have := hH.out.2.2.2; omega) s2 (p2 + 1)
        have hTL := fun W => HTL.out _ hok W
        have hstep := swL_snoc (s.data.toList.take (p2 + 1)) s2[p2]
        rw [HX.out.2.2.2.2.1 p2 hlt hlt2, ← take_nx s (p2 + 1) hlt2, ← HX.out.2.2.2.2.1 p2 hlt hlt2] at hstep
        have hln : (Lib.byteCells (swL (s.data.toList.take (p2 + 1)))).length ≤ 60 := by rw [Lib.byteCells_length]; simp [swL]; omega
        have HY := Lib.hid (And.intro hI (And.intro hit2 (And.intro hbw2 (And.intro hTL (And.intro hstep hln))))); clear hI hit2 hbw2 hTL hstep hln hok
        generalize (swC s2[p2]).toNat = M2 at *
        generalize wr.iterAt K s2 (p2 + 1) = Wa at *
        have f1 : (0 : Int) ≤ (M2 : Int) := by omega
        have f2 : (M2 : Int) < 128 := by omega
        have f3 : IntKind.u8.wrap (M2 : Int) = (M2 : Int) := by
          have : ∀ r : Fin 128, IntKind.u8.wrap ((r.val : Nat) : Int) = ((r.val : Nat) : Int) := by decide +kernel
          exact this ⟨M2, r1⟩
        go_wp2_with fail
        refine (HY.out.2.2.2.1 _).mono ?_; rintro e w9 ⟨rfl, rfl⟩
        go_wp2_with fail
        refine (Any.Builder_WriteByte_k { Tryd.lays230 with } Tryd.Builder_Extra_230 w.heap.size w.heap.size _ (M2 : Int) Wa HY.out.1 (by have := HY.out.2.2.2.2.2; omega) HY.out.2.2.1.size).mono ?_
        rintro e w10 ⟨rfl, h10, b10, k10⟩
        have HZ : Hid (Lib.IsBuilderF 68 5 w.heap.size w.heap.size (Lib.byteCells (swL (s.data.toList.take (p2 + 1 + 1)))) w10 ∧ w10.heap[K]? = some (.stringIter s2 (p2 + 1)) ∧ Below w.heap.size w w10 ∧ w.heap.size < K) := Lib.hid ⟨by rw [HY.out.2.2.2.2.1]; exact Or.inr h10, k10.iter HY.out.2.1 (by have := hH.out.2.2.2; omega), HY.out.2.2.1.trans b10, hH.out.2.2.2⟩
        clear h10 b10 k10
        go_wp2_with fail
        go_roundw
        case rel => exact ⟨p2 + 1, by omega, HZ⟩
        case measure => rw [iterPos_of HZ.out.2.1, HIP.out]; omega
      · have hnx := fun ty => Lib.run_next_end_at (P := Tryd.prog) wr K s2 p2 ty hH.out.2.1 hlt
        have hall2 : s.data.toList.take (p2 + 1) = s.data.toList := List.take_of_length_le (by have := HX.out.2.2.2.1; have h3 := Lib.size_eq s; omega)
        have h9 := hH.out.1
        rw [hall2] at h9
        obtain ⟨T, hT⟩ : ∃ T, T = swL s.data.toList := ⟨_, rfl⟩
        rw [← hT] at h9
        have HT := Lib.hid hT; clear hT
        have H9 := Lib.hid (And.intro h9 hH.out.2.2.1); clear h9 hall2
        go_wp2_with fail
        refine (Any.Builder_String_any_f { Tryd.lays230 with } Tryd.Builder_Extra_230 w.heap.size w.heap.size T wr H9.out.1 H9.out.2.size).mono ?_
        rintro e w11 ⟨rfl, -, b11⟩
        have H11 := Lib.hid (H9.out.2.trans b11); clear b11
        go_wp2_with fail
        go_ret
        exact ⟨congrArg (fun l : List UInt8 => Ending.returned (Value.string ⟨l.toArray⟩)) HT.out, H11.out⟩
  · have hz : s.size = 0 := by omega
    have hnx := fun ty => Lib.run_next_end_at (P := Tryd.prog) W1 (w.heap.size + 1) s 0 ty hit h0
    have hcell : W1.cell? ⟨w.heap.size, 1, none⟩ = some (.slice none 0 0) := by rw [Lib.cell_of_heap hfr]; rfl
    have HCP := Lib.hid (Tryd.Builder_Cap_cell w.heap.size none 0 0 W1 hcell)
    have hv : s = ⟨(swL s.data.toList).toArray⟩ := by
      have : s.data.toList = [] := List.length_eq_zero_iff.1 (by rw [← Lib.size_eq]; exact hz)
      rw [this]
      obtain ⟨d⟩ := s
      simp at this
      simp [swL, this]
    have HV := Lib.hid (And.intro hv hbw); clear hv hbw hcell hfr
    go_wp2_with fail
    refine HCP.out.mono ?_; rintro e w2 ⟨rfl, rfl⟩
    go_wp2_with fail
    go_ret
    exact ⟨congrArg (fun x => Ending.returned (.string x)) HV.out.1, HV.out.2⟩
end Go.Proofs.YtgkkjlpfkoplhaaDoor
