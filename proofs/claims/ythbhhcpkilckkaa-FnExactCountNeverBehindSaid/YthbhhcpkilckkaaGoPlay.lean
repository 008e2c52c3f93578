/-
  Goals: the model's scores of a game.
-/
import Derived.Test.YthbhhcpkilckkaaGoPair
namespace Go.Proofs.Ythbhhcpkilckkaa
open Go.RowKit
set_option linter.unusedVariables false
set_option linter.unusedSimpArgs false

set_option maxHeartbeats 800000 in
theorem goBoth_any (ks : List Int) (game : ByteArray) (a : Option Addr) (c : Nat) (w : World) (hl : (ks.length : Int) ≤ 1000000000000) (hs : (game.size : Int) ≤ 1048576) (h : Reads w a (ints ks)) :
    Calls Try.prog 76 #[.slice a ks.length c, .string game] w fun e w' => e = .returned (.bool (playG ks game.data.toList).isSome) ∧ Below w.heap.size w w' := by
  have HK := Lib.hid (goKinds_any ks a c w hl h); clear h
  cases hg : goodK ks
  · have e1 : playG ks game.data.toList = none := by simp [playG, hg]
    have HE := Lib.hid e1
    have HG := Lib.hid hg; clear hg e1
    go_enter Try.func76, Try.ntmps76
    go_wp2_with fail
    refine HK.out.mono ?_; rintro e w1 ⟨rfl, b1⟩
    rw [HG.out]
    go_wp2_with fail
    go_ret
    exact ⟨ret_bool (by rw [HE.out]; rfl), b1⟩
  · have e1 : playG ks game.data.toList = gameG ks game.data.toList := by simp [playG, hg]
    have HE := Lib.hid e1
    have HGA := Lib.hid (fun w' => goGame_any ks hg game a c w' hs)
    have HG := Lib.hid hg; clear hg e1
    go_enter Try.func76, Try.ntmps76
    go_wp2_with fail
    refine HK.out.mono ?_; rintro e w1 ⟨rfl, b1⟩
    rw [HG.out]
    go_wp2_with fail
    refine (HGA.out _).mono ?_; rintro e w2 ⟨rfl, rfl⟩
    go_wp2_with fail
    go_ret
    exact ⟨ret_bool (by rw [HE.out]), b1⟩

theorem goalsG_get {ks : List Int} : ∀ {l : List UInt8} {L : List (Int × Int)}, goalsG ks l = some L → ∀ k, k < l.length → ∃ c, l[k]? = some c ∧ goalG ks c = some (L.getD k (0, 0))
  | [], L, h, k, hk => absurd hk (Nat.not_lt_zero _)
  | c :: r, L, h, k, hk => by
    rw [goalsG] at h
    cases hc : goalG ks c with
    | none => rw [hc] at h; cases h
    | some x =>
      rw [hc] at h
      cases hr : goalsG ks r with
      | none => rw [hr] at h; cases h
      | some M =>
        rw [hr] at h; cases h
        cases k with
        | zero => exact ⟨c, rfl, by simpa using hc⟩
        | succ k =>
          obtain ⟨d, h1, h2⟩ := goalsG_get hr k (by simpa using hk)
          exact ⟨d, by simpa using h1, by simpa using h2⟩

theorem PairD.first (w : World) : PairD w.heap.size [(0, 0)] (.slice (some ⟨w.heap.size + 1, 0, none⟩) 1 1) ((w.alloc (.cells #[.int .i64 0, .int .i64 0] 3)).alloc (.cells #[.slice (some ⟨w.heap.size, 0, none⟩) 2 2] 22)) := by
  have ho := owns_base (owns_one (w.alloc (.cells #[.int .i64 0, .int .i64 0] 3)) 22 (.slice (some ⟨w.heap.size, 0, none⟩) 2 2)) (B := w.heap.size) (by simp)
  rw [show (w.alloc (.cells #[.int .i64 0, .int .i64 0] 3)).heap.size = w.heap.size + 1 by simp] at ho
  have hb : blk [.slice (some ⟨w.heap.size, 0, none⟩) 2 2] 0 = w.heap.size := rfl
  refine ⟨_, ho, ⟨rfl, fun j hj => ?_⟩, fun j hj => ?_, fun i j hij hj => ?_⟩
  · obtain rfl : j = 0 := by simp [rows2] at hj; omega
    exact ⟨2, rfl⟩
  · obtain rfl : j = 0 := by simp at hj; omega
    rw [hb]
    refine ⟨?_, Nat.le_refl _⟩
    show RowAt _ _ _ [0, 0]
    unfold RowAt
    rw [Below.heap_alloc _ _ _ (by simp)]
    exact heap_alloc_last w _
  · simp [rows2] at hj; omega
theorem infoSlice : (Try.prog.info? 22).map (fun i => (i.zero, i.size, i.bytes)) = some (some (.slice none 0 0), 1, 24) := by kernel_rfl
theorem new_head (wr : World) (o : Obj) (v : Value) (t : TypeId) : ∀ j' u, ([v] : List Value)[j']? = some u → ((wr.alloc o).alloc (.cells #[v] t)).cell? ((⟨wr.heap.size + 1, 0, none⟩ : Addr).add j') = some u := by
  intro j' u hu
  have e0 : j' = 0 := by have := (List.getElem?_eq_some_iff.1 hu).1; simp at this; omega
  subst e0
  simp at hu; subst hu
  rw [add_zero_addr]
  have := cell_of_row _ _ 0 _ _ _ (heap_alloc_last (wr.alloc o) (.cells #[v] t))
  rw [show (wr.alloc o).heap.size = wr.heap.size + 1 by simp] at this
  exact this
theorem pair_grown {B : Nat} {w wr w5 : World} {v : Value} {n : Nat} {xs : List Value} {T : TypeId} {o o' : Obj} (h : wr.ownsRow B T 1 v n xs) (hB : B ≤ wr.heap.size) (hbel : Below B w wr) (hg : ((wr.alloc o).alloc o').grownBy w5 v.ownBlock) : Below B w w5 :=
  ((hbel.alloc (by omega) _).alloc (by simp; omega) _).grown hg (by simp; omega) (fun g hg => by have := owns_block h g hg; omega)

def GoAt (w : World) (L : List (Int × Int)) (k : Nat) (v : Value) (wr : World) : Prop := PairD w.heap.size (runG (0, 0) (L.take k)) v wr ∧ Below w.heap.size w wr

set_option maxHeartbeats 6400000 in
theorem goScores_any (ks : List Int) (hg : goodK ks = true) (game : ByteArray) (L : List (Int × Int)) (hL : gameG ks game.data.toList = some L) (a : Option Addr) (c : Nat) (w : World) (h : Reads w a (ints ks)) :
    Calls Try.prog 77 #[.slice a ks.length c, .string game] w fun e w' => ∃ v, e = .returned v ∧ PairD w.heap.size (scoresG L) v w' ∧ Below w.heap.size w w' := by
  obtain ⟨h60, hGo⟩ := gameG_some hL
  have hlen : game.data.toList.length = game.size := by rw [Array.length_toList]; rfl
  have hLl := goalsG_len hGo
  rw [hlen] at h60 hLl
  have hbd := goalsG_bd (good_mem hg) hGo
  have hget := goalsG_get hGo
  have HBD := Lib.hid hbd; clear hbd
  have HGT := Lib.hid hget; clear hget hGo hL
  have HR := Lib.hid h; clear h
  obtain ⟨i0, hi, hz0, hz1, hz2⟩ := info_parts infoSlice
  have HI := Lib.hid (And.intro hi (And.intro hz0 (And.intro hz1 hz2))); clear hi hz0 hz1 hz2
  have H0 : Hid (GoAt w L 0 (.slice (some ⟨w.heap.size + 1, 0, none⟩) 1 1) ((w.alloc (.cells #[.int .i64 0, .int .i64 0] 3)).alloc (.cells #[.slice (some ⟨w.heap.size, 0, none⟩) 2 2] 22))) :=
    ⟨PairD.first w, ((Below.refl _ _).alloc (Nat.le_refl _) _).alloc (by simp) _⟩
  have HLL := Lib.hid hLl; clear hLl
  have hgs : (game.size : Int) ≤ 60 := by omega
  go_enter Try.func77, Try.ntmps77
  go_wp2_with fail
  go_loopw [5, 6, 7, 8] (fun a b v i wr => ∃ (k : Nat) (vv : Value), vv = v ∧ i = .int .i64 k ∧ k ≤ game.size ∧ a = .int .i64 (sumG (0, 0) (L.take k)).1 ∧ b = .int .i64 (sumG (0, 0) (L.take k)).2 ∧ Hid (GoAt w L k vv wr)) (fun _ _ _ i _ => game.size - (intOf i).toNat)
  case atStart => exact ⟨0, _, rfl, rfl, Nat.zero_le _, rfl, rfl, H0⟩
  case round =>
    clear H0
    obtain ⟨k, vv, hvv, rfl, hk, rfl, rfl, hG⟩ := hrel
    subst hvv
    have hLk : k ≤ L.length := by rw [HLL.out]; exact hk
    by_cases hlt : k < game.size
    · have hltL : k < L.length := by rw [HLL.out]; exact hlt
      have b1 : (k : Int) < (game.size : Int) := by omega
      have hidx : ∀ W : World, (Instr.index 9 (.string game) (.int .i64 (k : Int))).run Try.prog W = .ok (.int .u8 ((game.data[k]'hlt).toNat : Int)) W := fun W => by
        rw [run_index_string W _ _ _ _ Try.underlying9]
        simp [hlt]; rfl
      obtain ⟨ch, hch, hgc⟩ := HGT.out k (by rw [hlen]; exact hlt)
      have hce : game.data[k]'hlt = ch := by
        have : game.data.toList[k]? = some (game.data[k]'hlt) := by first | (simp [hlt]; done) | (simp [hlt]; rfl)
        rw [this] at hch; exact Option.some.inj hch
      have h256 := UInt8.toNat_lt ch
      rw [hce] at hidx
      clear hch hce
      obtain ⟨l1, l2⟩ := good_len hg
      obtain ⟨b, off, rfl, hltb, hcs⟩ := cells_of_reads (HR.out.old hG.out.2) (by omega)
      have hsb := sumG_bd (n := 0) (0, 0) (L.take k) (fun x hx => HBD.out x (List.mem_of_mem_take hx)) (by simp) (by simp) (by simp) (by simp)
      rw [show (L.take k).length = k by rw [List.length_take]; omega] at hsb
      have hxb := HBD.out (L.getD k (0, 0)) (by simp [hltL])
      have htk : L.take (k + 1) = L.take k ++ [L.getD k (0, 0)] := by rw [List.take_succ_eq_append_getElem hltL]; simp [hltL]
      have hsu : sumG (0, 0) (L.take (k + 1)) = ((sumG (0, 0) (L.take k)).1 + (L.getD k (0, 0)).1, (sumG (0, 0) (L.take k)).2 + (L.getD k (0, 0)).2) := by rw [htk, sumG_snoc]
      have hru : runG (0, 0) (L.take (k + 1)) = runG (0, 0) (L.take k) ++ [((sumG (0, 0) (L.take k)).1 + (L.getD k (0, 0)).1, (sumG (0, 0) (L.take k)).2 + (L.getD k (0, 0)).2)] := by rw [htk, runG_snoc]
      have hrl : (runG (0, 0) (L.take k)).length = k + 1 := by rw [runG_len, List.length_take]; omega
      have HSU := Lib.hid (And.intro hsu (And.intro hru hrl)); clear hsu hru hrl htk
      have hP := hG.out.1
      have hB := hG.out.2
      clear hG
      generalize sumG (0, 0) (L.take k) = s at *
      generalize runG (0, 0) (L.take k) = ru at *
      obtain ⟨vs, ho, hrest⟩ := hP
      rw [HSU.out.2.2] at ho
      have HP := Lib.hid (And.intro ho (And.intro hrest hB))
      have hbs := hB.size
      clear ho hrest hB
      obtain ⟨s1, s2⟩ := s
      simp only at hsb HSU
      have hxx : L.getD k (0, 0) = ((L.getD k (0, 0)).1, (L.getD k (0, 0)).2) := rfl
      generalize hx : L.getD k (0, 0) = x at *
      clear hx hxx
      obtain ⟨x1, x2⟩ := x
      simp only at hxb HSU
      have HN := Lib.hid (fun o v => new_head wr o v 22)
      have fin : ∀ (v' : Value) (w5 : World), w5.ownsRow w.heap.size 22 1 v' (k + 1 + 1) (vs ++ [.slice (some ⟨wr.heap.size, 0, none⟩) 2 2]) → ((wr.alloc (.cells #[.int .i64 (s1 + x1), .int .i64 (s2 + x2)] 3)).alloc (.cells #[.slice (some ⟨wr.heap.size, 0, none⟩) 2 2] 22)).grownBy w5 vv.ownBlock → GoAt w L (k + 1) v' w5 := by
        intro v' w5 hown5 hgrow
        have hb5 := pair_grown HP.out.1 hbs HP.out.2.2 hgrow
        have hp : PairD w.heap.size ru vv wr := ⟨vs, by rw [HSU.out.2.2]; exact HP.out.1, HP.out.2.1⟩
        refine ⟨?_, hb5⟩
        rw [HSU.out.2.1]
        refine hp.snoc' hbs ?_ hgrow
        exact ⟨vs, by rw [HSU.out.2.2]; exact HP.out.1, HP.out.2.1, by rw [HSU.out.2.2]; exact hown5⟩
      have HF := Lib.hid fin; clear fin
      have H256 := h256
      by_cases q : 97 ≤ ch.toNat
      · have hgo : 97 ≤ ch.toNat ∧ ch.toNat < 97 + ks.length := by
          unfold goalG at hgc
          by_cases h1 : 97 ≤ ch.toNat ∧ ch.toNat < 97 + ks.length
          · exact h1
          · rw [if_neg h1, if_neg (by omega)] at hgc; cases hgc
        have hxe : x1 = ks.getD (ch.toNat - 97) 0 ∧ x2 = 0 := by
          unfold goalG at hgc; rw [if_pos hgo] at hgc; cases hgc; exact ⟨rfl, rfl⟩
        obtain ⟨j, hj⟩ : ∃ j, ch.toNat = 97 + j := ⟨ch.toNat - 97, by omega⟩
        rw [hj] at hxe
        rw [show 97 + j - 97 = j by omega] at hxe
        have c0 := hcs j (by omega)
        rw [← hxe.1] at c0
        have hjn : (j : Int) < (ks.length : Int) := by omega
        rw [hj] at hidx
        have hj5 : (j : Int) ≤ 4 := by omega
        obtain ⟨-, rfl⟩ := hxe
        clear hgc hgo q hj h256 hcs H256
        have e1 : ((97 + j : Nat) : Int) = 97 + (j : Int) := by push_cast; rfl
        rw [e1] at hidx
        have e2 : (97 : Int) ≤ 97 + (j : Int) := by omega
        have e3 : 97 + (j : Int) - 97 = (j : Int) := by omega
        rw [Int.add_zero] at HF HSU
        go_wp2_with (at_builtin; refine wpList_append_own_at _ rfl _ _ 39 rfl w.heap.size 22 i0 (.slice none 0 0) 1 24 Try.underlying39 HI.out.1 HI.out.2.1 HI.out.2.2.1 HI.out.2.2.2 rfl (by decide) _ _ _ rfl ((HP.out.1.alloc _).alloc _) ⟨wr.heap.size + 1, 0, none⟩ 1 1 [.slice (some ⟨wr.heap.size, 0, none⟩) 2 2] rfl rfl (HN.out _ _) ?_ ?_ ?_ ?_ ?_)
        · first | rfl | (intro u hu; simp at hu; subst hu; rfl)
        · unfold maxLen; omega
        · omega
        · first | omega | (simp; omega)
        intro v' w5 hown5 hgrow _ _
        have H5 := Lib.hid (HF.out v' w5 hown5 hgrow)
        clear hown5 hgrow HP HN HF
        go_wp2_with fail
        go_roundw
        case rel => exact ⟨k + 1, _, rfl, by go_num, by omega, by rw [HSU.out.1], by rw [HSU.out.1], H5⟩
        case measure => simp [intOf]; omega
      · have hgo : 65 ≤ ch.toNat ∧ ch.toNat < 65 + ks.length := by
          unfold goalG at hgc
          rw [if_neg (by omega)] at hgc
          by_cases h1 : 65 ≤ ch.toNat ∧ ch.toNat < 65 + ks.length
          · exact h1
          · rw [if_neg h1] at hgc; cases hgc
        have hxe : x1 = 0 ∧ x2 = ks.getD (ch.toNat - 65) 0 := by
          unfold goalG at hgc; rw [if_neg (by omega), if_pos hgo] at hgc; cases hgc; exact ⟨rfl, rfl⟩
        obtain ⟨j, hj⟩ : ∃ j, ch.toNat = 65 + j := ⟨ch.toNat - 65, by omega⟩
        rw [hj] at hxe
        rw [show 65 + j - 65 = j by omega] at hxe
        have c0 := hcs j (by omega)
        rw [← hxe.2] at c0
        have hjn : (j : Int) < (ks.length : Int) := by omega
        rw [hj] at hidx
        have hj5 : (j : Int) ≤ 4 := by omega
        obtain ⟨rfl, -⟩ := hxe
        clear hgc hgo q hj h256 hcs H256
        have e1 : ((65 + j : Nat) : Int) = 65 + (j : Int) := by push_cast; rfl
        rw [e1] at hidx
        have e2 : ¬ (97 : Int) ≤ 65 + (j : Int) := by omega
        have e3 : 65 + (j : Int) - 65 = (j : Int) := by omega
        rw [Int.add_zero] at HF HSU
        go_wp2_with (at_builtin; refine wpList_append_own_at _ rfl _ _ 39 rfl w.heap.size 22 i0 (.slice none 0 0) 1 24 Try.underlying39 HI.out.1 HI.out.2.1 HI.out.2.2.1 HI.out.2.2.2 rfl (by decide) _ _ _ rfl ((HP.out.1.alloc _).alloc _) ⟨wr.heap.size + 1, 0, none⟩ 1 1 [.slice (some ⟨wr.heap.size, 0, none⟩) 2 2] rfl rfl (HN.out _ _) ?_ ?_ ?_ ?_ ?_)
        · first | rfl | (intro u hu; simp at hu; subst hu; rfl)
        · unfold maxLen; omega
        · omega
        · first | omega | (simp; omega)
        intro v' w5 hown5 hgrow _ _
        have H5 := Lib.hid (HF.out v' w5 hown5 hgrow)
        clear hown5 hgrow HP HN HF
        go_wp2_with fail
        go_roundw
        case rel => exact ⟨k + 1, _, rfl, by go_num, by omega, by rw [HSU.out.1], by rw [HSU.out.1], H5⟩
        case measure => simp [intOf]; omega
    · obtain rfl : k = game.size := by omega
      have hfin : PairD w.heap.size (scoresG L) vv wr := by
        have := hG.out.1
        rwa [List.take_of_length_le (by rw [HLL.out]; exact Nat.le_refl _)] at this
      have HE := Lib.hid (And.intro hfin hG.out.2); clear hfin hG
      go_wp2_with fail
      go_ret
      exact ⟨_, rfl, HE.out⟩
end Go.Proofs.Ythbhhcpkilckkaa
