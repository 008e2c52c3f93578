/-
  Goals: CountGames, CountNeverBehind: the program's tally: what leads to a result.
-/
import Derived.Test.YtooaeafnneikkabGoFlat
import Derived.Test.YtooaeafnneikkabGoOrdI
import Derived.Test.YtooaeafnneikkabGoBelow
namespace Go.Proofs.Ytooaeafnneikkab
open Go.RowKit
set_option linter.unusedVariables false
set_option linter.unusedSimpArgs false

def rowF (G : Int → Int → Int) (W a : Nat) : List Int := (List.range W).map fun (b : Nat) => G (a : Int) (b : Int)
theorem rowF_len (G : Int → Int → Int) (W a : Nat) : (rowF G W a).length = W := by simp [rowF]
theorem rowF_get (G : Int → Int → Int) {W a b : Nat} (h : b < W) : (rowF G W a).getD b 0 = G a b := by simp [rowF, h]
/-- A table of the program's: heads and rows. -/
structure TalF (wr : World) (gh : Nat) (bk : Nat → Nat) (A W : Nat) (G : Int → Int → Int) : Prop where
  hd : wr.heap[gh]? = some (.cells ((List.range (A + 1)).map fun a => Value.slice (some ⟨bk a, 0, none⟩) W W).toArray 45 (0, 0))
  rows : ∀ a, a ≤ A → RowAt wr (bk a) 3 (rowF G W a)
theorem TalF.keep {wr w' : World} {gh : Nat} {bk : Nat → Nat} {A W : Nat} {G : Int → Int → Int} (h : TalF wr gh bk A W G) (hb : Below wr.heap.size wr w') : TalF w' gh bk A W G :=
  ⟨by rw [hb.block gh (Array.getElem?_eq_some_iff.1 h.hd).1]; exact h.hd, fun a ha => (h.rows a ha).keep hb⟩
theorem TalF.head {wr : World} {gh : Nat} {bk : Nat → Nat} {A W : Nat} {G : Int → Int → Int} (h : TalF wr gh bk A W G) {a : Nat} (ha : a ≤ A) : wr.cell? ⟨gh, a, none⟩ = some (.slice (some ⟨bk a, 0, none⟩) W W) := by
  rw [cell_of_row _ _ _ _ _ _ h.hd]
  simp [show a < A + 1 by omega]
theorem TalF.cell {wr : World} {gh : Nat} {bk : Nat → Nat} {A W : Nat} {G : Int → Int → Int} (h : TalF wr gh bk A W G) {a b : Nat} (ha : a ≤ A) (hb : b < W) : wr.cell? ⟨bk a, b, none⟩ = some (.int .i64 (G a b)) := by
  have := (h.rows a ha).cell (j := b) (by rw [rowF_len]; exact hb)
  rwa [rowF_get _ hb] at this
/-- The table and the place, in three captured variables. -/
structure TalC (wr : World) (gt ga gb gh : Nat) (bk : Nat → Nat) (A W x y : Nat) (G : Int → Int → Int) : Prop where
  t : wr.cell? ⟨gt, 0, none⟩ = some (.slice (some ⟨gh, 0, none⟩) (A + 1) (A + 1))
  x' : wr.cell? ⟨ga, 0, none⟩ = some (.int .i64 x)
  y' : wr.cell? ⟨gb, 0, none⟩ = some (.int .i64 y)
  tal : TalF wr gh bk A W G
  lt : gt < wr.heap.size ∧ ga < wr.heap.size ∧ gb < wr.heap.size
theorem TalC.keep {wr w' : World} {gt ga gb gh : Nat} {bk : Nat → Nat} {A W x y : Nat} {G : Int → Int → Int} (h : TalC wr gt ga gb gh bk A W x y G) (hb : Below wr.heap.size wr w') : TalC w' gt ga gb gh bk A W x y G := by
  have := hb.size
  obtain ⟨l1, l2, l3⟩ := h.lt
  exact ⟨by rw [hb.cell (p := ⟨gt, 0, none⟩) l1]; exact h.t, by rw [hb.cell (p := ⟨ga, 0, none⟩) l2]; exact h.x', by rw [hb.cell (p := ⟨gb, 0, none⟩) l3]; exact h.y', h.tal.keep hb, by omega, by omega, by omega⟩
theorem calmAt {P : Program} {f : FuncId} {args : Array Value} {w : World} {n : Nat} {v : Value} (c : ∀ n, Calls P f args (w.drewN n) fun e w' => e = .returned v ∧ w' = w.drewN n) :
    Calls P f args (w.drewN n) fun e w' => e = .returned v ∧ ∃ m, w' = w.drewN m := (c n).mono fun _ _ h => ⟨h.1, n, h.2⟩
theorem atO_row (G : Int → Int → Int) {W x : Nat} {y p : Int} (h : y - p < (W : Int)) : atO (rowF G W x) (y - p) = if y - p < 0 then 0 else G x (y - p) := by
  unfold atO
  by_cases q : y - p < 0
  · rw [if_pos q, if_pos q]
  · rw [if_neg q, if_neg q, rowF_get _ (by omega), Int.toNat_of_nonneg (by omega)]

set_option maxRecDepth 8000 in
set_option maxHeartbeats 1600000 in
theorem gt1_any (G : Int → Int → Int) (hG : ∀ a b, 0 ≤ G a b ∧ G a b ≤ capG) (p gt ga gb gh : Nat) (bk : Nat → Nat) (A W x y : Nat) (hp : 1 ≤ p) (hp2 : p ≤ 20) (hx : x ≤ A) (hy : y < W) (hA : A ≤ 200) (hW : W ≤ 201) (w : World) (h : TalC w gt ga gb gh bk A W x y G) :
    Calls Try.prog 100 #[.int .i64 p, .pointer (some ⟨gt, 0, none⟩), .pointer (some ⟨ga, 0, none⟩), .pointer (some ⟨gb, 0, none⟩)] w fun e w' => e = .returned (.int .i64 (pull2 G x y p)) ∧ Below w.heap.size w w' := by
  have ct := h.t
  have cx := h.x'
  have cy := h.y'
  have hhd := h.tal.head hx
  have hrow := h.tal.rows x hx
  have hN := numberAt_any (rowF G W x) (bk x) W ((y : Int) - (p : Int)) (by rw [rowF_len]; omega)
  rw [rowF_len, atO_row _ (by omega)] at hN
  have HNN : Hid (∀ n, Calls Try.prog 63 #[.slice (some ⟨bk x, 0, none⟩) W W, .int .i64 ((y : Int) - (p : Int))] (w.drewN n) fun e w' => e = .returned (.int .i64 (if (y : Int) - (p : Int) < 0 then 0 else G x ((y : Int) - (p : Int)))) ∧ w' = w.drewN n) :=
    fun n => hN (w.drewN n) (fun j hj => (hrow.drewN n).cell (by rw [rowF_len]; exact hj))
  have wyp : IntKind.i64.wrap ((y : Int) - (p : Int)) = (y : Int) - (p : Int) := IntWalk.i64_in _ (by omega)
  have hg1 : 0 ≤ (if (y : Int) - (p : Int) < 0 then 0 else G x ((y : Int) - (p : Int))) ∧ (if (y : Int) - (p : Int) < 0 then 0 else G x ((y : Int) - (p : Int))) ≤ 1000000000000001 := by
    have := hG x ((y : Int) - (p : Int))
    unfold capG at this
    split <;> omega
  have hxA : (x : Int) < (A : Int) + 1 := by omega
  have hyW : (y : Int) < (W : Int) := by omega
  by_cases q : p ≤ x
  · obtain ⟨d, hd⟩ : ∃ d : Nat, (x : Int) - (p : Int) = (d : Int) := ⟨x - p, by omega⟩
    have hdA : d ≤ A := by omega
    have hhd2 := h.tal.head hdA
    have hcell := h.tal.cell hdA hy
    have hg2 := hG d y
    unfold capG at hg2
    have e : pull2 G x y p = (if (y : Int) - (p : Int) < 0 then 0 else G x ((y : Int) - (p : Int))) + G d y := by
      unfold pull2; rw [if_pos (show (p : Int) ≤ x by omega), hd]
    rw [e]; clear e hN
    generalize (if (y : Int) - (p : Int) < 0 then 0 else G x ((y : Int) - (p : Int))) = u at *
    generalize G (d : Int) (y : Int) = u2 at *
    have wd : IntKind.i64.wrap (d : Int) = (d : Int) := IntWalk.i64_in _ (by omega)
    have wu : IntKind.i64.wrap (u + u2) = u + u2 := IntWalk.i64_in _ (by omega)
    have hdA' : (d : Int) < (A : Int) + 1 := by omega
    have qi : (p : Int) ≤ (x : Int) := by omega
    clear hrow h hG q
    go_enter Try.func100, Try.ntmps100
    go_wp2_with fail
    go_quiet ((go_at_call 63; exact calmAt HNN.out))
    go_wp2_with fail
    go_quiet (fail)
    go_wp2_with fail
    go_ret
    exact ⟨rfl, by first | exact below_drewN (below_drewN (Below.refl _ _) _) _ | exact below_drewN (Below.refl _ _) _⟩
  · have e : pull2 G x y p = (if (y : Int) - (p : Int) < 0 then 0 else G x ((y : Int) - (p : Int))) := by
      unfold pull2; rw [if_neg (show ¬ (p : Int) ≤ x by omega), Int.add_zero]
    rw [e]; clear e hN
    generalize (if (y : Int) - (p : Int) < 0 then 0 else G x ((y : Int) - (p : Int))) = u at *
    have qi : ¬ (p : Int) ≤ (x : Int) := by omega
    clear hrow h hG q
    go_enter Try.func100, Try.ntmps100
    go_wp2_with fail
    go_quiet ((go_at_call 63; exact calmAt HNN.out))
    go_wp2_with fail
    go_ret
    exact ⟨rfl, below_drewN (Below.refl _ _) _⟩

theorem pull2_le (G : Int → Int → Int) (hG : ∀ a b, 0 ≤ G a b ∧ G a b ≤ capG) (a b p : Int) : 0 ≤ pull2 G a b p ∧ pull2 G a b p ≤ 2000000000000002 := by
  have h1 := hG a (b - p)
  have h2 := hG (a - p) b
  unfold pull2 capG at *
  repeat' split
  all_goals omega

set_option maxHeartbeats 1600000 in
theorem sumTal_any (ks : List Int) (hk : ∀ x ∈ ks, 1 ≤ x ∧ x ≤ 20) (hl5 : ks.length ≤ 5) (G : Int → Int → Int) (hG : ∀ a b, 0 ≤ G a b ∧ G a b ≤ capG) (gt ga gb gh : Nat) (bk : Nat → Nat) (A W x y : Nat) (hx : x ≤ A) (hy : y < W) (hA : A ≤ 200) (hW : W ≤ 201) (a : Option Addr) (c : Nat) (w : World) (h : TalC w gt ga gb gh bk A W x y G) (hr : Reads w a (ints ks)) :
    Calls Try.prog 61 #[.slice a ks.length c, .func (.func 100) #[] #[.pointer (some ⟨gt, 0, none⟩), .pointer (some ⟨ga, 0, none⟩), .pointer (some ⟨gb, 0, none⟩)]] w fun e w' => e = .returned (.int .i64 (sumK (pull2 G x y) ks)) ∧ Below w.heap.size w w' := by
  have HC := Lib.hid (fun (p : Nat) w' (hp : 1 ≤ p) (hp2 : p ≤ 20) (hb : Below w.heap.size w w') => gt1_any G hG p gt ga gb gh bk A W x y hp hp2 hx hy hA hW w' (h.keep hb)); clear h
  have HK := Lib.hid hk; clear hk
  have HT := Lib.hid (pull2_le G hG x y); clear hG
  have HR := Lib.hid hr; clear hr
  go_enter Try.func61, Try.ntmps61
  go_wp2_with fail
  go_loopw [5, 10] (fun q i wr => ∃ (k : Nat) (m : Int), i = .int .i64 k ∧ q = .int .i64 m ∧ k ≤ ks.length ∧ 0 ≤ m ∧ m ≤ 2000000000000002 * k ∧ Hid (m + sumK (pull2 G x y) (ks.drop k) = sumK (pull2 G x y) ks) ∧ Hid (Below w.heap.size w wr)) (fun _ i _ => ks.length - (intOf i).toNat)
  case atStart => exact ⟨0, 0, rfl, rfl, Nat.zero_le _, by omega, by omega, Lib.hid (Int.zero_add _), Lib.hid (Below.refl _ _)⟩
  case round =>
    obtain ⟨k, m, rfl, rfl, hk, m0, m1, hF, hB⟩ := hrel
    by_cases hkn : k < ks.length
    · have b1 : (k : Int) < (ks.length : Int) := by omega
      obtain ⟨b, off, rfl, _, hc⟩ := cells_of_reads (HR.out.old hB.out) (by omega)
      have c0 := hc k hkn
      have hp := HK.out (ks.getD k 0) (by simp [hkn])
      have hfd := hF.out
      rw [drop_getD hkn, sumK_cons, ← Int.add_assoc] at hfd
      obtain ⟨p, hpe⟩ : ∃ p : Nat, ks.getD k 0 = (p : Int) := ⟨(ks.getD k 0).toNat, by omega⟩
      rw [hpe] at hp hfd c0
      have HCA := Lib.hid (HC.out p wr (by omega) (by omega) hB.out)
      have hd := HT.out p
      have HF2 := Lib.hid hfd; clear hF hfd hc hpe
      generalize pull2 G x y (p : Int) = d at *
      have wn : IntKind.i64.wrap (m + d) = m + d := IntWalk.i64_in _ (by omega)
      go_wp2_with fail
      refine HCA.out.mono ?_; rintro r w3 ⟨rfl, b3⟩
      have HB3 := Lib.hid (hB.out.trans (b3.mono hB.out.size)); clear b3
      go_wp2_with fail
      go_roundw
      case rel => exact ⟨k + 1, m + d, by go_num, rfl, by omega, by omega, by omega, HF2, HB3⟩
      case measure => simp [intOf]; omega
    · obtain rfl : k = ks.length := by omega
      have hend : m = sumK (pull2 G x y) ks := by
        have h := hF.out
        rw [List.drop_length, sumK_nil, Int.add_zero] at h
        exact h
      have HE := Lib.hid hend; clear hend
      go_wp2_with fail
      go_ret
      exact ⟨by rw [HE.out]; rfl, hB.out⟩

theorem TalC.box {w : World} {gh : Nat} {bk : Nat → Nat} {A W x y : Nat} {G : Int → Int → Int} (h : TalF w gh bk A W G) (t1 t2 t3 : TypeId) :
    TalC (((w.alloc (.cells #[.slice (some ⟨gh, 0, none⟩) (A + 1) (A + 1)] t1)).alloc (.cells #[.int .i64 (x : Int)] t2)).alloc (.cells #[.int .i64 (y : Int)] t3)) w.heap.size (w.heap.size + 1) (w.heap.size + 1 + 1) gh bk A W x y G ∧
    Below w.heap.size w (((w.alloc (.cells #[.slice (some ⟨gh, 0, none⟩) (A + 1) (A + 1)] t1)).alloc (.cells #[.int .i64 (x : Int)] t2)).alloc (.cells #[.int .i64 (y : Int)] t3)) := by
  have b1 := below_new w (.cells #[.slice (some ⟨gh, 0, none⟩) (A + 1) (A + 1)] t1)
  have b2 := b1.alloc b1.size (.cells #[.int .i64 (x : Int)] t2)
  have b3 := b2.alloc b2.size (.cells #[.int .i64 (y : Int)] t3)
  have z1 : (w.alloc (.cells #[.slice (some ⟨gh, 0, none⟩) (A + 1) (A + 1)] t1)).heap.size = w.heap.size + 1 := by simp
  have z2 : ((w.alloc (.cells #[.slice (some ⟨gh, 0, none⟩) (A + 1) (A + 1)] t1)).alloc (.cells #[.int .i64 (x : Int)] t2)).heap.size = w.heap.size + 1 + 1 := by simp
  refine ⟨⟨?_, ?_, ?_, h.keep b3, by simp; omega, by simp, by simp⟩, b3⟩
  · refine (cell_of_row _ _ 0 #[.slice (some ⟨gh, 0, none⟩) (A + 1) (A + 1)] t1 (0, 0) ?_).trans rfl
    rw [heap_alloc_old _ _ (by omega), heap_alloc_old _ _ (by omega)]
    exact heap_alloc_last w _
  · refine (cell_of_row _ _ 0 #[.int .i64 (x : Int)] t2 (0, 0) ?_).trans rfl
    rw [heap_alloc_old _ _ (by omega), ← z1]
    exact heap_alloc_last _ _
  · refine (cell_of_row _ _ 0 #[.int .i64 (y : Int)] t3 (0, 0) ?_).trans rfl
    rw [← z2]
    exact heap_alloc_last _ _

set_option maxHeartbeats 1600000 in
theorem gamesTo_any (ks : List Int) (hk : ∀ x ∈ ks, 1 ≤ x ∧ x ≤ 20) (hl5 : ks.length ≤ 5) (G : Int → Int → Int) (hG : ∀ a b, 0 ≤ G a b ∧ G a b ≤ capG) (gh : Nat) (bk : Nat → Nat) (A W x y : Nat) (hx : x ≤ A) (hy : y < W) (hA : A ≤ 200) (hW : W ≤ 201) (a : Option Addr) (c : Nat) (w : World) (h : TalF w gh bk A W G) (hr : Reads w a (ints ks)) :
    Calls Try.prog 97 #[.slice (some ⟨gh, 0, none⟩) (A + 1) (A + 1), .slice a ks.length c, .int .i64 x, .int .i64 y] w fun e w' => e = .returned (.int .i64 (sumK (pull2 G x y) ks)) ∧ Below w.heap.size w w' := by
  have HS := Lib.hid (fun gt ga gb w' (h : TalC w' gt ga gb gh bk A W x y G) (hr : Reads w' a (ints ks)) => sumTal_any ks hk hl5 G hG gt ga gb gh bk A W x y hx hy hA hW a c w' h hr)
  have HT := Lib.hid h; clear h
  have HR := Lib.hid hr; clear hr
  generalize sumK (pull2 G x y) ks = V at *
  clear hk hG
  go_enter Try.func97, Try.ntmps97
  go_wp2_with fail
  obtain ⟨hc, hb⟩ := TalC.box (x := x) (y := y) HT.out 103 3 3
  have HB := Lib.hid hb
  refine (HS.out _ _ _ _ hc (HR.out.old hb)).mono ?_; rintro e w5 ⟨rfl, b5⟩
  have HB5 := Lib.hid (HB.out.trans (b5.mono HB.out.size)); clear b5 hc hb
  go_wp2_with fail
  go_ret
  exact ⟨rfl, HB5.out⟩
end Go.Proofs.Ytooaeafnneikkab
