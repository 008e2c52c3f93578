/-
  Goals: the text of kinds.
-/
import Derived.Test.YtbgdngfjeikheaaDoorGoAskT
import Derived.Test.YtbgdngfjeikheaaDoorText
import Derived.Test.YtbgdngfjeikheaaDoorShelf
import Derived.Maps.AppendAt
import Derived.OwnWalk
import Derived.Lib.Join
namespace Go.Proofs.YtbgdngfjeikheaaDoor
open Go.RowKit
set_option linter.unusedVariables false
set_option linter.unusedSimpArgs false

theorem num_decK : ∀ m : Nat, m < 100 → Lib.decDigits m = numF 1 m := by decide +kernel
def txK (p : Int) : List UInt8 := numF 1 p.toNat
def textsK (l : List Int) : List UInt8 := Lib.join (l.map txK) [45]
theorem join_snoc (xs : List (List UInt8)) (y sep : List UInt8) : Lib.join (xs ++ [y]) sep = if xs = [] then y else Lib.join xs sep ++ sep ++ y := by
  cases xs with
  | nil => simp [Lib.join_one]
  | cons x r => rw [List.cons_append, Lib.join_cons, Lib.join_cons, if_neg (by simp)]; simp [Lib.joinTail]

theorem textsK_step {l : List Int} {k : Nat} (hk : k < l.length) : textsK (l.take (k + 1)) = if k = 0 then txK (l.getD k 0) else textsK (l.take k) ++ [45] ++ txK (l.getD k 0) := by
  have hd : l.getD k 0 = l[k] := by simp [hk]
  rw [hd, List.take_succ_eq_append_getElem hk]
  unfold textsK
  rw [List.map_append, List.map_cons, List.map_nil, join_snoc]
  by_cases h0 : k = 0
  · subst h0; simp
  · rw [if_neg h0, if_neg (by intro e; rw [List.map_eq_nil_iff, List.take_eq_nil_iff] at e; rcases e with e | e; exact h0 e; rw [e] at hk; cases hk)]
theorem txK_len (p : Int) : (txK p).length ≤ 2 := (numF_len 1 p.toNat).2
theorem textsK_0 (l : List Int) : textsK (l.take 0) = [] := by simp [textsK, Lib.join_nil]
theorem textsK_len {l : List Int} : ∀ k, k ≤ l.length → (textsK (l.take k)).length ≤ 3 * k
  | 0, _ => by simp [textsK, Lib.join_nil]
  | k + 1, hk => by
    have ih := textsK_len (l := l) k (by omega)
    have h3 := txK_len (l.getD k 0)
    rw [textsK_step (by omega)]
    split
    · omega
    · simp only [List.length_append, List.length_cons, List.length_nil]; omega
theorem numK (p : Int) (h1 : 1 ≤ p) (h2 : p ≤ 20) : (∀ w : World, Calls Tryd.prog 113 #[.int .i64 p] w fun e w' => e = .returned (.string ⟨(txK p).toArray⟩) ∧ Below w.heap.size w w') ∧
    ∀ w : World, Calls Tryd.prog 66 #[.int .i64 p] w fun e w' => e = .returned (.string ⟨(txK p).toArray⟩) ∧ w' = w := by
  obtain ⟨n, rfl⟩ : ∃ n : Nat, p = (n : Int) := ⟨p.toNat, by omega⟩
  unfold txK
  rw [Int.toNat_natCast]
  refine ⟨fun w => ?_, fun w => ?_⟩
  · exact l1Num_any 1 n w (by omega) (by omega)
  · rw [← num_decK n (by omega)]; exact Tryd.strconv_Itoa_small n (by omega) w

set_option maxHeartbeats 1600000 in
set_option maxRecDepth 100000 in
theorem goText_any (l : List Int) (hk : ∀ x ∈ l, 1 ≤ x ∧ x ≤ 20) (a : Option Addr) (c : Nat) (w : World) (hl : (l.length : Int) ≤ 5) (h : Reads w a (ints l)) :
    Calls Tryd.prog 91 #[.slice a l.length c] w fun e w' => e = .returned (.string ⟨(textsK l).toArray⟩) ∧ Below w.heap.size w w' := by
  have HR := Lib.hid h; clear h
  have HK := Lib.hid hk; clear hk
  go_enter Tryd.func91, Tryd.ntmps91
  go_wp2_with fail
  go_loopw [3, 8] (fun q i wr => ∃ k : Nat, i = .int .i64 k ∧ q = .string ⟨(textsK (l.take k)).toArray⟩ ∧ k ≤ l.length ∧ Below w.heap.size w wr) (fun _ i _ => l.length - (intOf i).toNat)
  case atStart => exact ⟨0, rfl, by rw [textsK_0], Nat.zero_le _, Below.refl _ _⟩
  case round =>
    obtain ⟨k, rfl, rfl, hk, hbel⟩ := hrel
    by_cases hlt : k < l.length
    · obtain ⟨b, off, ha, _, hc⟩ := cells_of_reads (HR.out.old hbel) (by omega)
      subst ha
      have c0 := hc k hlt
      have b1 : (k : Int) < (l.length : Int) := by omega
      clear hc
      have hst := textsK_step hlt
      have hlen := textsK_len (l := l) k hk
      have h3 := txK_len (l.getD k 0)
      obtain ⟨p1, p2⟩ := HK.out (l.getD k 0) (by simp [hlt])
      have HT := Lib.hid (numK _ p1 p2).1
      generalize l.getD k 0 = x at *
      have zb := hbel.size
      have HB := Lib.hid hbel; clear hbel
      by_cases h0 : k = 0
      · rw [if_pos h0] at hst
        have HS := Lib.hid hst; clear hst
        subst h0
        rw [textsK_0]
        simp only [Nat.zero_mul, Nat.add_zero] at c0
        have hadd : ∀ W : World, (Op.stringOp .add ⟨#[]⟩ ⟨(txK x).toArray⟩).run Tryd.prog W = .ok (.string ⟨([] ++ txK x).toArray⟩) W := fun W => run_string_add_lists W [] (txK x) (by simp) (by omega)
        rw [List.nil_append] at hadd
        clear hlen h3
        generalize txK x = T at *
        go_wp2_with fail
        refine (HT.out _).mono ?_; rintro e w2 ⟨rfl, bd⟩
        have HB2 := Lib.hid (HB.out.trans (bd.mono zb)); clear bd HB c0 zb
        go_wp2
        go_roundw
        case rel => exact ⟨1, by go_num, by rw [HS.out], by omega, HB2.out⟩
        case measure => simp [intOf]; omega
      · rw [if_neg h0] at hst
        have HS := Lib.hid hst; clear hst
        have hk0 : (0 : Int) < (k : Int) := by omega
        clear h0
        generalize textsK (l.take k) = S at *
        have had1 : ∀ W : World, (Op.stringOp .add ⟨S.toArray⟩ ⟨#[45]⟩).run Tryd.prog W = .ok (.string ⟨(S ++ [45]).toArray⟩) W := fun W => run_string_add_lists W S [45] (by omega) (by simp)
        have had2 : ∀ W : World, (Op.stringOp .add ⟨(S ++ [45]).toArray⟩ ⟨(txK x).toArray⟩).run Tryd.prog W = .ok (.string ⟨(S ++ [45] ++ txK x).toArray⟩) W := fun W => run_string_add_lists W (S ++ [45]) (txK x) (by simp; omega) (by omega)
        clear hlen h3
        generalize S ++ [45] ++ txK x = V at *
        generalize S ++ [45] = U at *
        generalize txK x = T at *
        go_wp2_with fail
        refine (HT.out _).mono ?_; rintro e w2 ⟨rfl, bd⟩
        have HB2 := Lib.hid (HB.out.trans (bd.mono zb)); clear bd HB c0 zb
        go_wp2
        go_roundw
        case rel => exact ⟨k + 1, by go_num, by rw [HS.out], by omega, HB2.out⟩
        case measure => simp [intOf]; omega
    · obtain rfl : k = l.length := by omega
      rw [List.take_length]
      go_wp2
      go_ret
      exact ⟨rfl, hbel⟩

def textKV (l : List Int) : ByteArray := if goodK l = true then ⟨(textsK l).toArray⟩ else ⟨#[]⟩
set_option maxHeartbeats 800000 in
theorem specKT_any (ks : List Int) (a : Option Addr) (c : Nat) (w : World) (hl : (ks.length : Int) ≤ 1000000000000) (h : Reads w a (ints ks)) :
    Calls Tryd.prog 38 #[.slice a ks.length c] w fun e w' => e = .returned (.tuple #[.string (textKV ks), .bool (goodK ks)]) ∧ Below w.heap.size w w' := by
  have HQ := Lib.hid (goKinds_any ks a c w hl h)
  cases hg : goodK ks
  · have e1 : textKV ks = ⟨#[]⟩ := by simp [textKV, hg]
    rw [e1]; clear e1
    have HG := Lib.hid hg; clear hg h
    go_enter Tryd.func38, Tryd.ntmps38
    go_wp2_with fail
    refine HQ.out.mono ?_; rintro e w1 ⟨rfl, b1⟩
    rw [HG.out]
    go_wp2_with fail
    refine bodyPost_ret (v := .tuple #[.string ⟨#[]⟩, .bool false]) (by simp [results, Tryd.results38, go_sem]) rfl ⟨rfl, b1⟩
  · have e1 : textKV ks = ⟨(textsK ks).toArray⟩ := by simp [textKV, hg]
    rw [e1]; clear e1
    have h5 := (good_len hg).2
    have HT := Lib.hid (fun w' (hr : Reads w' a (ints ks)) => goText_any ks (good_mem hg) a c w' (by omega) hr)
    have HG := Lib.hid hg; clear hg
    have HR := Lib.hid h; clear h
    generalize textsK ks = T at *
    go_enter Tryd.func38, Tryd.ntmps38
    go_wp2_with fail
    refine HQ.out.mono ?_; rintro e w1 ⟨rfl, b1⟩
    rw [HG.out]
    have B1 := Lib.hid b1; clear b1
    go_wp2_with fail
    refine (HT.out _ (HR.out.old B1.out)).mono ?_; rintro e w2 ⟨rfl, b2⟩
    have B2 := Lib.hid (B1.out.trans (b2.mono B1.out.size)); clear b2
    go_wp2_with fail
    refine bodyPost_ret (v := .tuple #[.string ⟨T.toArray⟩, .bool true]) (by simp [results, Tryd.results38, go_sem]) rfl ⟨rfl, B2.out⟩
end Go.Proofs.YtbgdngfjeikheaaDoor
