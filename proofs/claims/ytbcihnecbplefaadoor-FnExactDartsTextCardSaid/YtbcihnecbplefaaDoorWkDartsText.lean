/- What the exact law of DartsText does, step by step. -/
import Derived.Test.YtbcihnecbplefaaDoorDaOpen
import Derived.Test.YtbcihnecbplefaaDoorDaList
import Derived.Test.YtbcihnecbplefaaDoorWkDartText
import Derived.Maps.AppendAt
import Derived.OwnWalk
import Derived.Lib.Join
import Derived.Deep.QuietTactic
namespace Go.Proofs.YtbcihnecbplefaaDoor.ExDartsText
open Go.RowKit
set_option linter.unusedVariables false

def tx (d : Int × Int) : List UInt8 := textD d.1.toNat d.2
def partsD (l : List (Int × Int)) : List (List UInt8) := l.map tx
def textsL (l : List (Int × Int)) : List UInt8 := Lib.join (partsD l) [45]

theorem join_snoc (xs : List (List UInt8)) (y sep : List UInt8) : Lib.join (xs ++ [y]) sep = if xs = [] then y else Lib.join xs sep ++ sep ++ y := by
  cases xs with
  | nil => simp [Lib.join_one]
  | cons x r => rw [List.cons_append, Lib.join_cons, Lib.join_cons, if_neg (by simp)]; simp [Lib.joinTail]

theorem texts_step {l : List (Int × Int)} {k : Nat} (hk : k < l.length) : textsL (l.take (k + 1)) = if k = 0 then tx (l.getD k (0, 0)) else textsL (l.take k) ++ [45] ++ tx (l.getD k (0, 0)) := by
  have hd : l.getD k (0, 0) = l[k] := by simp [hk]
  rw [hd, List.take_succ_eq_append_getElem hk]
  unfold textsL partsD
  rw [List.map_append, List.map_cons, List.map_nil, join_snoc]
  by_cases h0 : k = 0
  · subst h0; simp
  · rw [if_neg h0, if_neg (by intro e; rw [List.map_eq_nil_iff, List.take_eq_nil_iff] at e; rcases e with e | e; exact h0 e; rw [e] at hk; cases hk)]
theorem preD_len (t : Int) : (preD t).length ≤ 1 := by
  unfold preD
  split
  · simp
  · split
    · simp
    · simp
theorem tx_len (d : Int × Int) : (tx d).length ≤ 3 := by
  unfold tx textD
  have := (numF_len 1 d.1.toNat).2
  rw [List.length_append]
  have h2 := preD_len d.2
  omega
theorem texts_len {l : List (Int × Int)} : ∀ k, k ≤ l.length → (textsL (l.take k)).length ≤ 4 * k
  | 0, _ => by simp [textsL, partsD, Lib.join_nil]
  | k + 1, hk => by
    have ih := texts_len (l := l) k (by omega)
    have h3 := tx_len (l.getD k (0, 0))
    rw [texts_step (by omega)]
    split
    · omega
    · simp only [List.length_append, List.length_cons, List.length_nil]; omega
theorem texts_0 (l : List (Int × Int)) : textsL (l.take 0) = [] := by simp [textsL, partsD, Lib.join_nil]

def Says (d : Int × Int) : Prop := (∀ w : World, Calls Tryd.prog 23 #[.agg #[.int .i64 d.1, .int .i64 d.2]] w fun e w' => e = .returned (.string ⟨(tx d).toArray⟩) ∧ Below w.heap.size w w') ∧
  ∀ w : World, Calls Tryd.prog 9 #[.agg #[.int .i64 d.1, .int .i64 d.2]] w fun e w' => e = .returned (.tuple #[.string ⟨(tx d).toArray⟩, .bool true]) ∧ Below w.heap.size w w'
theorem says (d : Int × Int) (h : goodB d.1 d.2 = true) : Says d := by
  obtain ⟨x, t⟩ := d
  obtain ⟨m, hm, hlt, ht⟩ := good_dart h
  simp only at hm ht h
  subst hm
  exact ⟨daText_any m hlt t ht, ExDartText.impl_good m hlt t ht h⟩

set_option maxHeartbeats 1600000 in
set_option maxRecDepth 100000 in
theorem daTexts_any (l : List (Int × Int)) (a : Option Addr) (c : Nat) (w : World) (hl : (l.length : Int) ≤ 9) (h : Reads w a (darts l)) (hg : allGood l = true) :
    Calls Tryd.prog 29 #[.slice a l.length c] w fun e w' => e = .returned (.string ⟨(textsL l).toArray⟩) ∧ Below w.heap.size w w' := by
  have HR := Lib.hid h; clear h
  have HG := Lib.hid hg; clear hg
  go_enter Tryd.func29, Tryd.ntmps29
  go_wp2_with fail
  go_loopw [3, 8] (fun q i wr => ∃ k : Nat, i = .int .i64 k ∧ q = .string ⟨(textsL (l.take k)).toArray⟩ ∧ k ≤ l.length ∧ Below w.heap.size w wr) (fun _ i _ => l.length - (intOf i).toNat)
  case atStart => exact ⟨0, rfl, by rw [texts_0], Nat.zero_le _, Below.refl _ _⟩
  case round =>
    obtain ⟨k, rfl, rfl, hk, hbel⟩ := hrel
    by_cases hlt : k < l.length
    · obtain ⟨b, off, ha, _, hc⟩ := dcells_of_reads (HR.out.old hbel) (by omega)
      subst ha
      obtain ⟨c0, c1⟩ := hc k hlt
      have b1 : (k : Int) < (l.length : Int) := by omega
      clear hc
      have hst := texts_step hlt
      have hlen := texts_len (l := l) k hk
      have h3 := tx_len (l.getD k (0, 0))
      have hsy := says _ (allGood_get HG.out k hlt)
      generalize l.getD k (0, 0) = x at *
      have HT := Lib.hid hsy.1; clear hsy
      obtain ⟨x1, x2⟩ := x
      simp only at c0 c1
      have zb := hbel.size
      have HB := Lib.hid hbel; clear hbel
      by_cases h0 : k = 0
      · rw [if_pos h0] at hst
        have HS := Lib.hid hst; clear hst
        subst h0
        rw [texts_0]
        simp only [Nat.zero_mul, Nat.add_zero] at c0 c1
        have hadd : ∀ W : World, (Op.stringOp .add ⟨#[]⟩ ⟨(tx (x1, x2)).toArray⟩).run Tryd.prog W = .ok (.string ⟨([] ++ tx (x1, x2)).toArray⟩) W := fun W => run_string_add_lists W [] (tx (x1, x2)) (by simp) (by omega)
        rw [List.nil_append] at hadd
        clear hlen h3
        generalize tx (x1, x2) = T at *
        go_wp2_with fail
        refine (HT.out _).mono ?_; rintro e w2 ⟨rfl, bd⟩
        have HB2 := Lib.hid ((HB.out.alloc zb _).trans (bd.mono (by simp; omega))); clear bd HB c0 c1 zb
        go_wp2
        go_roundw
        case rel => exact ⟨1, by go_num, by rw [HS.out], by omega, HB2.out⟩
        case measure => simp [intOf]; omega
      · rw [if_neg h0] at hst
        have HS := Lib.hid hst; clear hst
        have hk0 : (0 : Int) < (k : Int) := by omega
        clear h0
        generalize textsL (l.take k) = S at *
        have had1 : ∀ W : World, (Op.stringOp .add ⟨S.toArray⟩ ⟨#[45]⟩).run Tryd.prog W = .ok (.string ⟨(S ++ [45]).toArray⟩) W := fun W => run_string_add_lists W S [45] (by omega) (by simp)
        have had2 : ∀ W : World, (Op.stringOp .add ⟨(S ++ [45]).toArray⟩ ⟨(tx (x1, x2)).toArray⟩).run Tryd.prog W = .ok (.string ⟨(S ++ [45] ++ tx (x1, x2)).toArray⟩) W := fun W => run_string_add_lists W (S ++ [45]) (tx (x1, x2)) (by simp; omega) (by omega)
        clear hlen h3
        generalize S ++ [45] ++ tx (x1, x2) = V at *
        generalize S ++ [45] = U at *
        generalize tx (x1, x2) = T at *
        go_wp2_with fail
        refine (HT.out _).mono ?_; rintro e w2 ⟨rfl, bd⟩
        have HB2 := Lib.hid ((HB.out.alloc zb _).trans (bd.mono (by simp; omega))); clear bd HB c0 c1 zb
        go_wp2
        go_roundw
        case rel => exact ⟨k + 1, by go_num, by rw [HS.out], by omega, HB2.out⟩
        case measure => simp [intOf]; omega
    · obtain rfl : k = l.length := by omega
      rw [List.take_length]
      go_wp2
      go_ret
      exact ⟨rfl, hbel⟩

def textB (l : List (Int × Int)) : ByteArray := if listB l 1 9 then ⟨(textsL l).toArray⟩ else ⟨#[]⟩
def textV (l : List (Int × Int)) : Value := .tuple #[.string (textB l), .bool (listB l 1 9)]
theorem textV_eq (l : List (Int × Int)) : textV l = .tuple #[.string (textB l), .bool (listB l 1 9)] := rfl

set_option maxHeartbeats 1600000 in
theorem spec_any (l : List (Int × Int)) (a : Option Addr) (c : Nat) (w : World) (hl : (l.length : Int) ≤ 1000000000000) (h : Reads w a (darts l)) :
    Calls Tryd.prog 14 #[.slice a l.length c] w fun e w' => e = .returned (textV l) ∧ Below w.heap.size w w' := by
  have HR := Lib.hid h; clear h
  cases hq : listB l 1 9
  · have hv : textV l = .tuple #[.string ⟨#[]⟩, .bool false] := by simp [textV, textB, hq]
    rw [hv]; clear hv
    have HQ := Lib.hid hq; clear hq
    go_enter Tryd.func14, Tryd.ntmps14
    go_wp2_with fail
    refine (daList_any l _ _ _ _ _ hl HR.out).mono ?_; rintro e w1 ⟨rfl, bd⟩
    rw [HQ.out]
    go_wp2_with fail
    go_ret2
    exact ⟨rfl, bd⟩
  · have hv : textV l = .tuple #[.string ⟨(textsL l).toArray⟩, .bool true] := by simp [textV, textB, hq]
    rw [hv]; clear hv
    have ⟨h9, hg⟩ : (l.length : Int) ≤ 9 ∧ allGood l = true := by
      simp only [listB, inR, Bool.and_eq_true, decide_eq_true_eq] at hq
      exact ⟨hq.1.2, hq.2⟩
    have HQ := Lib.hid hq; clear hq
    have HG := Lib.hid hg; clear hg
    go_enter Tryd.func14, Tryd.ntmps14
    go_wp2_with fail
    refine (daList_any l _ _ _ _ _ hl HR.out).mono ?_; rintro e w1 ⟨rfl, bd⟩
    rw [HQ.out]
    go_wp2_with fail
    refine (daTexts_any l _ _ _ h9 (HR.out.old bd) HG.out).mono ?_; rintro e w2 ⟨rfl, bd2⟩
    have HB := Lib.hid (bd.trans (bd2.mono bd.size)); clear bd bd2
    go_wp2_with fail
    refine bodyPost_ret (v := .tuple #[.string ⟨(textsL l).toArray⟩, .bool true]) (by simp [results, Tryd.results14, go_sem]) rfl ⟨rfl, HB.out⟩

def strT (l : List (Int × Int)) : List Value := l.map fun d => .string ⟨(tx d).toArray⟩
theorem strT_step {l : List (Int × Int)} {k : Nat} (hk : k < l.length) : strT (l.take (k + 1)) = strT (l.take k) ++ [.string ⟨(tx (l.getD k (0, 0))).toArray⟩] := by
  have hd : l.getD k (0, 0) = l[k] := by simp [hk]
  rw [hd, List.take_succ_eq_append_getElem hk]
  unfold strT; rw [List.map_append]; rfl
theorem infoStr : (Tryd.prog.info? 9).map (fun i => (i.zero, i.size, i.bytes)) = some (some (.string ⟨#[]⟩), 1, 16) := by kernel_rfl
theorem owns_below {B : Nat} {e : TypeId} {k : Nat} {v : Value} {n : Nat} {xs : List Value} {w w' : World} (h : w.ownsRow B e k v n xs) (hb : Below w.heap.size w w') : w'.ownsRow B e k v n xs := by
  obtain ⟨h1, h2⟩ := h
  refine ⟨h1, ?_⟩
  rcases h2 with h2 | ⟨g, cap, cur, hv, hg, hh, r⟩
  · exact Or.inl h2
  · exact Or.inr ⟨g, cap, cur, hv, hg, by rw [hb.block g (Array.getElem?_eq_some_iff.1 hh).1]; exact hh, r⟩

def RowAt (w : World) (l : List (Int × Int)) (k : Nat) (v : Value) (wr : World) : Prop :=
  wr.ownsRow w.heap.size 9 1 v k (strT (l.take k)) ∧ Below w.heap.size w wr

/-- The whole row, as strings.Join is told of it. -/
theorem row_join {w wr : World} {l : List (Int × Int)} {v : Value} (h : RowAt w l l.length v wr) (h1 : 1 ≤ l.length) :
    ∃ g cap, v = .slice (some ⟨g, 0, none⟩) l.length cap ∧ g < wr.heap.size ∧ l.length ≤ cap ∧ ∀ (j : Nat) x, (l.map fun d => (⟨(tx d).toArray⟩ : ByteArray))[j]? = some x → wr.cell? ⟨g, 0 + j, none⟩ = some (.string x) := by
  have ho := h.1
  rw [List.take_length] at ho
  obtain ⟨a, c, rfl, hr, hlen, -, -⟩ := Reads.own ho
  obtain ⟨hl, h2 | ⟨g, cap, cur, hv, hg, hh, hn, hcap, hcs, htk⟩⟩ := ho
  · have := h2.2; omega
  · cases hv
    refine ⟨g, _, rfl, (Array.getElem?_eq_some_iff.1 hh).1, hn, fun j x hj => ?_⟩
    rcases hr with hr | ⟨b, off, he, hlt, hc⟩
    · simp [strT] at hr; rw [hr] at h1; simp at h1
    · cases he
      rw [List.getElem?_map] at hj
      obtain ⟨d, hd, rfl⟩ := Option.map_eq_some_iff.1 hj
      have hjl : j < l.length := (List.getElem?_eq_some_iff.1 hd).1
      rw [hc j (by simpa [strT] using hjl)]
      simp [strT, hd]

set_option maxHeartbeats 3200000 in
set_option maxRecDepth 100000 in
theorem impl_any (l : List (Int × Int)) (a : Option Addr) (c : Nat) (w : World) (hl : (l.length : Int) ≤ 1000000000000) (h : Reads w a (darts l)) :
    Calls Tryd.prog 16 #[.slice a l.length c] w fun e w' => e = .returned (textV l) ∧ Below w.heap.size w w' := by
  have HR := Lib.hid h; clear h
  have hbad : listB l 1 9 = false → textV l = .tuple #[.string ⟨#[]⟩, .bool false] := fun hq => by simp [textV, textB, hq]
  by_cases hlo : (l.length : Int) < 1
  · rw [hbad (by rw [Bool.eq_false_iff]; intro e; simp only [listB, inR, Bool.and_eq_true, decide_eq_true_eq] at e; omega)]
    clear hbad
    go_enter Tryd.func16, Tryd.ntmps16
    go_wp2_with fail
    go_ret2
    exact ⟨rfl, Below.refl _ _⟩
  by_cases hhi : (9 : Int) < (l.length : Int)
  · rw [hbad (by rw [Bool.eq_false_iff]; intro e; simp only [listB, inR, Bool.and_eq_true, decide_eq_true_eq] at e; omega)]
    clear hbad
    go_enter Tryd.func16, Tryd.ntmps16
    go_wp2_with fail
    go_ret2
    exact ⟨rfl, Below.refl _ _⟩
  have b1 : (1 : Int) ≤ (l.length : Int) := by omega
  have b9 : (l.length : Int) ≤ 9 := by omega
  cases hg : allGood l
  · rw [hbad (by rw [Bool.eq_false_iff]; intro e; simp only [listB, inR, Bool.and_eq_true, decide_eq_true_eq] at e; rw [hg] at e; exact absurd e.2 (by simp))]
    clear hbad
    have HG := Lib.hid hg; clear hg
    go_enter Tryd.func16, Tryd.ntmps16
    go_wp2_with fail
    refine (areDarts_any l _ _ _ (by omega) HR.out).mono ?_; rintro r w1 ⟨rfl, bd1⟩
    rw [HG.out]
    go_wp2_with fail
    refine bodyPost_ret (v := .tuple #[.string ⟨#[]⟩, .bool false]) (by simp [results, Tryd.results16, go_sem]) rfl ⟨rfl, bd1⟩
  · have hv : textV l = .tuple #[.string ⟨(textsL l).toArray⟩, .bool true] := by
      have hq : listB l 1 9 = true := by simp only [listB, inR, Bool.and_eq_true, decide_eq_true_eq]; exact ⟨⟨by omega, by omega⟩, hg⟩
      simp [textV, textB, hq]
    rw [hv]; clear hv hbad
    have HG := Lib.hid hg; clear hg
    go_enter Tryd.func16, Tryd.ntmps16
    go_wp2_with fail
    refine (areDarts_any l _ _ _ (by omega) HR.out).mono ?_; rintro r w1 ⟨rfl, bd1⟩
    rw [HG.out]
    have hRow : RowAt w l 0 (.slice none 0 0) w1 := ⟨⟨rfl, .inl ⟨rfl, rfl⟩⟩, bd1⟩
    have HRow := Lib.hid hRow; clear hRow bd1
    go_wp2_with fail
    go_loopw [4, 24] (fun v i wr => ∃ k : Nat, i = .int .i64 k ∧ k ≤ l.length ∧ Hid (RowAt w l k v wr)) (fun _ i _ => l.length - (intOf i).toNat)
    case atStart => exact ⟨0, rfl, Nat.zero_le _, HRow⟩
    case round =>
      clear HRow
      obtain ⟨k, rfl, hk, hRw⟩ := hrel
      by_cases hlt : k < l.length
      · obtain ⟨hown, hbel⟩ := hRw.out
        clear hRw
        obtain ⟨b, off, ha, _, hc⟩ := dcells_of_reads (HR.out.old hbel) (by omega)
        subst ha
        obtain ⟨c0, c1⟩ := hc k hlt
        have hb : (k : Int) < (l.length : Int) := by omega
        clear hc
        have hst := strT_step hlt
        have HS := Lib.hid hst; clear hst
        have hsy := says _ (allGood_get HG.out k hlt)
        generalize l.getD k (0, 0) = x at *
        have HT := Lib.hid hsy.2; clear hsy
        obtain ⟨x1, x2⟩ := x
        simp only at c0 c1
        have zb := hbel.size
        obtain ⟨i0, hi, hz0, hz1, hz2⟩ := info_parts infoStr
        have HI := Lib.hid (And.intro hi (And.intro hz0 (And.intro hz1 hz2))); clear hi hz0 hz1 hz2
        have HH := Lib.hid (And.intro hown hbel); clear hown hbel
        generalize tx (x1, x2) = T at *
        go_wp2_with fail
        refine (HT.out _).mono ?_; rintro e w2 ⟨rfl, b2⟩
        have hown2 := owns_below (HH.out.1.alloc _) b2
        have hbel2 := (HH.out.2.alloc zb _).trans (b2.mono (by simp; omega))
        have hbase := hbel2.size
        have H2 := Lib.hid (And.intro hown2 hbel2); clear hown2 hbel2 b2 HH c0 c1 zb
        go_wp2_with (at_builtin; refine wpList_append_own_at _ rfl _ _ 50 rfl w.heap.size 9 i0 (.string ⟨#[]⟩) 1 16 Tryd.underlying50 HI.out.1 HI.out.2.1 HI.out.2.2.1 HI.out.2.2.2 rfl (by decide) _ _ _ rfl (H2.out.1.alloc _) ⟨w2.heap.size, 0, none⟩ 1 1 [.string ⟨T.toArray⟩] rfl rfl (cell_one_new w2 (.string ⟨T.toArray⟩) 9) ?_ ?_ ?_ ?_ ?_)
        · intro u hu; simp at hu; rcases hu with rfl; rfl
        · unfold maxLen; omega
        · omega
        · simp; omega
        intro v' w3 hown3 hgrow _ _
        have hbel3 : Below w.heap.size w w3 := (H2.out.2.alloc H2.out.2.size _).grown hgrow (by simp; omega) (fun g hg => by
          obtain ⟨_, h | ⟨g', cap, cur, hv, hb', _⟩⟩ := H2.out.1
          · rw [h.1] at hg; cases hg
          · rw [hv] at hg; simp [Value.ownBlock] at hg; omega)
        have hRow : RowAt w l (k + 1) v' w3 := ⟨by rw [HS.out]; exact hown3, hbel3⟩
        have H3 := Lib.hid hRow; clear hown3 hgrow hRow hbel3
        go_wp2
        go_roundw
        case rel => exact ⟨k + 1, by go_num, by omega, H3⟩
        case measure => simp [intOf]; omega
      · obtain rfl : k = l.length := by omega
        obtain ⟨g, cap, rfl, hg, hcap, hcs⟩ := row_join hRw.out (by omega)
        have HB := Lib.hid hRw.out.2; clear hRw
        have hL : Lib.join (((l.map fun d => (⟨(tx d).toArray⟩ : ByteArray))).map (·.data.toList)) (⟨#[45]⟩ : ByteArray).data.toList = textsL l := by
          unfold textsL partsD; rw [List.map_map]; rfl
        have hlen := texts_len (l := l) l.length (Nat.le_refl _)
        rw [List.take_length] at hlen
        have hj := Tryd.strings_Join g 0 cap (l.map fun d => ⟨(tx d).toArray⟩) ⟨#[45]⟩ wr hcs hg (by rw [List.length_map]; omega) (by rw [List.length_map]; exact hcap) (by rw [hL]; omega)
        rw [hL, List.length_map] at hj
        have HJ := Lib.hid hj; clear hj hcs hL hlen
        have zb := HB.out.size
        go_wp2_with fail
        refine HJ.out.mono ?_; rintro e w4 ⟨rfl, b4⟩
        have HB4 := Lib.hid (HB.out.trans (b4.mono zb)); clear b4 HB HJ
        go_wp2_with fail
        refine bodyPost_ret (v := .tuple #[.string ⟨(textsL l).toArray⟩, .bool true]) (by simp [results, Tryd.results16, go_sem]) rfl ⟨rfl, HB4.out⟩

set_option maxHeartbeats 1600000 in
theorem walk (a : Option Addr) (n c : Nat) (l : List (Int × Int)) (w : World) (h : l.length = n ∧ (n : Int) ≤ 9223372036854775807 ∧ Reads w a (darts l)) :
    Calls Tryd.prog 5 #[.slice a n c] w fun e w' => e = .returned (.bool true) ∧ Below w.heap.size w w' := by
  obtain ⟨rfl, hmx, hr⟩ := h
  by_cases hsz : (1048576 : Int) < (l.length : Int)
  · have hz : szN 1048576 l.length = -1 := by unfold szN; omega
    have HZ := Lib.hid hz; clear hz hr
    go_enter Tryd.func5, Tryd.ntmps5
    go_wp2_with fail
    refine (szDartS_any _ _ _ _ _ hmx (by omega) (by omega)).mono ?_; rintro e w1 ⟨rfl, rfl⟩
    rw [HZ.out]
    go_wp2_with fail
    go_ret
    exact ⟨rfl, Below.refl _ _⟩
  · have hz : 0 ≤ szN 1048576 l.length := by unfold szN; omega
    have HR := Lib.hid hr; clear hr
    have hl : (l.length : Int) ≤ 1048576 := by omega
    have hl2 : (l.length : Int) ≤ 1000000000000 := by omega
    clear hsz
    go_enter Tryd.func5, Tryd.ntmps5
    go_wp2_with fail
    refine (szDartS_any _ _ _ _ _ hmx (by omega) (by omega)).mono ?_; rintro e w1 ⟨rfl, rfl⟩
    generalize szN 1048576 l.length = sz at *
    go_wp2_with fail
    refine (toDartS_any l _ _ _ hl HR.out).mono ?_; rintro e w1 ⟨g1, rfl, hg1, hf1, b1⟩
    go_wp2_with fail
    refine (spec_any l _ _ _ hl2 hf1.reads).mono ?_; rintro e w2 ⟨rfl, b2⟩
    have HB2 := Lib.hid (b1.trans (b2.mono b1.size)); clear b1 b2 hf1
    rw [textV_eq]
    go_wp2_with fail
    refine (toDartS_any l _ _ _ hl (HR.out.old HB2.out)).mono ?_; rintro e w3 ⟨g2, rfl, hg2, hf2, b3⟩
    have HB3 := Lib.hid (HB2.out.trans (b3.mono HB2.out.size)); clear b3 HB2
    go_wp2_with fail
    refine (impl_any l _ _ _ hl2 hf2.reads).mono ?_; rintro e w4 ⟨rfl, b4⟩
    have HB4 := Lib.hid (HB3.out.trans (b4.mono HB3.out.size)); clear HB3
    have hf4 := hf2.keep b4
    clear b4 hf2
    rw [textV_eq]
    have q2 : (listB l 1 9 != listB l 1 9) = false := by simp
    go_wp2_with fail
    refine (toDartS_any l _ _ _ hl (HR.out.old HB4.out)).mono ?_; rintro e w5 ⟨g3, rfl, hg3, hf5, b5⟩
    have HB5 := Lib.hid (HB4.out.trans (b5.mono HB4.out.size)); clear HB4
    have hf6 := hf4.keep b5
    clear b5 hf4
    go_wp2_with fail
    refine (eqDartS_any l l _ _ _ _ _ hl2 hl2 hf6.reads hf5.reads).mono ?_; rintro e w6 ⟨rfl, b6⟩
    have HB6 := Lib.hid (HB5.out.trans (b6.mono HB5.out.size)); clear HB5 b6
    rw [show SameD l l = true from by simp [SameD]]
    go_wp2_with fail
    go_ret
    exact ⟨rfl, HB6.out⟩

end Go.Proofs.YtbcihnecbplefaaDoor.ExDartsText
