/-
  Goals: the text of kinds: the program's.
-/
import Derived.Test.YtbgdngfjeikheaaDoorGoTx
import Derived.Test.YtbgdngfjeikheaaDoorGoLaw
namespace Go.Proofs.YtbgdngfjeikheaaDoor
open Go.RowKit
set_option linter.unusedVariables false
set_option linter.unusedSimpArgs false

theorem infoStrK : (Tryd.prog.info? 9).map (fun i => (i.zero, i.size, i.bytes)) = some (some (.string ⟨#[]⟩), 1, 16) := by kernel_rfl
theorem cell_one_newK (w : World) (v : Value) (t : TypeId) : ∀ j' u, ([v] : List Value)[j']? = some u → (w.alloc (.cells #[v] t)).cell? ((⟨w.heap.size, 0, none⟩ : Addr).add j') = some u := by
  intro j' u hu
  have e0 : j' = 0 := by have := (List.getElem?_eq_some_iff.1 hu).1; simp at this; omega
  subst e0
  simp at hu; subst hu
  have e : (⟨w.heap.size, 0, none⟩ : Addr).add 0 = ⟨w.heap.size, 0, none⟩ := by unfold Addr.add; split <;> simp_all
  rw [e]
  exact cell_of_row _ _ 0 _ _ _ (heap_alloc_last w _)
def strK (l : List Int) : List Value := l.map fun p => Value.string ⟨(txK p).toArray⟩
theorem strK_step {l : List Int} {k : Nat} (hk : k < l.length) : strK (l.take (k + 1)) = strK (l.take k) ++ [.string ⟨(txK (l.getD k 0)).toArray⟩] := by
  have hd : l.getD k 0 = l[k] := by simp [hk]
  rw [hd, List.take_succ_eq_append_getElem hk]
  unfold strK; rw [List.map_append]; rfl
def RowS (w : World) (l : List Int) (k : Nat) (v : Value) (wr : World) : Prop := wr.ownsRow w.heap.size 9 1 v k (strK (l.take k)) ∧ Below w.heap.size w wr
theorem rowS_join {w wr : World} {l : List Int} {v : Value} (h : RowS w l l.length v wr) (h1 : 1 ≤ l.length) :
    ∃ g cap, v = .slice (some ⟨g, 0, none⟩) l.length cap ∧ g < wr.heap.size ∧ l.length ≤ cap ∧ ∀ (j : Nat) x, (l.map fun p => (⟨(txK p).toArray⟩ : ByteArray))[j]? = some x → wr.cell? ⟨g, 0 + j, none⟩ = some (.string x) := by
  have ho := h.1
  rw [List.take_length] at ho
  obtain ⟨a, c, rfl, hr, hlen, -, -⟩ := Reads.own ho
  obtain ⟨hl, h2 | ⟨g, cap, cur, hv, hg, hh, hn, hcap, hcs, htk⟩⟩ := ho
  · have := h2.2; omega
  · cases hv
    refine ⟨g, _, rfl, (Array.getElem?_eq_some_iff.1 hh).1, hn, fun j x hj => ?_⟩
    rcases hr with hr | ⟨b, off, he, hlt, hc⟩
    · simp [strK] at hr; rw [hr] at h1; simp at h1
    · cases he
      rw [List.getElem?_map] at hj
      obtain ⟨d, hd, rfl⟩ := Option.map_eq_some_iff.1 hj
      have hjl : j < l.length := (List.getElem?_eq_some_iff.1 hd).1
      rw [hc j (by simpa [strK] using hjl)]
      simp [strK, hd]

set_option maxHeartbeats 1600000 in
set_option maxRecDepth 100000 in
theorem joinInts_any (ks : List Int) (a : Option Addr) (c : Nat) (w : World) (h1 : 1 ≤ ks.length) (h5 : ks.length ≤ 5) (hk : ∀ x ∈ ks, 1 ≤ x ∧ x ≤ 20) (h : Reads w a (ints ks)) :
    Calls Tryd.prog 94 #[.slice a ks.length c, .string ⟨#[45]⟩, .func (.func 66) #[] #[]] w fun e w' => e = .returned (.string ⟨(textsK ks).toArray⟩) ∧ Below w.heap.size w w' := by
  have HK := Lib.hid hk; clear hk
  have HR := Lib.hid h; clear h
  have hl : (ks.length : Int) ≤ 5 := by omega
  obtain ⟨i0, hi, hz0, hz1, hz2⟩ := info_parts infoStrK
  have HI := Lib.hid (And.intro hi (And.intro hz0 (And.intro hz1 hz2))); clear hi hz0 hz1 hz2
  have HRow : Hid (RowS w ks 0 (.slice none 0 0) w) := ⟨⟨rfl, .inl ⟨rfl, rfl⟩⟩, Below.refl _ _⟩
  go_enter Tryd.func94, Tryd.ntmps94
  go_wp2_with fail
  go_loopw [7, 12] (fun v i wr => ∃ k : Nat, i = .int .i64 k ∧ k ≤ ks.length ∧ Hid (RowS w ks k v wr)) (fun _ i _ => ks.length - (intOf i).toNat)
  case atStart => exact ⟨0, rfl, Nat.zero_le _, HRow⟩
  case round =>
    clear HRow
    obtain ⟨k, rfl, hk, hRw⟩ := hrel
    by_cases hlt : k < ks.length
    · obtain ⟨hown, hbel⟩ := hRw.out
      clear hRw
      obtain ⟨b, off, ha, _, hc⟩ := cells_of_reads (HR.out.old hbel) (by omega)
      subst ha
      have c0 := hc k hlt
      have hb : (k : Int) < (ks.length : Int) := by omega
      clear hc
      have hst := strK_step hlt
      have HS := Lib.hid hst; clear hst
      obtain ⟨p1, p2⟩ := HK.out (ks.getD k 0) (by simp [hlt])
      have HT := Lib.hid (numK _ p1 p2).2
      generalize ks.getD k 0 = x at *
      have zb := hbel.size
      have HH := Lib.hid (And.intro hown hbel); clear hown hbel
      generalize txK x = T at *
      go_wp2_with fail
      refine (HT.out _).mono ?_; rintro e w2 ⟨rfl, rfl⟩
      go_wp2_with (at_builtin; refine wpList_append_own_at _ rfl _ _ 107 rfl w.heap.size 9 i0 (.string ⟨#[]⟩) 1 16 Tryd.underlying107 HI.out.1 HI.out.2.1 HI.out.2.2.1 HI.out.2.2.2 rfl (by decide) _ _ _ rfl (HH.out.1.alloc _) ⟨w2.heap.size, 0, none⟩ 1 1 [.string ⟨T.toArray⟩] rfl rfl (cell_one_newK w2 (.string ⟨T.toArray⟩) 9) ?_ ?_ ?_ ?_ ?_)
      · intro u hu; simp at hu; rcases hu with rfl; rfl
      · unfold maxLen; omega
      · omega
      · simp; omega
      intro v' w3 hown3 hgrow _ _
      have hbel3 : Below w.heap.size w w3 := (HH.out.2.alloc zb _).grown hgrow (by simp; omega) (fun g hg => by
        obtain ⟨_, h | ⟨g', cap, cur, hv, hb', _⟩⟩ := HH.out.1
        · rw [h.1] at hg; cases hg
        · rw [hv] at hg; simp [Value.ownBlock] at hg; omega)
      have H3 : Hid (RowS w ks (k + 1) v' w3) := ⟨by rw [HS.out]; exact hown3, hbel3⟩
      clear hown3 hgrow hbel3
      go_wp2
      go_roundw
      case rel => exact ⟨k + 1, by go_num, by omega, H3⟩
      case measure => simp [intOf]; omega
    · obtain rfl : k = ks.length := by omega
      obtain ⟨g, cap, rfl, hg, hcap, hcs⟩ := rowS_join hRw.out (by omega)
      have HB := Lib.hid hRw.out.2; clear hRw
      have hL : Lib.join (((ks.map fun p => (⟨(txK p).toArray⟩ : ByteArray))).map (·.data.toList)) (⟨#[45]⟩ : ByteArray).data.toList = textsK ks := by
        unfold textsK; rw [List.map_map]; rfl
      have hlen := textsK_len (l := ks) ks.length (Nat.le_refl _)
      rw [List.take_length] at hlen
      have hj := Tryd.strings_Join g 0 cap (ks.map fun p => ⟨(txK p).toArray⟩) ⟨#[45]⟩ wr hcs hg (by rw [List.length_map]; omega) (by rw [List.length_map]; exact hcap) (by rw [hL]; omega)
      rw [hL, List.length_map] at hj
      have HJ := Lib.hid hj; clear hj hcs hL hlen
      have zb := HB.out.size
      go_wp2_with fail
      refine HJ.out.mono ?_; rintro e w4 ⟨rfl, b4⟩
      have HB4 := Lib.hid (HB.out.trans (b4.mono zb)); clear b4 HB HJ
      go_wp2_with fail
      go_ret
      exact ⟨rfl, HB4.out⟩

set_option maxHeartbeats 800000 in
theorem implKT_any (ks : List Int) (a : Option Addr) (c : Nat) (w : World) (hl : (ks.length : Int) ≤ 1000000000000) (h : Reads w a (ints ks)) :
    Calls Tryd.prog 40 #[.slice a ks.length c] w fun e w' => e = .returned (.tuple #[.string (textKV ks), .bool (goodK ks)]) ∧ Below w.heap.size w w' := by
  have HQ := Lib.hid (implAreKinds_any ks a c w hl h)
  cases hg : goodK ks
  · have e1 : textKV ks = ⟨#[]⟩ := by simp [textKV, hg]
    rw [e1]; clear e1
    have HG := Lib.hid hg; clear hg h
    go_enter Tryd.func40, Tryd.ntmps40
    go_wp2_with fail
    refine HQ.out.mono ?_; rintro e w1 ⟨rfl, b1⟩
    rw [HG.out]
    go_wp2_with fail
    refine bodyPost_ret (v := .tuple #[.string ⟨#[]⟩, .bool false]) (by simp [results, Tryd.results40, go_sem]) rfl ⟨rfl, b1⟩
  · have e1 : textKV ks = ⟨(textsK ks).toArray⟩ := by simp [textKV, hg]
    rw [e1]; clear e1
    obtain ⟨h1, h5⟩ := good_len hg
    have HJ := Lib.hid (fun W (hb : Below w.heap.size w W) => joinInts_any ks a c W h1 h5 (good_mem hg) (h.old hb))
    have HG := Lib.hid hg; clear hg h
    generalize textsK ks = T at *
    go_enter Tryd.func40, Tryd.ntmps40
    go_wp2_with fail
    refine HQ.out.mono ?_; rintro e w1 ⟨rfl, b1⟩
    rw [HG.out]
    have HB1 := Lib.hid b1; clear b1
    go_wp2_with fail
    refine (HJ.out _ HB1.out).mono ?_; rintro e w2 ⟨rfl, b2⟩
    have HB2 := Lib.hid (HB1.out.trans (b2.mono HB1.out.size)); clear b2
    go_wp2_with fail
    refine bodyPost_ret (v := .tuple #[.string ⟨T.toArray⟩, .bool true]) (by simp [results, Tryd.results40, go_sem]) rfl ⟨rfl, HB2.out⟩
end Go.Proofs.YtbgdngfjeikheaaDoor
