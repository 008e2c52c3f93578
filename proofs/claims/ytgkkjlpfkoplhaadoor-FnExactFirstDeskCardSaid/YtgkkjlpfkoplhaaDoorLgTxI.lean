/-
  Leagues as texts: the program.
-/
import Derived.Test.YtgkkjlpfkoplhaaDoorLgTxS
import Derived.Maps.AppendAt
import Derived.OwnWalk
namespace Go.Proofs.YtgkkjlpfkoplhaaDoor
open Go.RowKit
set_option linter.unusedVariables false
set_option linter.unusedSimpArgs false

set_option maxHeartbeats 3200000 in
set_option maxRecDepth 100000 in
theorem resultText_any (n0 n1 n2 n3 : Nat) (x0 : n0 < 100) (x1 : n1 < 100) (x2 : n2 < 100) (x3 : n3 < 100) (w : World) :
    Calls Tryd.prog 79 #[.agg #[.int .i64 n0, .int .i64 n1, .int .i64 n2, .int .i64 n3]] w fun e w' => e = .returned (.string ⟨(txN n0 n1 n2 n3).toArray⟩) ∧ Below w.heap.size w w' := by
  have IH := Lib.hid (And.intro (itoa_lg n0 x0) (And.intro (itoa_lg n1 x1) (And.intro (itoa_lg n2 x2) (itoa_lg n3 x3))))
  have htx : txN n0 n1 n2 n3 = (((((numF 1 n0 ++ [45]) ++ numF 1 n1) ++ [61]) ++ numF 1 n2) ++ [58]) ++ numF 1 n3 := rfl
  rw [htx]; clear htx
  have l0 := (numF_len 1 n0).2
  have l1 := (numF_len 1 n1).2
  have l2 := (numF_len 1 n2).2
  have l3 := (numF_len 1 n3).2
  generalize numF 1 n0 = N0 at *
  generalize numF 1 n1 = N1 at *
  generalize numF 1 n2 = N2 at *
  generalize numF 1 n3 = N3 at *
  have a1 := fun W => addL N0 [45] (by omega) (by simp) W
  have a2 := fun W => addL (N0 ++ [45]) N1 (by simp; omega) (by omega) W
  have a3 := fun W => addL ((N0 ++ [45]) ++ N1) [61] (by simp; omega) (by simp) W
  have a4 := fun W => addL (((N0 ++ [45]) ++ N1) ++ [61]) N2 (by simp; omega) (by omega) W
  have a5 := fun W => addL ((((N0 ++ [45]) ++ N1) ++ [61]) ++ N2) [58] (by simp; omega) (by simp) W
  have a6 := fun W => addL (((((N0 ++ [45]) ++ N1) ++ [61]) ++ N2) ++ [58]) N3 (by simp; omega) (by omega) W
  generalize (((((N0 ++ [45]) ++ N1) ++ [61]) ++ N2) ++ [58]) ++ N3 = T6 at *
  generalize ((((N0 ++ [45]) ++ N1) ++ [61]) ++ N2) ++ [58] = T5 at *
  generalize (((N0 ++ [45]) ++ N1) ++ [61]) ++ N2 = T4 at *
  generalize ((N0 ++ [45]) ++ N1) ++ [61] = T3 at *
  generalize (N0 ++ [45]) ++ N1 = T2 at *
  generalize N0 ++ [45] = T1 at *
  clear l0 l1 l2 l3 x0 x1 x2 x3
  have P0 := ObAt.new w 50 #[.int .i64 n0, .int .i64 n1, .int .i64 n2, .int .i64 n3]
  have B0 := Lib.hid (Below.ofNew (w := w) (.cells #[.int .i64 n0, .int .i64 n1, .int .i64 n2, .int .i64 n3] 50))
  obtain ⟨c0, c1, c2, c3, -, -, -, -⟩ := P0.four
  clear P0
  go_enter Tryd.func79, Tryd.ntmps79
  go_wp2_with fail
  go_quiet ((go_at_call 77; (first | exact (IH.out.1 _).mono (fun _ _ h => ⟨h.1, _, h.2⟩) | exact (IH.out.2.1 _).mono (fun _ _ h => ⟨h.1, _, h.2⟩) | exact (IH.out.2.2.1 _).mono (fun _ _ h => ⟨h.1, _, h.2⟩) | exact (IH.out.2.2.2 _).mono (fun _ _ h => ⟨h.1, _, h.2⟩))))
  go_wp2
  go_ret
  exact ⟨rfl, below_drewN B0.out _⟩

theorem infoStrL : (Tryd.prog.info? 9).map (fun i => (i.zero, i.size, i.bytes)) = some (some (.string ⟨#[]⟩), 1, 16) := by kernel_rfl
def strR (l : List Rs) : List Value := l.map fun r => Value.string ⟨(txR r).toArray⟩
theorem strR_step {l : List Rs} {k : Nat} (hk : k < l.length) : strR (l.take (k + 1)) = strR (l.take k) ++ [.string ⟨(txR (l.getD k zR)).toArray⟩] := by
  rw [take_snoc zR l k hk]; unfold strR; rw [List.map_append]; rfl
def RowT (B : Nat) (w : World) (l : List Rs) (k : Nat) (v : Value) (wr : World) : Prop := wr.ownsRow B 9 1 v k (strR (l.take k)) ∧ Below B w wr
theorem lt_below {B : Nat} {e : TypeId} {k : Nat} {v : Value} {n : Nat} {xs : List Value} {w w' : World} (h : w.ownsRow B e k v n xs) (hb : Below w.heap.size w w') : w'.ownsRow B e k v n xs := by
  obtain ⟨h1, h2⟩ := h
  refine ⟨h1, ?_⟩
  rcases h2 with h2 | ⟨g, cap, cur, hv, hg, hh, r⟩
  · exact Or.inl h2
  · exact Or.inr ⟨g, cap, cur, hv, hg, by rw [hb.block g (Array.getElem?_eq_some_iff.1 hh).1]; exact hh, r⟩
theorem rowT_join {B : Nat} {w wr : World} {l : List Rs} {v : Value} (h : RowT B w l l.length v wr) :
    (l = [] ∧ v = .slice none 0 0) ∨ ∃ g cap, v = .slice (some ⟨g, 0, none⟩) l.length cap ∧ g < wr.heap.size ∧ l.length ≤ cap ∧ ∀ (j : Nat) x, (l.map fun r => (⟨(txR r).toArray⟩ : ByteArray))[j]? = some x → wr.cell? ⟨g, 0 + j, none⟩ = some (.string x) := by
  have ho := h.1
  rw [List.take_length] at ho
  obtain ⟨a, c, rfl, hr, hlen, -, -⟩ := Reads.own ho
  obtain ⟨hl, h2 | ⟨g, cap, cur, hv, hg, hh, hn, hcap, hcs, htk⟩⟩ := ho
  · exact .inl ⟨List.eq_nil_of_length_eq_zero h2.2, by have := h2.1; have h3 := h2.2; rw [h3] at this ⊢; exact this⟩
  · cases hv
    refine .inr ⟨g, _, rfl, (Array.getElem?_eq_some_iff.1 hh).1, hn, fun j x hj => ?_⟩
    rw [List.getElem?_map] at hj
    obtain ⟨d, hd, rfl⟩ := Option.map_eq_some_iff.1 hj
    have hjl : j < l.length := (List.getElem?_eq_some_iff.1 hd).1
    rcases hr with hr | ⟨b, off, he, hlt, hc⟩
    · simp [strR] at hr; rw [hr] at hjl; simp at hjl
    · cases he
      rw [hc j (by simpa [strR] using hjl)]
      simp [strR, hd]

theorem tx_keep {w X Y : World} {B : Nat} {r0 r1 : Value} (bd : Below X.heap.size X Y) (h : X.cell? ⟨B, 0, none⟩ = some r0 ∧ X.cell? ⟨B, 1, none⟩ = some r1 ∧ B < X.heap.size ∧ Below w.heap.size w X) :
    Y.cell? ⟨B, 0, none⟩ = some r0 ∧ Y.cell? ⟨B, 1, none⟩ = some r1 ∧ B < Y.heap.size ∧ Below w.heap.size w Y := by
  obtain ⟨h0, h1, h4, h5⟩ := h
  refine ⟨?_, ?_, Nat.lt_of_lt_of_le h4 bd.size, h5.trans (bd.mono h5.size)⟩
  · rw [bd.cell (p := ⟨B, 0, none⟩) h4]; exact h0
  · rw [bd.cell (p := ⟨B, 1, none⟩) h4]; exact h1

theorem joinR_any {B : Nat} {w wr : World} {l : List Rs} {v : Value} (h : RowT B w l l.length v wr) (hl : l.length ≤ 56) :
    Calls Tryd.prog 96 #[v, .string ⟨#[44]⟩] wr fun e w' => e = .returned (.string ⟨(rowsT l).toArray⟩) ∧ Below wr.heap.size wr w' := by
  rcases rowT_join h with ⟨rfl, rfl⟩ | ⟨g, cap, rfl, hg, hcap, hcs⟩
  · refine (Tryd.strings_Join_none none 0 ⟨#[44]⟩ wr).mono ?_
    rintro e w' ⟨rfl, rfl⟩
    exact ⟨rfl, Below.refl _ _⟩
  · have hL : Lib.join (((l.map fun r => (⟨(txR r).toArray⟩ : ByteArray))).map (·.data.toList)) (⟨#[44]⟩ : ByteArray).data.toList = rowsT l := by
      unfold rowsT; rw [List.map_map]; rfl
    have hlen := rowsT_len (l := l) l.length (Nat.le_refl _)
    rw [List.take_length] at hlen
    have hj := Tryd.strings_Join g 0 cap (l.map fun r => ⟨(txR r).toArray⟩) ⟨#[44]⟩ wr hcs hg (by rw [List.length_map]; omega) (by rw [List.length_map]; exact hcap) (by rw [hL]; omega)
    rw [hL, List.length_map] at hj
    exact hj

set_option maxHeartbeats 1600000 in
set_option maxRecDepth 100000 in
theorem joinResults_any (t wn : Int) (l : List Rs) (hg : goodL t wn l = true) (ad : Option Addr) (c : Nat) (w : World) (hr : Reads w ad (ress l)) :
    Calls Tryd.prog 78 #[.slice ad l.length c, .string ⟨#[44]⟩, .func (.func 79) #[] #[]] w fun e w' => e = .returned (.string ⟨(rowsT l).toArray⟩) ∧ Below w.heap.size w w' := by
  obtain ⟨t1, t2, w1, w2, h56⟩ := goodL_bd hg
  have HGD := Lib.hid (fun k hk => goodR_bd (goodL_get hg k hk)); clear hg
  have HJ := Lib.hid (fun (wr : World) (v : Value) (h : RowT w.heap.size w l l.length v wr) => joinR_any h h56)
  generalize rowsT l = RT at *
  have ln : (l.length : Int) ≤ 56 := by omega
  have HR := Lib.hid hr; clear hr
  have HTB := Lib.hid (And.intro t1 t2); clear t1 t2 w1 w2
  obtain ⟨i0, hi, hz0, hz1, hz2⟩ := info_parts infoStrL
  have HI := Lib.hid (And.intro hi (And.intro hz0 (And.intro hz1 hz2))); clear hi hz0 hz1 hz2
  have H0 : Hid (RowT w.heap.size w l 0 (.slice none 0 0) w) := ⟨⟨rfl, .inl ⟨rfl, rfl⟩⟩, Below.refl _ _⟩
  go_enter Tryd.func78, Tryd.ntmps78
  go_wp2_with fail
  go_loopw [7, 12] (fun v i wr => ∃ k : Nat, i = .int .i64 k ∧ k ≤ l.length ∧ Hid (RowT w.heap.size w l k v wr)) (fun _ i _ => l.length - (intOf i).toNat)
  case atStart => exact ⟨0, rfl, Nat.zero_le _, H0⟩
  case round =>
    clear H0
    obtain ⟨k, rfl, hk, hH⟩ := hrel
    by_cases hlt : k < l.length
    · have b1 : (k : Int) < (l.length : Int) := by omega
      obtain ⟨b, off, ha, _, hc⟩ := rcells_of_reads (HR.out.old hH.out.2) (by omega)
      subst ha
      obtain ⟨c0, c1, c2, c3⟩ := hc k hlt
      clear hc
      have hst := strR_step hlt
      obtain ⟨⟨x1, x2⟩, ⟨x3, x4⟩, -, ⟨x5, x6⟩, ⟨x7, x8⟩⟩ := HGD.out k hlt
      have HST := Lib.hid hst; clear hst
      have htb := HTB.out
      generalize l.getD k zR = r at *
      obtain ⟨r0, r1, r2, r3⟩ := r
      simp only at c0 c1 c2 c3 x1 x2 x3 x4 x5 x6 x7 x8
      obtain ⟨n0, rfl⟩ : ∃ n : Nat, r0 = n := ⟨r0.toNat, by omega⟩
      obtain ⟨n1, rfl⟩ : ∃ n : Nat, r1 = n := ⟨r1.toNat, by omega⟩
      obtain ⟨n2, rfl⟩ : ∃ n : Nat, r2 = n := ⟨r2.toNat, by omega⟩
      obtain ⟨n3, rfl⟩ : ∃ n : Nat, r3 = n := ⟨r3.toNat, by omega⟩
      have htx : txR ((n0 : Int), (n1 : Int), (n2 : Int), (n3 : Int)) = txN n0 n1 n2 n3 := rfl
      rw [htx] at HST
      have HT2 := Lib.hid (resultText_any n0 n1 n2 n3 (by omega) (by omega) (by omega) (by omega))
      clear htx x1 x2 x3 x4 x5 x6 x7 x8 htb
      generalize txN n0 n1 n2 n3 = TX at *
      have hbx := hH.out.2.alloc hH.out.2.size (.cells #[.int .i64 n0, .int .i64 n1, .int .i64 n2, .int .i64 n3] 50)
      have hox := hH.out.1.alloc (.cells #[.int .i64 n0, .int .i64 n1, .int .i64 n2, .int .i64 n3] 50)
      have HX := Lib.hid (And.intro hox hbx); clear hox hbx hH
      go_wp2_with fail
      refine (HT2.out _).mono ?_; rintro e w3 ⟨rfl, b3⟩
      have HX3 := Lib.hid (And.intro (lt_below HX.out.1 b3) (HX.out.2.trans (b3.mono HX.out.2.size))); clear b3 HX c0 c1 c2 c3
      have hbs := HX3.out.2.size
      have HN := Lib.hid (cell_one_new w3 (.string ⟨TX.toArray⟩) 9)
      go_wp2_with (at_builtin; refine wpList_append_own_at _ rfl _ _ 114 rfl w.heap.size 9 i0 (.string ⟨#[]⟩) 1 16 Tryd.underlying114 HI.out.1 HI.out.2.1 HI.out.2.2.1 HI.out.2.2.2 rfl (by decide) _ _ _ rfl (HX3.out.1.alloc _) ⟨w3.heap.size, 0, none⟩ 1 1 [.string ⟨TX.toArray⟩] rfl rfl HN.out ?_ ?_ ?_ ?_ ?_)
      · intro u hu; simp at hu; subst hu; rfl
      · unfold maxLen; omega
      · omega
      · simp; omega
      intro v' w5 hown5 hgrow _ _
      have hbel5 : Below w.heap.size w w5 := (HX3.out.2.alloc hbs _).grown hgrow (by simp; omega) (fun g hg => by
        obtain ⟨_, h | ⟨g', cap, cur, hv, hb', _⟩⟩ := HX3.out.1
        · rw [h.1] at hg; cases hg
        · rw [hv] at hg; simp [Value.ownBlock] at hg; omega)
      have H5 : Hid (RowT w.heap.size w l (k + 1) v' w5) := ⟨by rw [HST.out]; exact hown5, hbel5⟩
      clear hown5 hgrow hbel5
      go_wp2_with fail
      go_roundw
      case rel => exact ⟨k + 1, by go_num, by omega, H5⟩
      case measure => simp [intOf]; omega
    · obtain rfl : k = l.length := by omega
      go_wp2_with fail
      refine (HJ.out _ _ hH.out).mono ?_; rintro e w4 ⟨rfl, b4⟩
      have HB4 := Lib.hid (hH.out.2.trans (b4.mono hH.out.2.size)); clear b4 hH HJ
      go_wp2_with fail
      go_ret
      exact ⟨rfl, HB4.out⟩

theorem tx_keepL {w X Y : World} {B : Nat} {r0 r1 r2 : Value} (bd : Below X.heap.size X Y) (h : X.cell? ⟨B, 0, none⟩ = some r0 ∧ X.cell? ⟨B, 1, none⟩ = some r1 ∧ X.cell? ⟨B, 2, none⟩ = some r2 ∧ B < X.heap.size ∧ Below w.heap.size w X) :
    Y.cell? ⟨B, 0, none⟩ = some r0 ∧ Y.cell? ⟨B, 1, none⟩ = some r1 ∧ Y.cell? ⟨B, 2, none⟩ = some r2 ∧ B < Y.heap.size ∧ Below w.heap.size w Y := by
  obtain ⟨h0, h1, h2, h4, h5⟩ := h
  refine ⟨?_, ?_, ?_, Nat.lt_of_lt_of_le h4 bd.size, h5.trans (bd.mono h5.size)⟩
  · rw [bd.cell (p := ⟨B, 0, none⟩) h4]; exact h0
  · rw [bd.cell (p := ⟨B, 1, none⟩) h4]; exact h1
  · rw [bd.cell (p := ⟨B, 2, none⟩) h4]; exact h2

set_option maxHeartbeats 1600000 in
set_option maxRecDepth 100000 in
theorem implLeagueText_any (t wn : Int) (l : List Rs) (ad : Option Addr) (c : Nat) (w : World) (hl : (l.length : Int) ≤ 1000000000000) (hlc : l.length ≤ c) (hr : Reads w ad (ress l)) :
    Calls Tryd.prog 53 #[.agg #[.int .i64 t, .int .i64 wn, .slice ad l.length c]] w fun e w' => e = .returned (.tuple #[.string (lgTV t wn l), .bool (goodL t wn l)]) ∧ Below w.heap.size w w' := by
  have HA := Lib.hid (And.intro (ObAt.new w 34 #[.int .i64 t, .int .i64 wn, .slice ad l.length c]) (Below.ofNew (w := w) (.cells #[.int .i64 t, .int .i64 wn, .slice ad l.length c] 34)))
  have HIS := Lib.hid (isLeague_any t wn l ad c _ hl hlc (hr.old HA.out.2))
  cases hg : goodL t wn l
  · have e1 : lgTV t wn l = ⟨#[]⟩ := by unfold lgTV; rw [hg]; rfl
    rw [e1]
    rw [hg] at HIS
    clear e1 hg hr
    go_enter Tryd.func53, Tryd.ntmps53
    go_wp2_with fail
    refine HIS.out.mono ?_; rintro e w1 ⟨rfl, b1⟩
    have HB1 := Lib.hid (HA.out.2.trans (b1.mono HA.out.2.size)); clear b1
    go_wp2_with fail
    refine bodyPost_ret (v := .tuple #[.string ⟨#[]⟩, .bool false]) (by simp [results, Tryd.results53, go_sem]) rfl ⟨rfl, HB1.out⟩
  · obtain ⟨t1, t2, w1, w2, h56⟩ := goodL_bd hg
    have e1 : lgTV t wn l = ⟨(headT t wn ++ rowsT l).toArray⟩ := by unfold lgTV; rw [hg]; rfl
    rw [e1]
    rw [hg] at HIS
    have HJ := Lib.hid (fun (W : World) (hb : Below w.heap.size w W) => joinResults_any t wn l hg ad c W (hr.old hb))
    clear e1 hg hr
    obtain ⟨tn, rfl⟩ : ∃ n : Nat, t = n := ⟨t.toNat, by omega⟩
    obtain ⟨wnn, rfl⟩ : ∃ n : Nat, wn = n := ⟨wn.toNat, by omega⟩
    have IH := Lib.hid (And.intro (itoa_lg tn (by omega)) (itoa_lg wnn (by omega)))
    have la := (numF_len 1 tn).2
    have lb := (numF_len 1 wnn).2
    have lh := headT_len tn wnn
    have hrl := rowsT_len (l := l) l.length (Nat.le_refl _)
    rw [List.take_length] at hrl
    have e0 : headT tn wnn = ((numF 1 tn ++ [119]) ++ numF 1 wnn) ++ [124] := rfl
    have h1 := fun W => addL (numF 1 tn) [119] (by omega) (by simp) W
    have h2 := fun W => addL (numF 1 tn ++ [119]) (numF 1 wnn) (by simp; omega) (by omega) W
    have h3 := fun W => addL ((numF 1 tn ++ [119]) ++ numF 1 wnn) [124] (by simp; omega) (by simp) W
    have h4 := fun W => addL (headT tn wnn) (rowsT l) (by omega) (by omega) W
    rw [← e0] at h3
    clear e0 la lb lh hrl
    generalize hHR : headT (tn : Int) (wnn : Int) ++ rowsT l = HR2 at *
    generalize headT (tn : Int) (wnn : Int) = HT at *
    generalize rowsT l = RT at *
    clear hHR
    generalize numF 1 tn ++ [119] ++ numF 1 wnn = A2 at *
    generalize numF 1 tn ++ [119] = A1 at *
    generalize numF 1 tn = A0 at *
    generalize numF 1 wnn = B0 at *
    have HADD := Lib.hid (And.intro h1 (And.intro h2 (And.intro h3 h4))); clear h1 h2 h3 h4
    obtain ⟨p0, p1, p2, -, -, -⟩ := HA.out.1.three
    go_enter Tryd.func53, Tryd.ntmps53
    go_wp2_with fail
    refine HIS.out.mono ?_; rintro e w1 ⟨rfl, b1⟩
    have HB1 := Lib.hid (And.intro (HA.out.1.keep b1) (HA.out.2.trans (b1.mono HA.out.2.size))); clear b1 HA HIS p0 p1 p2
    have h1 := HADD.out.1
    have h2 := HADD.out.2.1
    have h3 := HADD.out.2.2.1
    have h4 := HADD.out.2.2.2
    go_wp2_with fail
    refine wp_region_held_drew (S := fun w' => w'.cell? ⟨w.heap.size, 0, none⟩ = some (.int .i64 tn) ∧ w'.cell? ⟨w.heap.size, 1, none⟩ = some (.int .i64 wnn) ∧ w'.cell? ⟨w.heap.size, 2, none⟩ = some (.slice ad l.length c) ∧ w.heap.size < w'.heap.size ∧ Below w.heap.size w w') (by kernel_rfl) ⟨HB1.out.1.cell 0, HB1.out.1.cell 1, HB1.out.1.cell 2, HB1.out.1.lt, Below.drew HB1.out.2⟩ (fun hHeld => ?_)
    (refine wpAnyH_take (i := 0) (v := ?_) rfl (by kernel_rfl) (by kernel_rfl) (by kernel_rfl) (fun _ _ _ h => h) (Or.inl ⟨by kernel_rfl, ?_⟩) (by assumption) ?_; rotate_left; focus (intro w hSw; (try dsimp only at hSw); go_simp; try with_reducible rfl); (try simp only [List.getElem_toArray, List.getElem_cons_succ, List.getElem_cons_zero, Act.put, List.setIfInBounds_toArray, List.set_cons_zero, List.set_cons_succ])); (refine wpAnyH_take (i := 1) (v := ?_) rfl (by kernel_rfl) (by kernel_rfl) (by kernel_rfl) (fun _ _ _ h => h) (Or.inl ⟨by kernel_rfl, ?_⟩) (by assumption) ?_; rotate_left; focus (intro w hSw; (try dsimp only at hSw); go_simp; try with_reducible rfl); (try simp only [List.getElem_toArray, List.getElem_cons_succ, List.getElem_cons_zero, Act.put, List.setIfInBounds_toArray, List.set_cons_zero, List.set_cons_succ])); (refine wpAnyH_take (i := 4) (v := ?_) rfl (by kernel_rfl) (by kernel_rfl) (by kernel_rfl) (fun _ _ _ h => h) (Or.inl ⟨by kernel_rfl, ?_⟩) (by assumption) ?_; rotate_left; focus (intro w hSw; (try dsimp only at hSw); go_simp; try with_reducible rfl); (try simp only [List.getElem_toArray, List.getElem_cons_succ, List.getElem_cons_zero, Act.put, List.setIfInBounds_toArray, List.set_cons_zero, List.set_cons_succ])); (refine wpAnyH_take (i := 5) (v := ?_) rfl (by kernel_rfl) (by kernel_rfl) (by kernel_rfl) (fun _ _ _ h => h) (Or.inl ⟨by kernel_rfl, ?_⟩) (by assumption) ?_; rotate_left; focus (intro w hSw; (try dsimp only at hSw); go_simp; try with_reducible rfl); (try simp only [List.getElem_toArray, List.getElem_cons_succ, List.getElem_cons_zero, Act.put, List.setIfInBounds_toArray, List.set_cons_zero, List.set_cons_succ])); (refine wpAnyH_take (i := 9) (v := ?_) rfl (by kernel_rfl) (by kernel_rfl) (by kernel_rfl) (fun _ _ _ h => h) (Or.inl ⟨by kernel_rfl, ?_⟩) (by assumption) ?_; rotate_left; focus (intro w hSw; (try dsimp only at hSw); go_simp; try with_reducible rfl); (try simp only [List.getElem_toArray, List.getElem_cons_succ, List.getElem_cons_zero, Act.put, List.setIfInBounds_toArray, List.set_cons_zero, List.set_cons_succ])); (refine wpAnyH_take (i := 10) (v := ?_) rfl (by kernel_rfl) (by kernel_rfl) (by kernel_rfl) (fun _ _ _ h => h) (Or.inl ⟨by kernel_rfl, ?_⟩) (by assumption) ?_; rotate_left; focus (intro w hSw; (try dsimp only at hSw); go_simp; try with_reducible rfl); (try simp only [List.getElem_toArray, List.getElem_cons_succ, List.getElem_cons_zero, Act.put, List.setIfInBounds_toArray, List.set_cons_zero, List.set_cons_succ]))
    refine wpAnyH_ready (rs := [2]) (by kernel_rfl) (by simp) ?_; refine AllReadyH.cons rfl (fun K hK => ?_) AllReadyH.nil
    go_simp
    go_at_call 77
    refine (IH.out.1 _).mono ?_; rintro e w' ⟨rfl, rfl⟩
    have KS := Lib.hid hHeld; clear hHeld
    go_wp2_with fail
    first
      | refine hK.out _ _ KS.out (fun hHeld => ?_)
      | refine hK _ _ KS.out (fun hHeld => ?_)
    clear hK K KS
    (try simp only [List.getElem_toArray, List.getElem_cons_succ, List.getElem_cons_zero, Act.put, List.setIfInBounds_toArray, List.set_cons_zero, List.set_cons_succ])
    (refine wpAnyH_take (i := 3) (v := ?_) rfl (by kernel_rfl) (by kernel_rfl) (by kernel_rfl) (fun _ _ _ h => h) (Or.inl ⟨by kernel_rfl, ?_⟩) (by assumption) ?_; rotate_left; focus (intro w hSw; (try dsimp only at hSw); go_simp; try with_reducible rfl); (try simp only [List.getElem_toArray, List.getElem_cons_succ, List.getElem_cons_zero, Act.put, List.setIfInBounds_toArray, List.set_cons_zero, List.set_cons_succ]))
    refine wpAnyH_ready (rs := [6]) (by kernel_rfl) (by simp) ?_; refine AllReadyH.cons rfl (fun K hK => ?_) AllReadyH.nil
    go_simp
    go_at_call 77
    refine (IH.out.2 _).mono ?_; rintro e w' ⟨rfl, rfl⟩
    have KS := Lib.hid hHeld; clear hHeld
    go_wp2_with fail
    first
      | refine hK.out _ _ KS.out (fun hHeld => ?_)
      | refine hK _ _ KS.out (fun hHeld => ?_)
    clear hK K KS
    (try simp only [List.getElem_toArray, List.getElem_cons_succ, List.getElem_cons_zero, Act.put, List.setIfInBounds_toArray, List.set_cons_zero, List.set_cons_succ])
    (refine wpAnyH_take (i := 7) (v := ?_) rfl (by kernel_rfl) (by kernel_rfl) (by kernel_rfl) (fun _ _ _ h => h) (Or.inl ⟨by kernel_rfl, ?_⟩) (by assumption) ?_; rotate_left; focus (intro w hSw; (try dsimp only at hSw); go_simp; try with_reducible rfl); (try simp only [List.getElem_toArray, List.getElem_cons_succ, List.getElem_cons_zero, Act.put, List.setIfInBounds_toArray, List.set_cons_zero, List.set_cons_succ])); (refine wpAnyH_take (i := 8) (v := ?_) rfl (by kernel_rfl) (by kernel_rfl) (by kernel_rfl) (fun _ _ _ h => h) (Or.inl ⟨by kernel_rfl, ?_⟩) (by assumption) ?_; rotate_left; focus (intro w hSw; (try dsimp only at hSw); go_simp; try with_reducible rfl); (try simp only [List.getElem_toArray, List.getElem_cons_succ, List.getElem_cons_zero, Act.put, List.setIfInBounds_toArray, List.set_cons_zero, List.set_cons_succ]))
    refine wpAnyH_ready (rs := [11]) (by kernel_rfl) (by simp) ?_; refine AllReadyH.cons rfl (fun K hK => ?_) AllReadyH.nil
    go_simp
    go_at_call 78
    refine (HJ.out _ hHeld.2.2.2.2).mono ?_; rintro e w' ⟨rfl, bd⟩
    have KS := Lib.hid (tx_keepL bd hHeld); clear hHeld bd
    go_wp2_with fail
    first
      | refine hK.out _ _ KS.out (fun hHeld => ?_)
      | refine hK _ _ KS.out (fun hHeld => ?_)
    clear hK K KS
    (try simp only [List.getElem_toArray, List.getElem_cons_succ, List.getElem_cons_zero, Act.put, List.setIfInBounds_toArray, List.set_cons_zero, List.set_cons_succ])
    (refine wpAnyH_take (i := 12) (v := ?_) rfl (by kernel_rfl) (by kernel_rfl) (by kernel_rfl) (fun _ _ _ h => h) (Or.inl ⟨by kernel_rfl, ?_⟩) (by assumption) ?_; rotate_left; focus (intro w hSw; (try dsimp only at hSw); go_simp; try with_reducible rfl); (try simp only [List.getElem_toArray, List.getElem_cons_succ, List.getElem_cons_zero, Act.put, List.setIfInBounds_toArray, List.set_cons_zero, List.set_cons_succ])); (refine wpAnyH_take (i := 13) (v := ?_) rfl (by kernel_rfl) (by kernel_rfl) (by kernel_rfl) (fun _ _ _ h => h) (Or.inl ⟨by kernel_rfl, ?_⟩) (by assumption) ?_; rotate_left; focus (intro w hSw; (try dsimp only at hSw); go_simp; try with_reducible rfl); (try simp only [List.getElem_toArray, List.getElem_cons_succ, List.getElem_cons_zero, Act.put, List.setIfInBounds_toArray, List.set_cons_zero, List.set_cons_succ])); (refine wpAnyH_take (i := 14) (v := ?_) rfl (by kernel_rfl) (by kernel_rfl) (by kernel_rfl) (fun _ _ _ h => h) (Or.inl ⟨by kernel_rfl, ?_⟩) (by assumption) ?_; rotate_left; focus (intro w hSw; (try dsimp only at hSw); go_simp; try with_reducible rfl); (try simp only [List.getElem_toArray, List.getElem_cons_succ, List.getElem_cons_zero, Act.put, List.setIfInBounds_toArray, List.set_cons_zero, List.set_cons_succ]))
    refine wpAnyH_done (by kernel_rfl) ?_ _
    have HK := Lib.hid hHeld.2.2.2.2; clear hHeld
    go_wp2_with fail
    refine bodyPost_ret (v := .tuple #[.string ⟨HR2.toArray⟩, .bool true]) (by simp [results, Tryd.results53, go_sem]) rfl ⟨rfl, HK.out⟩

end Go.Proofs.YtgkkjlpfkoplhaaDoor
