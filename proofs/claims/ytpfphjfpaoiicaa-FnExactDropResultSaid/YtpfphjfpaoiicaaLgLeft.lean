/-
  Leagues: the games that are left: both sides.
-/
import Derived.Test.YtpfphjfpaoiicaaLgPair
import Derived.Test.YtpfphjfpaoiicaaLgDir
namespace Go.Proofs.Ytpfphjfpaoiicaa
open Go.RowKit
set_option linter.unusedVariables false
set_option linter.unusedSimpArgs false

def prsR (T k : Nat) : List (Int × Int) := (List.range k).flatMap fun (h : Nat) => (List.range T).map fun (a : Nat) => ((h : Int), (a : Int))
def rowTo (k j : Nat) : List (Int × Int) := (List.range j).map fun (a : Nat) => ((k : Int), (a : Int))
def leftTo (T : Nat) (l : List Rs) (k j : Nat) : List (Int × Int) := (prsR T k ++ rowTo k j).filter fun p => leftB l p.1 p.2
theorem leftTo_all (T : Nat) (l : List Rs) : leftTo T l T 0 = leftL T l := by simp [leftTo, leftL, prs, prsR, rowTo]
theorem leftTo_zero (T : Nat) (l : List Rs) : leftTo T l 0 0 = [] := rfl
theorem leftTo_row (T : Nat) (l : List Rs) (k : Nat) : leftTo T l k T = leftTo T l (k + 1) 0 := by
  simp [leftTo, prsR, rowTo, List.range_succ]
theorem leftTo_in (T : Nat) (l : List Rs) (k j : Nat) (h : leftB l k j = true) : leftTo T l k (j + 1) = leftTo T l k j ++ [((k : Int), (j : Int))] := by
  simp [leftTo, rowTo, List.range_succ, h]
theorem leftTo_out (T : Nat) (l : List Rs) (k j : Nat) (h : leftB l k j = false) : leftTo T l k (j + 1) = leftTo T l k j := by
  simp [leftTo, rowTo, List.range_succ, h]
theorem prsR_len (T : Nat) : ∀ k, (prsR T k).length = k * T
  | 0 => by simp [prsR]
  | k + 1 => by
    have := prsR_len T k
    have e : prsR T (k + 1) = prsR T k ++ rowTo k T := by simp [prsR, rowTo, List.range_succ]
    rw [e, List.length_append, this, rowTo, List.length_map, List.length_range, Nat.add_mul, Nat.one_mul]
theorem leftTo_len (T : Nat) (hT : T ≤ 8) (l : List Rs) (k j : Nat) (hk : k ≤ T) (hj : j ≤ T) : (leftTo T l k j).length ≤ 72 := by
  have h1 := List.length_filter_le (fun p : Int × Int => leftB l p.1 p.2) (prsR T k ++ rowTo k j)
  have h2 := prsR_len T k
  have h3 : (rowTo k j).length = j := by simp [rowTo]
  have h4 : k * T ≤ 8 * 8 := Nat.mul_le_mul (by omega) hT
  rw [List.length_append, h2, h3] at h1
  unfold leftTo
  omega
theorem leftB_eq (l : List Rs) (h a : Int) : leftB l h a = (decide (h ≠ a) && !hasG l h a) := rfl

theorem owns_block {w : World} {B T n size : Nat} {v : Value} {xs : List Value} (h : w.ownsRow B T size v n xs) (g : Nat) (hg : v.ownBlock = some g) : B ≤ g := (owns_ge h hg).1
theorem add_zero_addr (g : Nat) : ((⟨g, 0, none⟩ : Addr).add 0) = ⟨g, 0, none⟩ := by simp [Addr.add]
theorem infoSlice : (Try.prog.info? 33).map (fun i => (i.zero, i.size, i.bytes)) = some (some (.slice none 0 0), 1, 24) := by kernel_rfl
theorem new_head (wr : World) (o : Obj) (v : Value) (t : TypeId) : ∀ j' u, ([v] : List Value)[j']? = some u → ((wr.alloc o).alloc (.cells #[v] t)).cell? ((⟨wr.heap.size + 1, 0, none⟩ : Addr).add j') = some u := by
  intro j' u hu
  have e0 : j' = 0 := by have := (List.getElem?_eq_some_iff.1 hu).1; simp at this; omega
  subst e0
  simp at hu; subst hu
  rw [add_zero_addr]
  have := cell_of_row _ _ 0 _ _ _ (heap_alloc_last (wr.alloc o) (.cells #[v] t))
  rw [show (wr.alloc o).heap.size = wr.heap.size + 1 by simp] at this
  exact this
theorem pair_grown {B : Nat} {w wr w5 : World} {v : Value} {n : Nat} {xs : List Value} {T : TypeId} {o o' : Obj} (h : wr.ownsRow B T 1 v n xs) (hB : B ≤ wr.heap.size) (hbel : Below B w wr) (hg : ((wr.alloc o).alloc o').grownBy w5 v.ownBlock) : Below B w w5 :=
  ((hbel.alloc (by omega) _).alloc (by simp; omega) _).grown hg (by simp; omega) (fun g hg => by have := owns_block h g hg; omega)


/-- Rows of two, the league in its block. -/
def LfAt (w : World) (t wn : Int) (lv : Value) (L : List (Int × Int)) (v : Value) (wr : World) : Prop := PairD w.heap.size L v wr ∧ BoxS w t wn lv wr
theorem LfAt.keep {w : World} {t wn : Int} {lv : Value} {L : List (Int × Int)} {v : Value} {wr w' : World} (h : LfAt w t wn lv L v wr) (hb : Below wr.heap.size wr w') : LfAt w t wn lv L v w' := ⟨h.1.keep hb, h.2.keep hb⟩
/-- One row more. -/
theorem LfAt.more {w : World} {t wn : Int} {lv : Value} {L : List (Int × Int)} {v : Value} {w2 : World} (h : LfAt w t wn lv L v w2) (x y : Int) {vs : List Value} (hvs : w2.ownsRow w.heap.size 33 1 v L.length vs ∧ (Heads vs (rows2 L) ∧ (∀ j, j < L.length → RowAt w2 (blk vs j) 3 ((rows2 L).getD j []) ∧ w.heap.size ≤ blk vs j) ∧ Apart vs (rows2 L))) {v' : Value} {w5 : World}
    (ho : w5.ownsRow w.heap.size 33 1 v' (L.length + 1) (vs ++ [.slice (some ⟨w2.heap.size, 0, none⟩) 2 2])) (hg : ((w2.alloc (.cells #[.int .i64 x, .int .i64 y] 3)).alloc (.cells #[.slice (some ⟨w2.heap.size, 0, none⟩) 2 2] 33)).grownBy w5 v.ownBlock) :
    LfAt w t wn lv (L ++ [(x, y)]) v' w5 := by
  have hbs := h.2.2.size
  refine ⟨h.1.snoc' hbs ⟨vs, hvs.1, hvs.2, ho⟩ hg, ?_, pair_grown hvs.1 hbs h.2.2 hg⟩
  have hA := (h.2.1.old (.cells #[.int .i64 x, .int .i64 y] 3)).old (.cells #[.slice (some ⟨w2.heap.size, 0, none⟩) 2 2] 33)
  exact hA.grow (T' := 33) (by decide) ((hvs.1.alloc _).alloc _) hg

set_option maxHeartbeats 6400000 in
set_option maxRecDepth 100000 in
theorem implLeft_any (t wn : Int) (l : List Rs) (ad : Option Addr) (c : Nat) (w : World) (hl : (l.length : Int) ≤ 1000000000000) (hlc : l.length ≤ c) (hr : Reads w ad (ress l)) :
    Calls Try.prog 43 #[.agg #[.int .i64 t, .int .i64 wn, .slice ad l.length c]] w fun e w' => ∃ v, e = .returned (.tuple #[v, .bool (goodL t wn l)]) ∧ PairD w.heap.size (if goodL t wn l then leftL t.toNat l else []) v w' ∧ Below w.heap.size w w' := by
  have H0 := Lib.hid (BoxS.new w t wn (.slice ad l.length c))
  have HG := Lib.hid (isLeague_any t wn l ad c _ hl hlc (hr.old H0.out.2))
  have HR := Lib.hid hr; clear hr
  cases hg : goodL t wn l
  · rw [hg] at HG; clear hg
    go_enter Try.func43, Try.ntmps43
    go_wp2_with fail
    refine HG.out.mono ?_; rintro e w1 ⟨rfl, b1⟩
    have HB1 := Lib.hid (H0.out.keep b1); clear b1
    go_wp2_with fail
    refine bodyPost_ret (v := .tuple #[.slice none 0 0, .bool false]) (by simp [results, Try.results43, go_sem]) rfl ⟨_, rfl, PairD.nil _ _, HB1.out.2⟩
  · obtain ⟨t2, t8, -, -, -⟩ := goodL_bd hg
    obtain ⟨T, rfl⟩ : ∃ T : Nat, t = T := ⟨t.toNat, by omega⟩
    obtain ⟨i0, hi, hz0, hz1, hz2⟩ := info_parts infoSlice
    have HI := Lib.hid (And.intro hi (And.intro hz0 (And.intro hz1 hz2))); clear hi hz0 hz1 hz2
    have HAS := Lib.hid (fun h a W (hb : Below w.heap.size w W) => hasGame_any l ad c h a W hl (HR.out.old hb))
    rw [hg] at HG; clear hg
    simp only [if_true, Int.toNat_natCast]
    have hT8 : T ≤ 8 := by omega
    go_enter Try.func43, Try.ntmps43
    go_wp2_with fail
    refine HG.out.mono ?_; rintro e w1 ⟨rfl, b1⟩
    have H1 : Hid (LfAt w T wn (.slice ad l.length c) (leftTo T l 0 0) (.slice none 0 0) w1) := ⟨PairD.nil _ _, H0.out.keep b1⟩
    clear b1 H0 HG
    obtain ⟨p0, p1, p2, -⟩ := H1.out.2.full
    go_wp2_with fail
    clear p0 p1 p2
    go_loopw [4, 12] (fun vv i wr => ∃ k : Nat, i = .int .i64 k ∧ k ≤ T ∧ Hid (LfAt w T wn (.slice ad l.length c) (leftTo T l k 0) vv wr)) (fun _ i _ => T - (intOf i).toNat)
    case atStart => exact ⟨0, rfl, Nat.zero_le _, H1.out⟩
    case round =>
      clear H1
      obtain ⟨k, rfl, hk, hH⟩ := hrel
      by_cases hlt : k < T
      · have b1 : (k : Int) < (T : Int) := by omega
        obtain ⟨p0, p1, p2, -⟩ := hH.out.2.full
        go_wp2_with fail
        clear p0 p1 p2
        go_loopw [4, 17] (fun vv i wr => ∃ j : Nat, i = .int .i64 j ∧ j ≤ T ∧ Hid (LfAt w T wn (.slice ad l.length c) (leftTo T l k j) vv wr)) (fun _ i _ => T - (intOf i).toNat)
        case atStart => exact ⟨0, rfl, Nat.zero_le _, hH.out⟩
        case round =>
          clear hH
          obtain ⟨j, rfl, hj, hH⟩ := hrel
          by_cases hlj : j < T
          · have b2 : (j : Int) < (T : Int) := by omega
            have hlb := leftB_eq l k j
            by_cases e1 : k = j
            · have q1 : ((k : Int) != (j : Int)) = false := by simp [e1]
              have hno : leftB l k j = false := by rw [hlb]; simp [e1]
              have hL := leftTo_out T l k j hno
              have H2 : Hid (LfAt w T wn (.slice ad l.length c) (leftTo T l k (j + 1)) u4 wr) := by rw [hL]; exact hH.out
              clear hno hL hH hlb e1
              go_wp2_with fail
              go_roundw
              case rel => exact ⟨j + 1, by go_num, by omega, H2⟩
              case measure => simp [intOf]; omega
            have q1 : ((k : Int) != (j : Int)) = true := by rw [bne_iff_ne]; omega
            have d1 : decide ((k : Int) ≠ (j : Int)) = true := by simp; omega
            rw [d1, Bool.true_and] at hlb
            clear e1 d1
            have hC := HAS.out k j wr hH.out.2.2
            have HC := Lib.hid hC; clear hC
            obtain ⟨p0, p1, p2, -⟩ := hH.out.2.full
            cases hs : hasG l k j
            · rw [hs] at HC hlb
              have hL := leftTo_in T l k j hlb
              have hlen := leftTo_len T hT8 l k j hk hj
              have HL := Lib.hid hL; clear hL hlb hs
              go_wp2_with fail
              refine HC.out.mono ?_; rintro e w5 ⟨rfl, b5⟩
              have HP := Lib.hid (hH.out.keep b5); clear b5 hH HC p0 p1 p2
              generalize leftTo T l k j = L at *
              obtain ⟨vs, hvs⟩ := HP.out.1
              have HVS := Lib.hid hvs; clear hvs
              have HN := Lib.hid (fun o v => new_head w5 o v 33)
              have HLN := Lib.hid hlen; clear hlen
              go_wp2_with (at_builtin; refine wpList_append_own_at _ rfl _ _ 39 rfl w.heap.size 33 i0 (.slice none 0 0) 1 24 Try.underlying39 HI.out.1 HI.out.2.1 HI.out.2.2.1 HI.out.2.2.2 rfl (by decide) _ _ _ rfl ((HVS.out.1.alloc _).alloc _) ⟨w5.heap.size + 1, 0, none⟩ 1 1 [.slice (some ⟨w5.heap.size, 0, none⟩) 2 2] rfl rfl (HN.out _ _) ?_ ?_ ?_ ?_ ?_)
              · first | rfl | (intro u hu; simp at hu; subst hu; rfl)
              · have := HLN.out; unfold maxLen; omega
              · have := HLN.out; omega
              · have := HP.out.2.2.size; first | omega | (simp; omega)
              intro v' w7 hown7 hgrow _ _
              have H7 := Lib.hid (HP.out.more k j HVS.out hown7 hgrow)
              clear hown7 hgrow HVS HN HP HLN
              go_wp2_with fail
              go_roundw
              case rel => exact ⟨j + 1, by go_num, by omega, by rw [HL.out]; exact H7⟩
              case measure => simp [intOf]; omega
            · rw [hs] at HC hlb
              have hL := leftTo_out T l k j hlb
              clear hlb hs
              go_wp2_with fail
              refine HC.out.mono ?_; rintro e w5 ⟨rfl, b5⟩
              have H2 : Hid (LfAt w T wn (.slice ad l.length c) (leftTo T l k (j + 1)) u4 w5) := by rw [hL]; exact hH.out.keep b5
              clear b5 hH HC p0 p1 p2 hL
              go_wp2_with fail
              go_roundw
              case rel => exact ⟨j + 1, by go_num, by omega, H2⟩
              case measure => simp [intOf]; omega
          · obtain rfl : j = T := by omega
            have H2 : Hid (LfAt w j wn (.slice ad l.length c) (leftTo j l (k + 1) 0) u4 wr) := by rw [← leftTo_row]; exact hH.out
            clear hH
            go_wp2_with fail
            go_roundw
            case rel => exact ⟨k + 1, by go_num, by omega, H2⟩
            case measure => simp [intOf]; omega
      · obtain rfl : k = T := by omega
        have hh := hH.out
        rw [leftTo_all] at hh
        have HH := Lib.hid hh; clear hh hH
        go_wp2_with fail
        refine bodyPost_ret (v := .tuple #[u4, .bool true]) (by simp [results, Try.results43, go_sem]) rfl ⟨_, rfl, HH.out.1, HH.out.2.2⟩

end Go.Proofs.Ytpfphjfpaoiicaa
