/-
  Leagues: all games turned (the model's).
-/
import Derived.Test.YtpfphjfpaoiicaaLgTurn
namespace Go.Proofs.Ytpfphjfpaoiicaa
open Go.RowKit
set_option linter.unusedVariables false
set_option linter.unusedSimpArgs false

/-- .. with the league under way in a block of its own. -/
def TuSt (w : World) (t wn : Int) (l : List Rs) (ad : Option Addr) (c go k : Nat) (v : Value) (wr : World) : Prop :=
  TuAt w t wn l ad c k v wr ∧ ObAt wr go 29 #[.int .i64 t, .int .i64 wn, v]

set_option maxHeartbeats 3200000 in
set_option maxRecDepth 100000 in
theorem specTurn_any (t wn : Int) (l : List Rs) (ad : Option Addr) (c : Nat) (w : World) (hl : (l.length : Int) ≤ 1000000000000) (hlc : l.length ≤ c) (hr : Reads w ad (ress l)) :
    Calls Try.prog 67 #[.agg #[.int .i64 t, .int .i64 wn, .slice ad l.length c]] w fun e w' => LgR (if goodL t wn l then t else 0) (if goodL t wn l then wn else 0) (if goodL t wn l then l.map turnR else []) (goodL t wn l) w e w' := by
  have HB0 : Hid (∀ x y : Obj, Below w.heap.size w ((w.alloc x).alloc y)) := fun x y => by (repeat (first | exact Below.refl _ _ | exact ‹Below _ _ _› | refine Below.drew ?_ | refine Below.alloc ?_ (by first | omega | (simp; done) | (simp; omega)) _ | refine Below.setCell ?_ (by first | omega | (simp; done) | (simp; omega)) _ | refine Below.trans ?_ (Below.mono ‹Below _ _ _› (by first | omega | (simp; done) | (simp; omega)))))
  have HG := Lib.hid (fun W (hb : Below w.heap.size w W) => lgGood_any t wn l ad c W hl hlc (hr.old hb))
  have HR := Lib.hid hr; clear hr
  have A1 := Lib.hid ((ObAt.new w 29 #[.int .i64 t, .int .i64 wn, .slice ad l.length c]).old (.cells #[.int .i64 0, .int .i64 0, .slice none 0 0] 29))
  have A2 := ObAt.new (w.alloc (.cells #[.int .i64 t, .int .i64 wn, .slice ad l.length c] 29)) 29 #[.int .i64 0, .int .i64 0, .slice none 0 0]
  rw [World.size_alloc] at A2
  have A2 := Lib.hid A2
  cases hg : goodL t wn l
  · rw [hg] at HG; clear hg
    simp only [Bool.false_eq_true, if_false]
    go_enter Try.func67, Try.ntmps67
    go_wp2_with fail
    refine (HG.out _ (HB0.out _ _)).mono ?_; rintro e w1 ⟨rfl, b1⟩
    have H1 := Lib.hid (And.intro (A2.out.keep b1) ((HB0.out _ _).trans (b1.mono (HB0.out _ _).size))); clear b1 A1 A2
    obtain ⟨q0, q1, q2, f0, f1, f2⟩ := H1.out.1.three
    have HF := Lib.hid (fun u0 u1 u2 : Value => ((H1.out.2.setCell (p := ⟨w.heap.size + 1, 0, none⟩) (by simp only; omega) u0).setCell (p := ⟨w.heap.size + 1, 1, none⟩) (by simp only; omega) u1).setCell (p := ⟨w.heap.size + 1, 2, none⟩) (by simp only; omega) u2)
    go_wp2_with fail
    refine bodyPost_ret (v := .tuple #[.agg #[.int .i64 0, .int .i64 0, .slice none 0 0], .bool false]) ?_ rfl ⟨none, 0, rfl, owns_nil4 _ _ _, HF.out _ _ _⟩
    simp [results, Try.results67, go_sem, *]
  · have h56 := (goodL_bd hg).2.2.2.2
    obtain ⟨i0, hi, hz0, hz1, hz2⟩ := info_parts infoRes
    have HI := Lib.hid (And.intro hi (And.intro hz0 (And.intro hz1 hz2))); clear hi hz0 hz1 hz2
    rw [hg] at HG; clear hg
    simp only [if_true]
    go_enter Try.func67, Try.ntmps67
    go_wp2_with fail
    refine (HG.out _ (HB0.out _ _)).mono ?_; rintro e w1 ⟨rfl, b1⟩
    have hb0 := (HB0.out (.cells #[.int .i64 t, .int .i64 wn, .slice ad l.length c] 29) (.cells #[.int .i64 0, .int .i64 0, .slice none 0 0] 29)).trans (b1.mono (HB0.out _ _).size)
    have hbn := Below.ofNew (w := w1) (.cells #[.int .i64 t, .int .i64 wn, .slice none 0 0] 29)
    obtain ⟨go, hgo⟩ : ∃ go, go = w1.heap.size := ⟨_, rfl⟩
    have hgw : w.heap.size + 1 < go := by rw [hgo]; exact (A2.out.keep b1).lt
    have H0 : Hid (TuSt w t wn l ad c go 0 (.slice none 0 0) (w1.alloc (.cells #[.int .i64 t, .int .i64 wn, .slice none 0 0] 29))) := ⟨⟨(A1.out.keep b1).keep hbn, (A2.out.keep b1).keep hbn, owns_nil4 _ _ _, hb0.trans (hbn.mono hb0.size)⟩, by rw [hgo]; exact ObAt.new _ _ _⟩
    have P1 := A1.out.keep b1
    have hlt0 := P1.lt
    obtain ⟨p0, p1, p2, -, -, -⟩ := P1.three
    clear b1 A1 A2 HG HB0 hb0 hbn P1
    go_wp2_with fail
    rw [← hgo]
    clear p0 p1 p2 hgo hlt0
    try go_wp2_with fail
    go_loopw [19] (fun i wr => ∃ (k : Nat) (v : Value), i = .int .i64 k ∧ k ≤ l.length ∧ Hid (TuSt w t wn l ad c go k v wr)) (fun i _ => l.length - (intOf i).toNat)
    case atStart => exact ⟨0, _, rfl, Nat.zero_le _, H0.out⟩
    case round =>
      clear H0
      obtain ⟨k, v, rfl, hk, hH⟩ := hrel
      by_cases hlt : k < l.length
      · have b1 : (k : Int) < (l.length : Int) := by omega
        obtain ⟨⟨hA, hA2, hown, hbel⟩, hO⟩ := hH.out
        obtain ⟨b, off, ha, _, hc⟩ := rcells_of_reads (HR.out.old hbel) (by omega)
        subst ha
        obtain ⟨c0, c1, c2, c3⟩ := hc k hlt
        clear hc
        have hsn := turn_snoc l k hlt
        have HG := Lib.hid hsn; clear hsn
        generalize l.getD k zR = r at *
        obtain ⟨x, y, z, u⟩ := r
        simp only at c0 c1 c2 c3
        have hbs := hbel.size
        have HO : Hid (ObAt (wr.alloc (.cells #[.int .i64 x, .int .i64 y, .int .i64 z, .int .i64 u] 64)) w.heap.size 29 #[.int .i64 t, .int .i64 wn, .slice (some ⟨b, off, none⟩) l.length c] ∧ ObAt (wr.alloc (.cells #[.int .i64 x, .int .i64 y, .int .i64 z, .int .i64 u] 64)) (w.heap.size + 1) 29 #[.int .i64 0, .int .i64 0, .slice none 0 0] ∧ (wr.alloc (.cells #[.int .i64 x, .int .i64 y, .int .i64 z, .int .i64 u] 64)).ownsRow w.heap.size 64 4 v k (ress ((l.take k).map turnR)) ∧ Below w.heap.size w (wr.alloc (.cells #[.int .i64 x, .int .i64 y, .int .i64 z, .int .i64 u] 64)) ∧ ObAt (wr.alloc (.cells #[.int .i64 x, .int .i64 y, .int .i64 z, .int .i64 u] 64)) go 29 #[.int .i64 t, .int .i64 wn, v]) := ⟨hA.old _, hA2.old _, hown.alloc _, hbel.alloc hbs _, hO.old _⟩
        obtain ⟨o0, o1, o2, -, -, -⟩ := hO.three
        have hlo := hO.lt
        have HC := Lib.hid (cells_new (wr.alloc (.cells #[.int .i64 x, .int .i64 y, .int .i64 z, .int .i64 u] 64)) #[.int .i64 y, .int .i64 x, .int .i64 u, .int .i64 z] 64)
        rw [World.size_alloc] at HC
        clear hH hown hbel hA hA2 hO
        go_wp2_with (at_builtin; refine wpList_append_own_at _ rfl _ _ 27 rfl w.heap.size 64 i0 (.agg #[.int .i64 0, .int .i64 0, .int .i64 0, .int .i64 0]) 4 32 Try.underlying27 HI.out.1 HI.out.2.1 HI.out.2.2.1 HI.out.2.2.2 rfl (by decide) _ _ _ rfl (HO.out.2.2.1.alloc _) ⟨wr.heap.size + 1, 0, none⟩ 1 1 [.int .i64 y, .int .i64 x, .int .i64 u, .int .i64 z] rfl rfl HC.out ?_ ?_ ?_ ?_ ?_)
        · exact ⟨rfl, rfl, rfl, rfl⟩
        · unfold maxLen; omega
        · omega
        · first | omega | (simp; omega)
        intro v' w3 hown3 hgrow _ _
        have hbel3 : Below w.heap.size w w3 := (HO.out.2.2.2.1.alloc (by simp; omega) _).grown hgrow (by simp; omega) (fun g hg => by
          obtain ⟨_, h | ⟨g', cap, cur, hv, hb', _⟩⟩ := HO.out.2.2.1
          · rw [h.1] at hg; cases hg
          · rw [hv] at hg; simp [Value.ownBlock] at hg; omega)
        have hA3 := (HO.out.1.old (.cells #[.int .i64 y, .int .i64 x, .int .i64 u, .int .i64 z] 64)).grow (T' := 64) (by decide) (HO.out.2.2.1.alloc _) hgrow
        have hA4 := (HO.out.2.1.old (.cells #[.int .i64 y, .int .i64 x, .int .i64 u, .int .i64 z] 64)).grow (T' := 64) (by decide) (HO.out.2.2.1.alloc _) hgrow
        have hown4 : w3.ownsRow w.heap.size 64 4 v' (k + 1) (ress ((l.take (k + 1)).map turnR)) := by
          rw [HG.out, ress_append, List.map_take]; exact hown3
        have hA5 := (HO.out.2.2.2.2.old (.cells #[.int .i64 y, .int .i64 x, .int .i64 u, .int .i64 z] 64)).grow (T' := 64) (by decide) (HO.out.2.2.1.alloc _) hgrow
        obtain ⟨a5, c5, rfl, -⟩ := own_cap hown4
        have k2 := hA5.cell 2
        have kf := hA5.free 2
        have hna : (Value.slice a5 (k + 1) c5).ownBlock ≠ some go := owns_apart (fr := (0, 0)) hA5 (by decide) hown4
        have H3 : Hid (TuSt w t wn l (some ⟨b, off, none⟩) c go (k + 1) (.slice a5 (k + 1) c5) (w3.setCell ⟨go, 2, none⟩ (.slice a5 (k + 1) c5))) :=
          ⟨⟨hA3.other (by omega) _, hA4.other (by omega) _, owns_heap hown4 (fun g e => Below.heap_setCell _ _ _ _ (fun e2 => hna (by rw [e, e2]))), hbel3.setCell (by simp only; omega) _⟩, hA5.put 2 (.slice a5 (k + 1) c5)⟩
        clear hown3 hgrow hown4 hbel3 hA3 hA4 hA5 hna HO HC HG o0 o1 o2
        go_wp2
        go_roundw
        case rel => exact ⟨k + 1, .slice a5 (k + 1) c5, by go_num, by omega, H3⟩
        case measure => simp [intOf]; omega
      · obtain rfl : k = l.length := by omega
        obtain ⟨⟨hA, hA2, hown, hbel⟩, hO⟩ := hH.out
        rw [List.take_length] at hown
        have hln : (l.map turnR).length = l.length := List.length_map ..
        obtain ⟨a2, c2, rfl, hc2, -, -⟩ := own_cap hown
        have H4 := Lib.hid (And.intro hA2 (And.intro hown hbel))
        obtain ⟨p0, p1, p2, -, -, -⟩ := hO.three
        obtain ⟨q0, q1, q2, f0, f1, f2⟩ := hA2.three
        clear hH hA hA2 hown hbel hO
        have HF : Hid (∀ u0 u1 u2 : Value, (((wr.setCell ⟨w.heap.size + 1, 0, none⟩ u0).setCell ⟨w.heap.size + 1, 1, none⟩ u1).setCell ⟨w.heap.size + 1, 2, none⟩ u2).ownsRow w.heap.size 64 4 (.slice a2 l.length c2) l.length (ress (l.map turnR)) ∧ Below w.heap.size w (((wr.setCell ⟨w.heap.size + 1, 0, none⟩ u0).setCell ⟨w.heap.size + 1, 1, none⟩ u1).setCell ⟨w.heap.size + 1, 2, none⟩ u2)) := by
          intro u0 u1 u2
          refine ⟨owns_heap H4.out.2.1 (fun g e => ?_), ((H4.out.2.2.setCell (p := ⟨w.heap.size + 1, 0, none⟩) (by simp only; omega) u0).setCell (p := ⟨w.heap.size + 1, 1, none⟩) (by simp only; omega) u1).setCell (p := ⟨w.heap.size + 1, 2, none⟩) (by simp only; omega) u2⟩
          have hne : g ≠ w.heap.size + 1 := by
            intro e2
            subst e2
            exact owns_apart (g := w.heap.size + 1) (T := 29) (fr := (0, 0)) H4.out.1 (by decide) H4.out.2.1 e
          rw [Below.heap_setCell _ _ _ _ hne, Below.heap_setCell _ _ _ _ hne, Below.heap_setCell _ _ _ _ hne]
        go_wp2_with fail
        refine bodyPost_ret (v := .tuple #[.agg #[.int .i64 t, .int .i64 wn, .slice a2 l.length c2], .bool true]) ?_ rfl ⟨a2, c2, by rw [hln], by rw [hln]; exact (HF.out _ _ _).1, (HF.out _ _ _).2⟩
        simp [results, Try.results67, go_sem, *]
end Go.Proofs.Ytpfphjfpaoiicaa
