/-
  Leagues: a league with other results; all games turned (the program's).
-/
import Derived.Test.YtpfphjfpaoiicaaLgCf
import Derived.Test.YtpfphjfpaoiicaaLgSetM
namespace Go.Proofs.Ytpfphjfpaoiicaa
open Go.RowKit
set_option linter.unusedVariables false
set_option linter.unusedSimpArgs false

theorem infoRes : (Try.prog.info? 64).map (fun i => (i.zero, i.size, i.bytes)) = some (some (.agg #[.int .i64 0, .int .i64 0, .int .i64 0, .int .i64 0]), 4, 32) := infoResult
/-- A league that is handed back, its results the call's own. -/
def LgR (t wn : Int) (l : List Rs) (o : Bool) (w : World) (e : Ending) (w' : World) : Prop :=
  ∃ a c, e = .returned (.tuple #[.agg #[.int .i64 t, .int .i64 wn, .slice a l.length c], .bool o]) ∧ w'.ownsRow w.heap.size 64 4 (.slice a l.length c) l.length (ress l) ∧ Below w.heap.size w w'
theorem owns_nil4 (w : World) (B : Nat) (T : TypeId) : w.ownsRow B T 4 (.slice none 0 0) 0 [] := ⟨rfl, .inl ⟨rfl, rfl⟩⟩

set_option maxHeartbeats 1600000 in
theorem leagueWith_any (t wn : Int) (v0 : Value) (l : List Rs) (hgd : goodL t wn l = true) (a : Option Addr) (c : Nat) (hlc : l.length ≤ c) (w : World) (hr : Reads w a (ress l)) :
    Calls Try.prog 101 #[.agg #[.int .i64 t, .int .i64 wn, v0], .slice a l.length c] w fun e w' => e = .returned (.tuple #[.agg #[.int .i64 t, .int .i64 wn, .slice a l.length c], .bool true]) ∧ Below w.heap.size w w' := by
  have h56 := (goodL_bd hgd).2.2.2.2
  have HB0 : Hid (∀ x y : Obj, Below w.heap.size w ((w.alloc x).alloc y)) := fun x y => by (repeat (first | exact Below.refl _ _ | exact ‹Below _ _ _› | refine Below.drew ?_ | refine Below.alloc ?_ (by first | omega | (simp; done) | (simp; omega)) _ | refine Below.setCell ?_ (by first | omega | (simp; done) | (simp; omega)) _ | refine Below.trans ?_ (Below.mono ‹Below _ _ _› (by first | omega | (simp; done) | (simp; omega)))))
  have HIS := Lib.hid (fun W (hb : Below w.heap.size w W) => isLeague_any t wn l a c W (by omega) hlc (hr.old hb))
  rw [hgd] at HIS
  clear hr hgd
  go_enter Try.func101, Try.ntmps101
  go_wp2_with fail
  have A1 := Lib.hid ((ObAt.new w 29 #[.int .i64 t, .int .i64 wn, .slice a l.length c]).old (.cells #[.int .i64 0, .int .i64 0, .slice none 0 0] 29))
  have A2 := ObAt.new (w.alloc (.cells #[.int .i64 t, .int .i64 wn, .slice a l.length c] 29)) 29 #[.int .i64 0, .int .i64 0, .slice none 0 0]
  rw [World.size_alloc] at A2
  have A2 := Lib.hid A2
  refine (HIS.out _ (HB0.out _ _)).mono ?_; rintro e w1 ⟨rfl, b1⟩
  have H1 := Lib.hid (And.intro (A1.out.keep b1) (And.intro (A2.out.keep b1) ((HB0.out _ _).trans (b1.mono (HB0.out _ _).size)))); clear b1 A1 A2
  obtain ⟨p0, p1, p2, -, -, -⟩ := H1.out.1.three
  obtain ⟨q0, q1, q2, f0, f1, f2⟩ := H1.out.2.1.three
  have HF := Lib.hid (fun u0 u1 u2 : Value => ((H1.out.2.2.setCell (p := ⟨w.heap.size + 1, 0, none⟩) (by simp only; omega) u0).setCell (p := ⟨w.heap.size + 1, 1, none⟩) (by simp only; omega) u1).setCell (p := ⟨w.heap.size + 1, 2, none⟩) (by simp only; omega) u2)
  go_wp2_with fail
  refine bodyPost_ret (v := .tuple #[.agg #[.int .i64 t, .int .i64 wn, .slice a l.length c], .bool true]) ?_ rfl ⟨rfl, HF.out _ _ _⟩
  simp [results, Try.results101, go_sem, *]

/-- What holds at the head of each round. -/
def TuAt (w : World) (t wn : Int) (l : List Rs) (ad : Option Addr) (c k : Nat) (v : Value) (wr : World) : Prop :=
  ObAt wr w.heap.size 29 #[.int .i64 t, .int .i64 wn, .slice ad l.length c] ∧ ObAt wr (w.heap.size + 1) 29 #[.int .i64 0, .int .i64 0, .slice none 0 0] ∧ wr.ownsRow w.heap.size 64 4 v k (ress ((l.take k).map turnR)) ∧ Below w.heap.size w wr

set_option maxHeartbeats 3200000 in
set_option maxRecDepth 100000 in
theorem implTurn_any (t wn : Int) (l : List Rs) (ad : Option Addr) (c : Nat) (w : World) (hl : (l.length : Int) ≤ 1000000000000) (hlc : l.length ≤ c) (hr : Reads w ad (ress l)) :
    Calls Try.prog 68 #[.agg #[.int .i64 t, .int .i64 wn, .slice ad l.length c]] w fun e w' => LgR (if goodL t wn l then t else 0) (if goodL t wn l then wn else 0) (if goodL t wn l then l.map turnR else []) (goodL t wn l) w e w' := by
  have HB0 : Hid (∀ x y : Obj, Below w.heap.size w ((w.alloc x).alloc y)) := fun x y => by (repeat (first | exact Below.refl _ _ | exact ‹Below _ _ _› | refine Below.drew ?_ | refine Below.alloc ?_ (by first | omega | (simp; done) | (simp; omega)) _ | refine Below.setCell ?_ (by first | omega | (simp; done) | (simp; omega)) _ | refine Below.trans ?_ (Below.mono ‹Below _ _ _› (by first | omega | (simp; done) | (simp; omega)))))
  have HG := Lib.hid (fun W (hb : Below w.heap.size w W) => isLeague_any t wn l ad c W hl hlc (hr.old hb))
  have HR := Lib.hid hr; clear hr
  have A1 := Lib.hid ((ObAt.new w 29 #[.int .i64 t, .int .i64 wn, .slice ad l.length c]).old (.cells #[.int .i64 0, .int .i64 0, .slice none 0 0] 29))
  have A2 := ObAt.new (w.alloc (.cells #[.int .i64 t, .int .i64 wn, .slice ad l.length c] 29)) 29 #[.int .i64 0, .int .i64 0, .slice none 0 0]
  rw [World.size_alloc] at A2
  have A2 := Lib.hid A2
  cases hg : goodL t wn l
  · rw [hg] at HG; clear hg
    simp only [Bool.false_eq_true, if_false]
    go_enter Try.func68, Try.ntmps68
    go_wp2_with fail
    refine (HG.out _ (HB0.out _ _)).mono ?_; rintro e w1 ⟨rfl, b1⟩
    have H1 := Lib.hid (And.intro (A2.out.keep b1) ((HB0.out _ _).trans (b1.mono (HB0.out _ _).size))); clear b1 A1 A2
    obtain ⟨q0, q1, q2, f0, f1, f2⟩ := H1.out.1.three
    have HF := Lib.hid (fun u0 u1 u2 : Value => ((H1.out.2.setCell (p := ⟨w.heap.size + 1, 0, none⟩) (by simp only; omega) u0).setCell (p := ⟨w.heap.size + 1, 1, none⟩) (by simp only; omega) u1).setCell (p := ⟨w.heap.size + 1, 2, none⟩) (by simp only; omega) u2)
    go_wp2_with fail
    refine bodyPost_ret (v := .tuple #[.agg #[.int .i64 0, .int .i64 0, .slice none 0 0], .bool false]) ?_ rfl ⟨none, 0, rfl, owns_nil4 _ _ _, HF.out _ _ _⟩
    simp [results, Try.results68, go_sem, *]
  · have h56 := (goodL_bd hg).2.2.2.2
    have hgt := goodL_turn hg
    obtain ⟨i0, hi, hz0, hz1, hz2⟩ := info_parts infoRes
    have HI := Lib.hid (And.intro hi (And.intro hz0 (And.intro hz1 hz2))); clear hi hz0 hz1 hz2
    have HLW := Lib.hid (fun a c' hlc' W hr' => leagueWith_any t wn (.slice ad l.length c) (l.map turnR) hgt a c' hlc' W hr')
    rw [List.length_map] at HLW
    rw [hg] at HG; clear hg hgt
    simp only [if_true]
    go_enter Try.func68, Try.ntmps68
    go_wp2_with fail
    refine (HG.out _ (HB0.out _ _)).mono ?_; rintro e w1 ⟨rfl, b1⟩
    have H0 : Hid (TuAt w t wn l ad c 0 (.slice none 0 0) w1) := ⟨A1.out.keep b1, A2.out.keep b1, owns_nil4 _ _ _, (HB0.out _ _).trans (b1.mono (HB0.out _ _).size)⟩
    clear b1 A1 A2 HG HB0
    obtain ⟨p0, p1, p2, -, -, -⟩ := H0.out.1.three
    go_wp2_with fail
    clear p0 p1 p2
    go_loopw [4, 14] (fun v i wr => ∃ k : Nat, i = .int .i64 k ∧ k ≤ l.length ∧ Hid (TuAt w t wn l ad c k v wr)) (fun _ i _ => l.length - (intOf i).toNat)
    case atStart => exact ⟨0, rfl, Nat.zero_le _, H0.out⟩
    case round =>
      clear H0
      obtain ⟨k, rfl, hk, hH⟩ := hrel
      by_cases hlt : k < l.length
      · have b1 : (k : Int) < (l.length : Int) := by omega
        obtain ⟨hA, hA2, hown, hbel⟩ := hH.out
        obtain ⟨b, off, ha, _, hc⟩ := rcells_of_reads (HR.out.old hbel) (by omega)
        subst ha
        obtain ⟨c0, c1, c2, c3⟩ := hc k hlt
        clear hc
        have hsn := turn_snoc l k hlt
        have HG := Lib.hid hsn; clear hsn
        generalize l.getD k zR = r at *
        obtain ⟨x, y, z, u⟩ := r
        simp only at c0 c1 c2 c3
        have hbs := hbel.size
        have HO : Hid (ObAt (wr.alloc (.cells #[.int .i64 x, .int .i64 y, .int .i64 z, .int .i64 u] 64)) w.heap.size 29 #[.int .i64 t, .int .i64 wn, .slice (some ⟨b, off, none⟩) l.length c] ∧ ObAt (wr.alloc (.cells #[.int .i64 x, .int .i64 y, .int .i64 z, .int .i64 u] 64)) (w.heap.size + 1) 29 #[.int .i64 0, .int .i64 0, .slice none 0 0] ∧ (wr.alloc (.cells #[.int .i64 x, .int .i64 y, .int .i64 z, .int .i64 u] 64)).ownsRow w.heap.size 64 4 u4 k (ress ((l.take k).map turnR)) ∧ Below w.heap.size w (wr.alloc (.cells #[.int .i64 x, .int .i64 y, .int .i64 z, .int .i64 u] 64))) := ⟨hA.old _, hA2.old _, hown.alloc _, hbel.alloc hbs _⟩
        have HC := Lib.hid (cells_new (wr.alloc (.cells #[.int .i64 x, .int .i64 y, .int .i64 z, .int .i64 u] 64)) #[.int .i64 y, .int .i64 x, .int .i64 u, .int .i64 z] 64)
        rw [World.size_alloc] at HC
        clear hH hown hbel hA hA2
        go_wp2_with (at_builtin; refine wpList_append_own_at _ rfl _ _ 27 rfl w.heap.size 64 i0 (.agg #[.int .i64 0, .int .i64 0, .int .i64 0, .int .i64 0]) 4 32 Try.underlying27 HI.out.1 HI.out.2.1 HI.out.2.2.1 HI.out.2.2.2 rfl (by decide) _ _ _ rfl (HO.out.2.2.1.alloc _) ⟨wr.heap.size + 1, 0, none⟩ 1 1 [.int .i64 y, .int .i64 x, .int .i64 u, .int .i64 z] rfl rfl HC.out ?_ ?_ ?_ ?_ ?_)
        · exact ⟨rfl, rfl, rfl, rfl⟩
        · unfold maxLen; omega
        · omega
        · first | omega | (simp; omega)
        intro v' w3 hown3 hgrow _ _
        have hbel3 : Below w.heap.size w w3 := (HO.out.2.2.2.alloc (by simp; omega) _).grown hgrow (by simp; omega) (fun g hg => by
          obtain ⟨_, h | ⟨g', cap, cur, hv, hb', _⟩⟩ := HO.out.2.2.1
          · rw [h.1] at hg; cases hg
          · rw [hv] at hg; simp [Value.ownBlock] at hg; omega)
        have hA3 := (HO.out.1.old (.cells #[.int .i64 y, .int .i64 x, .int .i64 u, .int .i64 z] 64)).grow (T' := 64) (by decide) (HO.out.2.2.1.alloc _) hgrow
        have hA4 := (HO.out.2.1.old (.cells #[.int .i64 y, .int .i64 x, .int .i64 u, .int .i64 z] 64)).grow (T' := 64) (by decide) (HO.out.2.2.1.alloc _) hgrow
        have hown4 : w3.ownsRow w.heap.size 64 4 v' (k + 1) (ress ((l.take (k + 1)).map turnR)) := by
          rw [HG.out, ress_append, List.map_take]; exact hown3
        have H3 : Hid (TuAt w t wn l (some ⟨b, off, none⟩) c (k + 1) v' w3) := ⟨hA3, hA4, hown4, hbel3⟩
        clear hown3 hgrow hown4 hbel3 hA3 hA4 HO HC HG
        go_wp2
        go_roundw
        case rel => exact ⟨k + 1, by go_num, by omega, H3⟩
        case measure => simp [intOf]; omega
      · obtain rfl : k = l.length := by omega
        obtain ⟨hA, hA2, hown, hbel⟩ := hH.out
        rw [List.take_length] at hown
        have hln : (l.map turnR).length = l.length := List.length_map ..
        obtain ⟨a2, c2, rfl, hc2, hrd, -⟩ := own_cap hown
        have HH := Lib.hid (And.intro hA (And.intro hA2 (And.intro hown (And.intro hbel hrd)))); clear hown hbel hH hA hA2 hrd
        obtain ⟨p0, p1, p2, -, -, -⟩ := HH.out.1.three
        go_wp2_with fail
        refine (HLW.out a2 c2 hc2 _ HH.out.2.2.2.2).mono ?_; rintro e w4 ⟨rfl, b4⟩
        have H4 := Lib.hid (And.intro (HH.out.2.1.keep b4) (And.intro (owns_below HH.out.2.2.1 b4) (HH.out.2.2.2.1.trans (b4.mono HH.out.2.2.2.1.size)))); clear b4 HH p0 p1 p2
        obtain ⟨q0, q1, q2, f0, f1, f2⟩ := H4.out.1.three
        have HF : Hid (∀ u0 u1 u2 : Value, (((w4.setCell ⟨w.heap.size + 1, 0, none⟩ u0).setCell ⟨w.heap.size + 1, 1, none⟩ u1).setCell ⟨w.heap.size + 1, 2, none⟩ u2).ownsRow w.heap.size 64 4 (.slice a2 l.length c2) l.length (ress (l.map turnR)) ∧ Below w.heap.size w (((w4.setCell ⟨w.heap.size + 1, 0, none⟩ u0).setCell ⟨w.heap.size + 1, 1, none⟩ u1).setCell ⟨w.heap.size + 1, 2, none⟩ u2)) := by
          intro u0 u1 u2
          refine ⟨owns_heap H4.out.2.1 (fun g e => ?_), ((H4.out.2.2.setCell (p := ⟨w.heap.size + 1, 0, none⟩) (by simp only; omega) u0).setCell (p := ⟨w.heap.size + 1, 1, none⟩) (by simp only; omega) u1).setCell (p := ⟨w.heap.size + 1, 2, none⟩) (by simp only; omega) u2⟩
          have hne : g ≠ w.heap.size + 1 := by
            intro e2
            subst e2
            exact owns_apart (g := w.heap.size + 1) (T := 29) (fr := (0, 0)) H4.out.1 (by decide) H4.out.2.1 e
          rw [Below.heap_setCell _ _ _ _ hne, Below.heap_setCell _ _ _ _ hne, Below.heap_setCell _ _ _ _ hne]
        go_wp2_with fail
        refine bodyPost_ret (v := .tuple #[.agg #[.int .i64 t, .int .i64 wn, .slice a2 l.length c2], .bool true]) ?_ rfl ⟨a2, c2, by rw [hln], by rw [hln]; exact (HF.out _ _ _).1, (HF.out _ _ _).2⟩
        simp [results, Try.results68, go_sem, *]
end Go.Proofs.Ytpfphjfpaoiicaa
