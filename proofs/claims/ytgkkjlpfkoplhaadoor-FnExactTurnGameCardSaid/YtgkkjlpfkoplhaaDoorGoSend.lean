/-
  Goals: the goals of a game, over a channel with room that is closed: the program's.
-/
import Derived.Test.YtgkkjlpfkoplhaaDoorGoGoal
import Derived.Test.YtgkkjlpfkoplhaaDoorChan
namespace Go.Proofs.YtgkkjlpfkoplhaaDoor
open Go.RowKit Go.Conc
set_option linter.unusedVariables false
set_option linter.unusedSimpArgs false

def sides (L : List (Int × Int)) : Array Value := (L.map sideV).toArray
theorem sides_push (L : List (Int × Int)) (x : Int × Int) : (sides L).push (sideV x) = sides (L ++ [x]) := by simp [sides]
theorem sides_size (L : List (Int × Int)) : (sides L).size = L.length := by simp [sides]

theorem infoSide : (Tryd.prog.info? 103).map (fun i => (i.zero, i.size, i.bytes)) = some (some (.agg #[.int .i64 0, .int .i64 0]), 2, 16) := by kernel_rfl
theorem make_goals (w : World) : (Instr.makeChan 101 (.int .i64 60)).run Tryd.prog w = .ok (.chan (some w.heap.size)) (w.alloc (.chan 60 #[] false 0 0 false)) := by
  obtain ⟨i0, hi, hz0, hz1, hz2⟩ := info_parts infoSide
  simpa using run_makeChan (P := Tryd.prog) (w := w) Tryd.underlying101 hi .i64 60 (by omega) (by rw [hz2]; omega)

/-- Goals that were sent. -/
def SentAt (w : World) (g : Nat) (L : List (Int × Int)) (closed : Bool) : Prop := w.heap[g]? = some (.chan 60 (sides L) closed L.length 0 false)
theorem SentAt.keep {w w' : World} {g : Nat} {L : List (Int × Int)} {c : Bool} (h : SentAt w g L c) (hb : Below w.heap.size w w') : SentAt w' g L c := by
  unfold SentAt at *; rw [hb.block _ (Array.getElem?_eq_some_iff.1 h).1]; exact h
theorem SentAt.lt {w : World} {g : Nat} {L : List (Int × Int)} {c : Bool} (h : SentAt w g L c) : g < w.heap.size := (Array.getElem?_eq_some_iff.1 h).1
theorem SentAt.send {w : World} {g : Nat} {L : List (Int × Int)} (h : SentAt w g L false) (x : Int × Int) : SentAt (w.setChan g 60 ((sides L).push (sideV x)) false (L.length + 1) 0 false) g (L ++ [x]) false := by
  unfold SentAt
  rw [heap_setChan _ _ _ _ _ _ _ _ h.lt, sides_push, List.length_append]; rfl

/-- What goalsOf hands back. -/
def GoalsR (o : Option (List (Int × Int))) (w : World) (e : Ending) (w' : World) : Prop :=
  (∀ L, o = some L → ∃ g, e = .returned (.tuple #[.chan (some g), .bool true]) ∧ w.heap.size ≤ g ∧ SentAt w' g L true) ∧ (o = none → e = .returned (.tuple #[.chan none, .bool false])) ∧ Below w.heap.size w w'

set_option maxHeartbeats 3200000 in
theorem goalsOf_any (ks : List Int) (game : ByteArray) (a : Option Addr) (c : Nat) (w : World) (hl : (ks.length : Int) ≤ 1000000000000) (hs : (game.size : Int) ≤ 1048576) (h : Reads w a (ints ks)) :
    Calls Tryd.prog 38 #[.slice a ks.length c, .string game] w fun e w' => GoalsR (playG ks game.data.toList) w e w' := by
  have HK := Lib.hid (implAreKinds_any ks a c w hl h)
  have hlen : game.data.toList.length = game.size := by rw [Array.length_toList]; rfl
  cases hg : goodK ks
  · have e1 : playG ks game.data.toList = none := by simp [playG, hg]
    have HE := Lib.hid e1
    have HG := Lib.hid hg; clear hg e1 h
    go_enter Tryd.func38, Tryd.ntmps38
    go_wp2_with fail
    refine HK.out.mono ?_; rintro e w1 ⟨rfl, b1⟩
    rw [HG.out]
    go_wp2_with fail
    refine bodyPost_ret (v := .tuple #[.chan none, .bool false]) (by simp [results, Tryd.results38, go_sem]) rfl ⟨fun L e => (by rw [HE.out] at e; cases e), fun _ => rfl, b1⟩
  · have hp : playG ks game.data.toList = gameG ks game.data.toList := by simp [playG, hg]
    have HP := Lib.hid hp; clear hp
    have HGO := Lib.hid (fun (ch : UInt8) w' (hr : Reads w' a (ints ks)) => goalOf_any ks hg ch a c w' hr)
    have HR := Lib.hid h; clear h
    have HG := Lib.hid hg; clear hg
    have hmc := make_goals
    go_enter Tryd.func38, Tryd.ntmps38
    go_wp2_with fail
    refine HK.out.mono ?_; rintro e w1 ⟨rfl, b1⟩
    rw [HG.out]
    have B1 := Lib.hid b1; clear b1
    go_wp2_with fail
    have h0 : SentAt (w1.alloc (.chan 60 #[] false 0 0 false)) w1.heap.size [] false := heap_alloc_last w1 _
    have H0 : Hid (SentAt (w1.alloc (.chan 60 #[] false 0 0 false)) w1.heap.size [] false ∧ Below w.heap.size w (w1.alloc (.chan 60 #[] false 0 0 false)) ∧ w.heap.size ≤ w1.heap.size) := ⟨h0, B1.out.alloc B1.out.size _, B1.out.size⟩
    clear h0 hmc
    generalize w1.alloc (.chan 60 #[] false 0 0 false) = W1 at *
    generalize w1.heap.size = g at *
    go_loopw [16] (fun i wr => ∃ (k : Nat) (L : List (Int × Int)), i = .int .i64 k ∧ k ≤ game.size ∧ k ≤ 60 ∧ L.length = k ∧ Hid (goalsG ks (game.data.toList.take k) = some L) ∧ Hid (SentAt wr g L false) ∧ Hid (Below w.heap.size w wr)) (fun i _ => game.size - (intOf i).toNat)
    case atStart => exact ⟨0, [], rfl, Nat.zero_le _, by omega, rfl, Lib.hid rfl, Lib.hid H0.out.1, Lib.hid H0.out.2.1⟩
    case round =>
      have HG0 := Lib.hid H0.out.2.2
      clear H0
      obtain ⟨k, L, rfl, hk, hk60, hLk, hL, hS, hB⟩ := hrel
      by_cases hlt : k < game.size
      · generalize hR12 : Code.region 12 _ false = R12
        have b1 : (k : Int) < (game.size : Int) := by omega
        have hidx : ∀ W : World, (Instr.index 9 (.string game) (.int .i64 (k : Int))).run Tryd.prog W = .ok (.int .u8 ((game.data[k]'hlt).toNat : Int)) W := fun W => by
          rw [run_index_string W _ _ _ _ Tryd.underlying9]
          simp [hlt]; rfl
        have hgo := HGO.out (game.data[k]'hlt) wr (HR.out.old hB.out)
        have htk : game.data.toList.take (k + 1) = game.data.toList.take k ++ [game.data[k]'hlt] := by
          rw [List.take_succ_eq_append_getElem (by simpa using hlt)]; simp
        have hdr : game.data.toList = game.data.toList.take k ++ (game.data[k]'hlt) :: game.data.toList.drop (k + 1) := by
          refine (List.take_append_drop k game.data.toList).symm.trans ?_
          rw [List.drop_eq_getElem_cons (by simpa using hlt)]; simp
        have hsn := goalsG_snoc ks (game.data[k]'hlt) (game.data.toList.take k)
        rw [← htk, hL.out] at hsn
        generalize (game.data[k]'hlt) = ch at *
        have HSN := Lib.hid hsn; clear hsn htk
        cases hgc : goalG ks ch with
        | none =>
          have hbad : gameG ks game.data.toList = none := by
            unfold gameG; split
            · rw [hdr]; exact goalsG_bad hgc _ _
            · rfl
          have HBAD := Lib.hid hbad; clear hbad hdr
          rw [hgc] at hgo
          have HGOC : Hid (Calls Tryd.prog 64 #[.slice a ks.length c, .int .u8 (ch.toNat : Int)] wr fun e w' => e = .returned (.tuple #[.agg #[.int .i64 0, .int .i64 0], .bool false]) ∧ Below wr.heap.size wr w') := hgo
          clear hgc hgo
          go_wp2_with fail
          refine HGOC.out.mono ?_; rintro e w2 ⟨rfl, b2⟩
          have B2 := Lib.hid (hB.out.trans (b2.mono hB.out.size)); clear b2
          have hz2 := B2.out.size
          go_wp2_with fail
          refine bodyPost_ret (v := .tuple #[.chan none, .bool false]) (by simp [results, Tryd.results38, go_sem]) rfl ⟨fun L e => (by rw [HP.out, HBAD.out] at e; cases e), fun _ => rfl, B2.out.alloc hz2 _⟩
        | some x =>
          rw [hgc] at hgo
          have HGOC : Hid (Calls Tryd.prog 64 #[.slice a ks.length c, .int .u8 (ch.toNat : Int)] wr fun e w' => e = .returned (.tuple #[.agg #[.int .i64 x.1, .int .i64 x.2], .bool true]) ∧ Below wr.heap.size wr w') := hgo
          have hsn2 := HSN.out
          rw [hgc] at hsn2
          have HS2 : Hid (goalsG ks (game.data.toList.take (k + 1)) = some (L ++ [x])) := hsn2
          clear hgc hgo hsn2 hdr
          go_wp2_with fail
          refine HGOC.out.mono ?_; rintro e w2 ⟨rfl, b2⟩
          have B2 := Lib.hid (hB.out.trans (b2.mono hB.out.size))
          have S2 := Lib.hid (hS.out.keep b2); clear b2
          have hz2 := B2.out.size
          obtain ⟨r0, r1⟩ := two_new w2 (.int .i64 x.1) (.int .i64 x.2) 103
          go_wp2_with fail
          subst hR12
          have S3 := S2.out.keep (below_new w2 (.cells #[.int .i64 x.1, .int .i64 x.2] 103))
          have B3 : Below w.heap.size w (w2.alloc (.cells #[.int .i64 x.1, .int .i64 x.2] 103)) := B2.out.alloc hz2 _
          generalize w2.alloc (.cells #[.int .i64 x.1, .int .i64 x.2] 103) = w3 at *
          refine RegK.region ?_
          change RegK _ _ _ [0, 1, 2] _ _
          by_cases hroom : k < 60
          · refine RegK.sel_send_room (c := g) (cap := 60) (buf := sides L) (s := L.length) (r := 0) (tm := false) (v := .agg #[.int .i64 x.1, .int .i64 x.2]) (z := .agg #[.int .i64 0, .int .i64 0]) rfl (by kernel_rfl) (by simp [go_sem, execOp, scase, Act.eval]) S3 (by rw [sides_size]; omega) ?_
            have S4 := S3.send x
            have B4 : Below w.heap.size w (w3.setChan g 60 ((sides L).push (sideV x)) false (L.length + 1) 0 false) := below_setChan B3 HG0.out _ _ _ _ _ _
            have H4 := Lib.hid (And.intro S4 B4); clear S4 B4 S3 B3 S2 B2
            change RegK _ _ _ _ _ (w3.setChan g 60 ((sides L).push (sideV x)) false (L.length + 1) 0 false)
            generalize w3.setChan g 60 ((sides L).push (sideV x)) false (L.length + 1) 0 false = w4 at *
            (try simp only [List.getElem_toArray, List.getElem_cons_succ, List.getElem_cons_zero, Act.put, List.setIfInBounds_toArray, List.set_cons_zero, List.set_cons_succ])
            refine RegK.pure (v := .int .i64 0) rfl (by kernel_rfl) (by simp [go_sem, execOp, Act.eval, goInt]) ?_
            (try simp only [List.getElem_toArray, List.getElem_cons_succ, List.getElem_cons_zero, Act.put, List.setIfInBounds_toArray, List.set_cons_zero, List.set_cons_succ])
            refine RegK.pure (v := .bool true) rfl (by kernel_rfl) (by simp [go_sem, execOp, Act.eval]) ?_
            (try simp only [List.getElem_toArray, List.getElem_cons_succ, List.getElem_cons_zero, Act.put, List.setIfInBounds_toArray, List.set_cons_zero, List.set_cons_succ])
            refine RegK.end ?_
            go_wp2_with fail
            go_roundw
            case rel => exact ⟨k + 1, L ++ [x], by go_num, by omega, by omega, by simp [hLk], HS2, Lib.hid H4.out.1, Lib.hid H4.out.2⟩
            case measure => simp [intOf]; omega
          · have hbad : gameG ks game.data.toList = none := by
              unfold gameG; rw [if_neg]; rw [hlen]; omega
            have HBAD := Lib.hid hbad; clear hbad
            refine RegK.sel_send_full (c := g) (cap := 60) (buf := sides L) (s := L.length) (r := 0) (tm := false) (v := .agg #[.int .i64 x.1, .int .i64 x.2]) (z := .agg #[.int .i64 0, .int .i64 0]) rfl (by kernel_rfl) (by simp [go_sem, execOp, scase, Act.eval]) S3 (by rw [sides_size]; omega) ?_
            have H4 := Lib.hid B3; clear S3 B3 S2 B2
            (try simp only [List.getElem_toArray, List.getElem_cons_succ, List.getElem_cons_zero, Act.put, List.setIfInBounds_toArray, List.set_cons_zero, List.set_cons_succ])
            refine RegK.pure (v := .int .i64 (-1)) rfl (by kernel_rfl) (by simp [go_sem, execOp, Act.eval, goInt]) ?_
            (try simp only [List.getElem_toArray, List.getElem_cons_succ, List.getElem_cons_zero, Act.put, List.setIfInBounds_toArray, List.set_cons_zero, List.set_cons_succ])
            refine RegK.pure (v := .bool false) rfl (by kernel_rfl) (by simp [go_sem, execOp, Act.eval]) ?_
            (try simp only [List.getElem_toArray, List.getElem_cons_succ, List.getElem_cons_zero, Act.put, List.setIfInBounds_toArray, List.set_cons_zero, List.set_cons_succ])
            refine RegK.end ?_
            go_wp2_with fail
            refine bodyPost_ret (v := .tuple #[.chan none, .bool false]) (by simp [results, Tryd.results38, go_sem]) rfl ⟨fun L e => (by rw [HP.out, HBAD.out] at e; cases e), fun _ => rfl, H4.out⟩
      · obtain rfl : k = game.size := by omega
        have hall : gameG ks game.data.toList = some L := by
          have := hL.out
          rw [List.take_of_length_le (by rw [hlen]; omega)] at this
          unfold gameG; rw [if_pos (by rw [hlen]; omega)]; exact this
        have HALL := Lib.hid hall; clear hall hL
        have HLk := Lib.hid hLk; clear hLk
        have hch : wr.heap[g]? = some (.chan 60 (sides L) false L.length 0 false) := hS.out
        have hcl := fun ats ty => run_close_open (P := Tryd.prog) (w := wr) ats ty hch
        have hend : SentAt (wr.setChan g 60 (sides L) true L.length 0 false) g L true := heap_setChan _ _ _ _ _ _ _ _ hS.out.lt
        have hbel : Below w.heap.size w (wr.setChan g 60 (sides L) true L.length 0 false) := below_setChan hB.out HG0.out _ _ _ _ _ _
        have HEND := Lib.hid (And.intro hend hbel); clear hend hbel hch
        go_wp2_with fail
        refine bodyPost_ret (v := .tuple #[.chan (some g), .bool true]) (by simp [results, Tryd.results38, go_sem]) rfl ⟨fun M e => ?_, fun e => (by rw [HP.out, HALL.out] at e; cases e), HEND.out.2⟩
        rw [HP.out, HALL.out] at e
        cases e
        exact ⟨g, rfl, HG0.out, HEND.out.1⟩
end Go.Proofs.YtgkkjlpfkoplhaaDoor
