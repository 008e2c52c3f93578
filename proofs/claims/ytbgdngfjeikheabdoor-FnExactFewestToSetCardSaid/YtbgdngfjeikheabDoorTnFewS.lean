/-
  Tennis: the fewest points to a set: the model.
-/
import Derived.Test.YtbgdngfjeikheabDoorTnFewB
import Derived.MapKept
namespace Go.Proofs.YtbgdngfjeikheabDoor
open Go.RowKit
set_option linter.unusedVariables false
set_option linter.unusedSimpArgs false

def sideB (s : ByteArray) : Bool := s == ⟨#[97]⟩ || s == ⟨#[98]⟩
theorem sideB_true {s : ByteArray} : sideB s = true ↔ s = ⟨#[97]⟩ ∨ s = ⟨#[98]⟩ := by unfold sideB; rw [Bool.or_eq_true, Go.MapKept.bytes_beq, Go.MapKept.bytes_beq]
theorem str_is (d : ByteArray) (c : UInt8) : d.toList = [c] ↔ d = ⟨#[c]⟩ := by
  rw [ByteArray.toList_eq]
  constructor
  · intro h
    obtain ⟨x⟩ := d
    have : x = #[c] := Array.toList_inj.1 h
    rw [this]
  · intro h; rw [h]
theorem str_beq (d : ByteArray) (c : UInt8) : (d.toList == [c]) = (d == (⟨#[c]⟩ : ByteArray)) := by
  rw [Bool.eq_iff_iff, beq_iff_eq, str_is, Go.MapKept.bytes_beq]
set_option maxHeartbeats 400000 in
theorem isSideS_any (s : ByteArray) (w : World) :
    Calls Tryd.prog 65 #[.string s] w fun e w' => e = .returned (.bool (sideB s)) ∧ w = w' := by
  have hb : sideB s = (s == ⟨#[97]⟩ || s == ⟨#[98]⟩) := rfl
  rw [← str_beq, ← str_beq] at hb
  have HB := Lib.hid hb; clear hb
  by_cases h1 : s.toList = [97]
  · have e1 : (s.toList == [97]) = true := by simpa using h1
    go_enter Tryd.func65, Tryd.ntmps65
    go_wp2
    go_ret
    exact ⟨ret_bool (by rw [HB.out, e1]; try simp), rfl⟩
  · have e1 : (s.toList == [97]) = false := by simpa using h1
    go_enter Tryd.func65, Tryd.ntmps65
    go_wp2
    go_ret
    exact ⟨ret_bool (by rw [HB.out, e1]; try simp), rfl⟩


/-- The answers. -/
def fewVS (s : ByteArray) (c : UInt8) : Int := match (wayS s).2.2 with
  | none => 0
  | some p => fewS 14 (cntA (gamesL s)) (cntB (gamesL s)) p.1 p.2 c
def fewOS (s : ByteArray) (c : UInt8) : Bool := match (wayS s).2.2 with
  | none => decide (winW (cntA (gamesL s)) (cntB (gamesL s)) = ⟨#[c]⟩)
  | some _ => true
def fewV (s d : ByteArray) : Int := if goodB s && sideB d then fewVS s (if d = ⟨#[97]⟩ then 97 else 98) else 0
def fewOk (s d : ByteArray) : Bool := if goodB s && sideB d then fewOS s (if d = ⟨#[97]⟩ then 97 else 98) else false
theorem few_bad {s d : ByteArray} (h : goodB s = false ∨ sideB d = false) : fewV s d = 0 ∧ fewOk s d = false := by
  have e : (goodB s && sideB d) = false := by rcases h with h | h <;> simp [h]
  unfold fewV fewOk; rw [e]; exact ⟨rfl, rfl⟩
theorem few_good {s : ByteArray} {c : UInt8} (hc : c = 97 ∨ c = 98) (h : goodB s = true) : fewV s ⟨#[c]⟩ = fewVS s c ∧ fewOk s ⟨#[c]⟩ = fewOS s c := by
  have hn : ¬ ((⟨#[98]⟩ : ByteArray) = ⟨#[97]⟩) := by decide
  unfold fewV fewOk
  rcases hc with rfl | rfl
  · rw [h, sideB_true.2 (.inl rfl), if_pos rfl]; exact ⟨rfl, rfl⟩
  · rw [h, sideB_true.2 (.inr rfl), if_neg hn]; exact ⟨rfl, rfl⟩

/-- The points with n more. -/
def nowB (s : ByteArray) (c : UInt8) (n : Nat) : ByteArray := ⟨(s.data.toList ++ List.replicate n c).toArray⟩
theorem now_0 (s : ByteArray) (c : UInt8) : nowB s c 0 = s := by unfold nowB; rw [List.replicate_zero, List.append_nil]
theorem now_size (s : ByteArray) (c : UInt8) (n : Nat) : (nowB s c n).size = s.size + n := by
  show (s.data.toList ++ List.replicate n c).toArray.size = _
  rw [List.size_toArray, List.length_append, List.length_replicate, len_list]
theorem now_way (s : ByteArray) (c : UInt8) (n : Nat) : setS 14 [] (nowB s c n).data.toList = wayN s c n := by simp [nowB, wayN]
theorem tnSetN_any (s : ByteArray) (c : UInt8) (n : Nat) (w : World) (h : (s.size : Int) + n ≤ 100000) :
    Calls Tryd.prog 57 #[.string (nowB s c n)] w fun e w' => e = .returned (setSV (nowB s c n) (wayN s c n)) ∧ Below w.heap.size w w' := by
  have := tnSet_any (nowB s c n) w (by rw [now_size]; omega)
  rw [now_way] at this
  exact this
theorem tnWonN_any (s : ByteArray) (c : UInt8) (n : Nat) {G : List UInt8} (hG : (wayN s c n).1 = G) (w : World) :
    Calls Tryd.prog 58 #[.string ⟨G.toArray⟩] w fun e w' => e = .returned (.tuple #[.int .i64 (cntA G), .int .i64 (cntB G)]) ∧ w = w' := by
  obtain ⟨hn, hl, -, -⟩ := set_inv 14 [] (s.data.toList ++ List.replicate n c) near_00 (by decide) (by decide)
  rw [show setS 14 [] (s.data.toList ++ List.replicate n c) = wayN s c n from rfl, hG] at hn hl
  have hb := near_bd hn
  have hz : ((⟨G.toArray⟩ : ByteArray).size : Int) = G.length := by simp [ByteArray.size]
  have := tnWon_any ⟨G.toArray⟩ w (by rw [hz]; omega)
  rw [hz, show (⟨G.toArray⟩ : ByteArray).data.toList = G from by simp, show (G.length : Int) - cntA G = cntB G from by omega] at this
  exact this

set_option maxHeartbeats 3200000 in
theorem specFewS_any (s : ByteArray) (c : UInt8) (hc : c = 97 ∨ c = 98) (w : World) (hg : goodB s = true) :
    Calls Tryd.prog 29 #[.string s, .string ⟨#[c]⟩] w fun e w' => e = .returned (.tuple #[.int .i64 (fewVS s c), .bool (fewOS s c)]) ∧ Below w.heap.size w w' := by
  have hlen := good_len hg
  have HI : Hid (∀ w, Calls Tryd.prog 55 #[.string s] w fun e w' => e = .returned (.bool true) ∧ Below w.heap.size w w') := fun w => by
    have := tnGood_any s w (by omega); rw [hg] at this; exact this
  have HST := Lib.hid (fun W => tnSet_good s W hg)
  have HWN := Lib.hid (fun W => wonG_any s W)
  obtain ⟨inr, inl, ino, inx⟩ := games_inv s
  have hbd := near_bd inr
  have HSD := Lib.hid (fun W => tnWinner_any (cntA (gamesL s)) (cntB (gamesL s)) W (by omega) (by omega) (by omega) (by omega))
  cases hx : (wayS s).2.2 with
  | none =>
    rw [hx] at ino
    have hv : fewVS s c = 0 := by unfold fewVS; rw [hx]
    have ho : fewOS s c = decide (winW (cntA (gamesL s)) (cntB (gamesL s)) = ⟨#[c]⟩) := by unfold fewOS; rw [hx]
    rw [hv, ho]
    have hw : winW (cntA (gamesL s)) (cntB (gamesL s)) = ⟨#[97]⟩ ∨ winW (cntA (gamesL s)) (cntB (gamesL s)) = ⟨#[98]⟩ := by
      unfold winW; rw [ino]; simp only [Option.isNone, if_true]
      split
      · exact .inl rfl
      · exact .inr rfl
    clear hv ho hx ino inx hbd inr inl hg
    rcases hw with hw | hw
    all_goals
      rw [hw] at HSD ⊢
      clear hw
      rcases hc with rfl | rfl
    all_goals
      go_enter Tryd.func29, Tryd.ntmps29
      go_wp2_with fail
      refine (HI.out _).mono ?_; rintro e w1 ⟨rfl, b1⟩
      go_wp2_with fail
      refine (HST.out _).mono ?_; rintro e w2 ⟨rfl, b2⟩
      have HB2 := Lib.hid (b1.trans (b2.mono b1.size)); clear b1 b2
      go_wp2_with fail
      refine (HWN.out _).mono ?_; rintro e w3 ⟨rfl, rfl⟩
      go_wp2_with fail
      refine (HSD.out _).mono ?_; rintro e w4 ⟨rfl, rfl⟩
      go_wp2_with fail
      go_ret2
      exact ⟨rfl, HB2.out⟩
  | some p =>
    obtain ⟨x, y⟩ := p
    rw [hx] at ino
    have hv : fewVS s c = fewS 14 (cntA (gamesL s)) (cntB (gamesL s)) x y c := by unfold fewVS; rw [hx]
    have ho : fewOS s c = true := by unfold fewOS; rw [hx]
    rw [ho]
    have hwy : wayS s = (gamesL s, (wayS s).2.1, some (x, y)) := by
      have : wayS s = ((wayS s).1, (wayS s).2.1, (wayS s).2.2) := rfl
      rw [hx] at this; exact this
    have hnx : nextS (wayS s) = (x, y) := by unfold nextS; rw [hx]; rfl
    rw [hnx] at inx
    simp only at inx
    have h0 : wayN s c 0 = (gamesL s, (wayS s).2.1, some (x, y)) := by rw [wayN_0]; exact hwy
    have hfb := few_bd (f := 14) (a := cntA (gamesL s)) (b := cntB (gamesL s)) (c := c) inx.1 (by omega) inx.2.2.1 (by omega) (Nat.le_refl _)
    rw [← hv] at hfb
    have H0 : Hid (FewAt s c (fewVS s c) 0) := .going _ _ x y 14 h0 (wayN_step h0).1 (by omega) (by rw [hv]; simp)
    have hpos : 0 ≤ fewVS s c := by
      rw [hv]; exact few_pos hc inr (fun _ => (wayN_step h0).1.race)
    have hw : winW (cntA (gamesL s)) (cntB (gamesL s)) = ⟨#[45]⟩ := by unfold winW; rw [ino]; rfl
    rw [hw] at HSD
    clear hv ho hx ino inx hbd inr inl hg hwy hnx h0 hw
    obtain ⟨F, hF⟩ : ∃ F, F = fewVS s c := ⟨_, rfl⟩
    rw [← hF] at H0 hpos hfb ⊢
    clear hF
    have hn0 : nowB s c 0 = s := now_0 s c
    have HN0 := Lib.hid hn0; clear hn0
    rcases hc with hcc | hcc
    · go_enter Tryd.func29, Tryd.ntmps29
      subst hcc
      go_wp2_with fail
      refine (HI.out _).mono ?_; rintro e w1 ⟨rfl, b1⟩
      go_wp2_with fail
      refine (HST.out _).mono ?_; rintro e w2 ⟨rfl, b2⟩
      have HB2 := Lib.hid (b1.trans (b2.mono b1.size)); clear b1 b2
      go_wp2_with fail
      refine (HWN.out _).mono ?_; rintro e w3 ⟨rfl, rfl⟩
      go_wp2_with fail
      refine (HSD.out _).mono ?_; rintro e w4 ⟨rfl, rfl⟩
      go_wp2_with fail
      clear HI HST HWN HSD
      go_loopw [11, 12] (fun i v wr => ∃ n : Nat, i = .int .i64 n ∧ v = .string (nowB s 97 n) ∧ (n : Int) ≤ F ∧ Hid (FewAt s 97 F n) ∧ Hid (Below w.heap.size w wr)) (fun i _ _ => (F - intOf i).toNat)
      case atStart => exact ⟨0, rfl, by rw [HN0.out], hpos, H0, HB2⟩
      case round =>
        clear HB2 H0 HN0
        obtain ⟨n, rfl, rfl, hnF, HA, HB⟩ := hrel
        have HSN := Lib.hid (fun W => tnSetN_any s 97 n W (by omega))
        rcases HA.out with ⟨G, r, x, y, f, hw, ho, hf, hF⟩ | ⟨G, r, hw, hnr, hv, hF⟩
        · obtain ⟨nx, nlt⟩ := few_next (.inl rfl) hw ho hf hF
          have NX := Lib.hid nx; clear nx hF
          have hb := near_bd ho.near
          have HWN := Lib.hid (fun W => tnWonN_any s 97 n (G := G) (by rw [hw]) W)
          have HSD := Lib.hid (fun W => tnWinner_any (cntA G) (cntB G) W (by omega) (by omega) (by omega) (by omega))
          rw [show winW (cntA G) (cntB G) = ⟨#[45]⟩ from by unfold winW; rw [ho.going]; rfl] at HSD
          rw [hw] at HSN
          unfold setSV at HSN
          clear hw ho hf hb HA
          have hadd : ∀ W : World, (Op.stringOp .add (nowB s 97 n) ⟨#[97]⟩).run Tryd.prog W = .ok (.string (nowB s 97 (n + 1))) W := fun W => by
            have := run_string_add_lists (P := Tryd.prog) W (s.data.toList ++ List.replicate n 97) [97] (by simp; omega) (by simp)
            rw [List.append_assoc, ← List.replicate_succ'] at this
            exact this
          generalize nowB s 97 n = nb at *
          generalize hnb2 : nowB s 97 (n + 1) = nb2 at *
          have HNB := Lib.hid hnb2; clear hnb2
          go_wp2_with fail
          refine (HSN.out _).mono ?_; rintro e w5 ⟨rfl, b5⟩
          have HB5 := Lib.hid (HB.out.trans (b5.mono HB.out.size)); clear b5
          go_wp2_with fail
          refine (HWN.out _).mono ?_; rintro e w6 ⟨rfl, rfl⟩
          go_wp2_with fail
          refine (HSD.out _).mono ?_; rintro e w7 ⟨rfl, rfl⟩
          go_wp2_with fail
          go_roundw
          case rel => exact ⟨n + 1, by go_num, by rw [HNB.out], by omega, NX, HB5⟩
          case measure => simp [intOf]; omega
        · have hb := near_bd hnr
          have HWN := Lib.hid (fun W => tnWonN_any s 97 n (G := G) (by rw [hw]) W)
          have HSD := Lib.hid (fun W => tnWinner_any (cntA G) (cntB G) W (by omega) (by omega) (by omega) (by omega))
          rw [hv] at HSD
          rw [hw] at HSN
          unfold setSV at HSN
          have HF := Lib.hid hF; clear hF hw hb hv hnr HA
          generalize nowB s 97 n = nb at *
          go_wp2_with fail
          refine (HSN.out _).mono ?_; rintro e w5 ⟨rfl, b5⟩
          have HB5 := Lib.hid (HB.out.trans (b5.mono HB.out.size)); clear b5
          go_wp2_with fail
          refine (HWN.out _).mono ?_; rintro e w6 ⟨rfl, rfl⟩
          go_wp2_with fail
          refine (HSD.out _).mono ?_; rintro e w7 ⟨rfl, rfl⟩
          go_wp2_with fail
          refine bodyPost_ret (v := .tuple #[.int .i64 n, .bool true]) (by simp [results, Tryd.results29, go_sem]) rfl ⟨by rw [HF.out], HB5.out⟩
    · go_enter Tryd.func29, Tryd.ntmps29
      subst hcc
      go_wp2_with fail
      refine (HI.out _).mono ?_; rintro e w1 ⟨rfl, b1⟩
      go_wp2_with fail
      refine (HST.out _).mono ?_; rintro e w2 ⟨rfl, b2⟩
      have HB2 := Lib.hid (b1.trans (b2.mono b1.size)); clear b1 b2
      go_wp2_with fail
      refine (HWN.out _).mono ?_; rintro e w3 ⟨rfl, rfl⟩
      go_wp2_with fail
      refine (HSD.out _).mono ?_; rintro e w4 ⟨rfl, rfl⟩
      go_wp2_with fail
      clear HI HST HWN HSD
      go_loopw [11, 12] (fun i v wr => ∃ n : Nat, i = .int .i64 n ∧ v = .string (nowB s 98 n) ∧ (n : Int) ≤ F ∧ Hid (FewAt s 98 F n) ∧ Hid (Below w.heap.size w wr)) (fun i _ _ => (F - intOf i).toNat)
      case atStart => exact ⟨0, rfl, by rw [HN0.out], hpos, H0, HB2⟩
      case round =>
        clear HB2 H0 HN0
        obtain ⟨n, rfl, rfl, hnF, HA, HB⟩ := hrel
        have HSN := Lib.hid (fun W => tnSetN_any s 98 n W (by omega))
        rcases HA.out with ⟨G, r, x, y, f, hw, ho, hf, hF⟩ | ⟨G, r, hw, hnr, hv, hF⟩
        · obtain ⟨nx, nlt⟩ := few_next (.inr rfl) hw ho hf hF
          have NX := Lib.hid nx; clear nx hF
          have hb := near_bd ho.near
          have HWN := Lib.hid (fun W => tnWonN_any s 98 n (G := G) (by rw [hw]) W)
          have HSD := Lib.hid (fun W => tnWinner_any (cntA G) (cntB G) W (by omega) (by omega) (by omega) (by omega))
          rw [show winW (cntA G) (cntB G) = ⟨#[45]⟩ from by unfold winW; rw [ho.going]; rfl] at HSD
          rw [hw] at HSN
          unfold setSV at HSN
          clear hw ho hf hb HA
          have hadd : ∀ W : World, (Op.stringOp .add (nowB s 98 n) ⟨#[98]⟩).run Tryd.prog W = .ok (.string (nowB s 98 (n + 1))) W := fun W => by
            have := run_string_add_lists (P := Tryd.prog) W (s.data.toList ++ List.replicate n 98) [98] (by simp; omega) (by simp)
            rw [List.append_assoc, ← List.replicate_succ'] at this
            exact this
          generalize nowB s 98 n = nb at *
          generalize hnb2 : nowB s 98 (n + 1) = nb2 at *
          have HNB := Lib.hid hnb2; clear hnb2
          go_wp2_with fail
          refine (HSN.out _).mono ?_; rintro e w5 ⟨rfl, b5⟩
          have HB5 := Lib.hid (HB.out.trans (b5.mono HB.out.size)); clear b5
          go_wp2_with fail
          refine (HWN.out _).mono ?_; rintro e w6 ⟨rfl, rfl⟩
          go_wp2_with fail
          refine (HSD.out _).mono ?_; rintro e w7 ⟨rfl, rfl⟩
          go_wp2_with fail
          go_roundw
          case rel => exact ⟨n + 1, by go_num, by rw [HNB.out], by omega, NX, HB5⟩
          case measure => simp [intOf]; omega
        · have hb := near_bd hnr
          have HWN := Lib.hid (fun W => tnWonN_any s 98 n (G := G) (by rw [hw]) W)
          have HSD := Lib.hid (fun W => tnWinner_any (cntA G) (cntB G) W (by omega) (by omega) (by omega) (by omega))
          rw [hv] at HSD
          rw [hw] at HSN
          unfold setSV at HSN
          have HF := Lib.hid hF; clear hF hw hb hv hnr HA
          generalize nowB s 98 n = nb at *
          go_wp2_with fail
          refine (HSN.out _).mono ?_; rintro e w5 ⟨rfl, b5⟩
          have HB5 := Lib.hid (HB.out.trans (b5.mono HB.out.size)); clear b5
          go_wp2_with fail
          refine (HWN.out _).mono ?_; rintro e w6 ⟨rfl, rfl⟩
          go_wp2_with fail
          refine (HSD.out _).mono ?_; rintro e w7 ⟨rfl, rfl⟩
          go_wp2_with fail
          refine bodyPost_ret (v := .tuple #[.int .i64 n, .bool true]) (by simp [results, Tryd.results29, go_sem]) rfl ⟨by rw [HF.out], HB5.out⟩

set_option maxHeartbeats 1600000 in
theorem specFewestToSet_any (s d : ByteArray) (w : World) (hs : (s.size : Int) ≤ 1000000000000) :
    Calls Tryd.prog 29 #[.string s, .string d] w fun e w' => e = .returned (.tuple #[.int .i64 (fewV s d), .bool (fewOk s d)]) ∧ Below w.heap.size w w' := by
  cases hg : goodB s
  · rw [(few_bad (.inl hg)).1, (few_bad (.inl hg)).2]
    have HI := Lib.hid (fun W => tnGood_any s W hs)
    rw [hg] at HI
    clear hg
    go_enter Tryd.func29, Tryd.ntmps29
    go_wp2_with fail
    refine (HI.out _).mono ?_; rintro e w1 ⟨rfl, b1⟩
    have HB1 := Lib.hid b1; clear b1
    go_wp2_with fail
    refine bodyPost_ret (v := .tuple #[.int .i64 0, .bool false]) (by simp [results, Tryd.results29, go_sem]) rfl ⟨rfl, HB1.out⟩
  · by_cases da : d = ⟨#[97]⟩
    · subst da
      rw [(few_good (.inl rfl) hg).1, (few_good (.inl rfl) hg).2]
      exact specFewS_any s 97 (.inl rfl) w hg
    by_cases db : d = ⟨#[98]⟩
    · subst db
      rw [(few_good (.inr rfl) hg).1, (few_good (.inr rfl) hg).2]
      exact specFewS_any s 98 (.inr rfl) w hg
    have hb : sideB d = false := by
      cases hb : sideB d
      · rfl
      · rcases sideB_true.1 hb with h | h
        · exact absurd h da
        · exact absurd h db
    rw [(few_bad (.inr hb)).1, (few_bad (.inr hb)).2]
    have n1 : ¬ d.toList = [97] := fun h => da ((str_is _ _).1 h)
    have n2 : ¬ d.toList = [98] := fun h => db ((str_is _ _).1 h)
    have n3 : (d.toList == [97]) = false := by simpa using n1
    have n4 : (d.toList == [98]) = false := by simpa using n2
    have HI := Lib.hid (fun W => tnGood_any s W hs)
    rw [hg] at HI
    clear hb da db hg
    go_enter Tryd.func29, Tryd.ntmps29
    go_wp2_with fail
    refine (HI.out _).mono ?_; rintro e w1 ⟨rfl, b1⟩
    have HB1 := Lib.hid b1; clear b1
    go_wp2_with fail
    refine bodyPost_ret (v := .tuple #[.int .i64 0, .bool false]) (by simp [results, Tryd.results29, go_sem]) rfl ⟨rfl, HB1.out⟩

end Go.Proofs.YtbgdngfjeikheabDoor
