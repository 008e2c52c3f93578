/-
  Pins: the text of a frame's balls.
-/
import Derived.Test.YtgkkjlpfkoplhaaDoorPnFrame
import Derived.Test.YtgkkjlpfkoplhaaDoorPnTxM
import Derived.Test.YtgkkjlpfkoplhaaDoorText
import Derived.Test.YtgkkjlpfkoplhaaDoorShelf
import Derived.OwnWalk
import Derived.Deep.QuietTactic
namespace Go.Proofs.YtgkkjlpfkoplhaaDoor
open Go.RowKit
set_option linter.unusedVariables false
set_option linter.unusedSimpArgs false

theorem num_dec : ∀ m : Nat, m < 100 → Lib.decDigits m = numF 1 m := by decide +kernel
theorem below_one (w : World) (o : Obj) : Below w.heap.size w (w.alloc o) := (Below.refl _ _).alloc (Nat.le_refl _) _
theorem sg_take {bs : List Int} {k : Nat} (hk : k < bs.length) : sgL (10, true) (bs.take (k + 1)) = sgL (10, true) (bs.take k) ++ signP (stL (10, true) (bs.take k)) (bs.getD k (-1)) ∧ stL (10, true) (bs.take (k + 1)) = stepP (stL (10, true) (bs.take k)) (bs.getD k (-1)) := by
  have e : bs.getD k (-1) = bs[k] := by simp [hk]
  rw [List.take_succ_eq_append_getElem hk, e]
  exact ⟨sgL_snoc _ _ _, by unfold stL; rw [List.foldl_append]; rfl⟩
theorem st_bd {bs : List Int} (h : smallB bs) : ∀ k, k ≤ bs.length → 10 - 10 * (k : Int) ≤ (stL (10, true) (bs.take k)).1 ∧ (stL (10, true) (bs.take k)).1 ≤ 10
  | 0, _ => by simp [stL]
  | k + 1, hk => by
    have ih := st_bd h k (by omega)
    have e : bs.getD k (-1) = bs[k] := by simp [show k < bs.length by omega]
    have hp := h.2 bs[k] (List.getElem_mem (by omega))
    rw [(sg_take (by omega)).2, e]
    unfold stepP
    push_cast
    split
    · simp only; omega
    · simp only; omega
theorem dig_num (p : Int) (h1 : 1 ≤ p) (h2 : p ≤ 9) : numF 1 p.toNat = digP p := by
  obtain ⟨n, rfl⟩ := Int.eq_ofNat_of_zero_le (a := p) (by omega)
  have h9 : n ≤ 9 := by omega
  have h1' : 1 ≤ n := by omega
  have : ∀ m : Nat, m ≤ 9 → numF 1 m = digP (m : Int) := by
    intro m hm
    match m, hm with
    | 0, _ => rfl
    | 1, _ => rfl
    | 2, _ => rfl
    | 3, _ => rfl
    | 4, _ => rfl
    | 5, _ => rfl
    | 6, _ => rfl
    | 7, _ => rfl
    | 8, _ => rfl
    | 9, _ => rfl
  rw [Int.toNat_natCast]; exact this n h9

set_option maxHeartbeats 6400000 in
set_option maxRecDepth 100000 in
theorem signs_any (bs : List Int) (h : smallB bs) (w : World) :
    Calls Tryd.prog 62 #[frV bs] w fun e w' => e = .returned (.string ⟨(sgF bs).toArray⟩) ∧ Below w.heap.size w w' := by
  have hP := PnAt.new w bs
  have hba := fun w => balls_any bs h w
  have hit : ∀ (m : Nat) (w : World), m < 100 → Calls Tryd.prog 77 #[.int .i64 m] w fun e w' => e = .returned (.string ⟨(numF 1 m).toArray⟩) ∧ w' = w := fun m w h => by
    rw [← num_dec m h]; exact Tryd.strconv_Itoa_small m h w
  have hid : ∀ (p : Int) (w : World), 1 ≤ p → p ≤ 9 → Calls Tryd.prog 77 #[.int .i64 p] w fun e w' => e = .returned (.string ⟨(digP p).toArray⟩) ∧ w' = w := fun p w h1 h2 => by
    obtain ⟨n, rfl⟩ := Int.eq_ofNat_of_zero_le (a := p) (by omega)
    have := hit n w (by omega)
    rw [← dig_num _ h1 h2, Int.toNat_natCast]; exact this
  have HI := Lib.hid hid; clear hid hit
  have hbd := st_bd h
  have h3 := h.1
  have HH := Lib.hid (And.intro hbd (And.intro h.2 (fun k (hk : k < bs.length) => sg_take hk))); clear hbd
  have hvv : frV bs = .agg #[.int .i64 (bs.getD 0 (-1)), .int .i64 (bs.getD 1 (-1)), .int .i64 (bs.getD 2 (-1))] := rfl
  rw [hvv] at hba ⊢
  clear hvv
  have hP' : PnAt (w.alloc (.cells #[.int .i64 (bs.getD 0 (-1)), .int .i64 (bs.getD 1 (-1)), .int .i64 (bs.getD 2 (-1))] 99)) w.heap.size bs := hP
  obtain ⟨c0, c1, c2⟩ := hP'.cells
  have bda := below_one w (.cells #[.int .i64 (bs.getD 0 (-1)), .int .i64 (bs.getD 1 (-1)), .int .i64 (bs.getD 2 (-1))] 99)
  clear hP hP'
  generalize bs.getD 0 (-1) = x at *
  generalize bs.getD 1 (-1) = y at *
  generalize bs.getD 2 (-1) = z at *
  have HB := Lib.hid hba; clear hba
  have BD := Lib.hid bda; clear bda
  go_enter Tryd.func62, Tryd.ntmps62
  go_wp2_with fail
  refine (HB.out _).mono ?_; rintro e w1 ⟨rfl, hp1, b1⟩
  have hb1 : Below w.heap.size w w1 := BD.out.trans (b1.mono BD.out.size)
  have H1 := Lib.hid (And.intro hp1 hb1); clear hp1 b1 hb1 c0 c1 c2 HB BD
  generalize hgB : (w.alloc (.cells #[.int .i64 x, .int .i64 y, .int .i64 z] 99)).heap.size = gB at *
  clear hgB
  go_wp2_with fail
  go_loopw [3, 4, 5, 11] (fun t st su i wr => ∃ k : Nat, i = .int .i64 k ∧ k ≤ bs.length ∧ t = .string ⟨(sgL (10, true) (bs.take k)).toArray⟩ ∧ st = .int .i64 (stL (10, true) (bs.take k)).1 ∧ su = .bool (stL (10, true) (bs.take k)).2 ∧ Below w1.heap.size w1 wr) (fun _ _ _ i _ => bs.length - (intOf i).toNat)
  case atStart => exact ⟨0, rfl, Nat.zero_le _, rfl, rfl, rfl, Below.refl _ _⟩
  case round =>
    obtain ⟨k, rfl, hk, rfl, rfl, rfl, hb⟩ := hrel
    by_cases hlt : k < bs.length
    · have hkl : (k : Int) < (bs.length : Int) := by omega
      have c0 := (H1.out.1.keep hb).cell k (by omega)
      obtain ⟨n1, n2⟩ := HH.out.2.2 k hlt
      have hbq := HH.out.1 k hk
      have hTl := sgL_len (bs.take k) (10, true)
      rw [List.length_take, Nat.min_eq_left hk] at hTl
      have hpb : 0 ≤ bs.getD k (-1) ∧ bs.getD k (-1) ≤ 10 := by
        have := HH.out.2.1 bs[k] (List.getElem_mem hlt)
        simpa [hlt] using this
      generalize bs.getD k (-1) = p at *
      generalize sgL (10, true) (bs.take k) = T at *
      generalize stL (10, true) (bs.take k) = q at *
      obtain ⟨qs, qu⟩ := q
      simp only at hbq
      obtain ⟨hq1, hq2⟩ := hbq
      obtain ⟨hp1, hp2⟩ := hpb
      have hq3 : -30 ≤ qs := by omega
      clear hq1
      have HBL := Lib.hid hb; clear hb
      by_cases hz : qs - p = 0
      · by_cases hp : p = 0
        · have hs : signP (qs, qu) p = [45] := by simp [signP, hp]
          have hp0 : (p == 0) = true := by simp [hp]
          clear hp
          have hadd : ∀ W : World, (Op.stringOp .add ⟨T.toArray⟩ ⟨#[45]⟩).run Tryd.prog W = .ok (.string ⟨(T ++ [45]).toArray⟩) W := fun W => run_string_add_lists W T ([45]) (by omega) (by first | (simp; done) | (simp [digP]; done) | decide)
          have ht : stepP (qs, qu) p = (10, true) := by simp [stepP, hz]
          have hz1 : (qs - p == 0) = true := by simpa using hz
          rw [hs] at n1; rw [ht] at n2
          have HN := Lib.hid (And.intro n1 n2); clear n1 n2 hs ht hz
          go_wp2_with fail
          go_roundw
          case rel => exact ⟨k + 1, by go_num, by omega, by rw [HN.out.1], by rw [HN.out.2], by rw [HN.out.2], HBL.out⟩
          case measure => simp [intOf]; omega
        · by_cases hpq : p < qs
          · have hp0 : (p == 0) = false := by simpa using hp
            have hs : signP (qs, qu) p = digP p := by simp [signP, hp, hpq]
            have hit := fun w => HI.out p w (by omega) (by omega)
            have HIT := Lib.hid hit; clear hit
            clear hp
            have hadd : ∀ W : World, (Op.stringOp .add ⟨T.toArray⟩ ⟨(digP p).toArray⟩).run Tryd.prog W = .ok (.string ⟨(T ++ digP p).toArray⟩) W := fun W => run_string_add_lists W T (digP p) (by omega) (by first | (simp; done) | (simp [digP]; done) | decide)
            have ht : stepP (qs, qu) p = (10, true) := by simp [stepP, hz]
            have hz1 : (qs - p == 0) = true := by simpa using hz
            rw [hs] at n1; rw [ht] at n2
            have HN := Lib.hid (And.intro n1 n2); clear n1 n2 hs ht hz
            generalize digP p = DG at *
            go_wp2_with fail
            refine (HIT.out _).mono ?_; rintro e w5 ⟨rfl, rfl⟩
            go_wp2_with fail
            go_roundw
            case rel => exact ⟨k + 1, by go_num, by omega, by rw [HN.out.1], by rw [HN.out.2], by rw [HN.out.2], HBL.out⟩
            case measure => simp [intOf]; omega
          · cases qu
            · have hp0 : (p == 0) = false := by simpa using hp
              have hs : signP (qs, false) p = [47] := by simp [signP, hp, hpq]
              clear hp
              have hadd : ∀ W : World, (Op.stringOp .add ⟨T.toArray⟩ ⟨#[47]⟩).run Tryd.prog W = .ok (.string ⟨(T ++ [47]).toArray⟩) W := fun W => run_string_add_lists W T ([47]) (by omega) (by first | (simp; done) | (simp [digP]; done) | decide)
              have ht : stepP (qs, false) p = (10, true) := by simp [stepP, hz]
              have hz1 : (qs - p == 0) = true := by simpa using hz
              rw [hs] at n1; rw [ht] at n2
              have HN := Lib.hid (And.intro n1 n2); clear n1 n2 hs ht hz
              go_wp2_with fail
              go_roundw
              case rel => exact ⟨k + 1, by go_num, by omega, by rw [HN.out.1], by rw [HN.out.2], by rw [HN.out.2], HBL.out⟩
              case measure => simp [intOf]; omega
            · have hp0 : (p == 0) = false := by simpa using hp
              have hs : signP (qs, true) p = [88] := by simp [signP, hp, hpq]
              clear hp
              have hadd : ∀ W : World, (Op.stringOp .add ⟨T.toArray⟩ ⟨#[88]⟩).run Tryd.prog W = .ok (.string ⟨(T ++ [88]).toArray⟩) W := fun W => run_string_add_lists W T ([88]) (by omega) (by first | (simp; done) | (simp [digP]; done) | decide)
              have ht : stepP (qs, true) p = (10, true) := by simp [stepP, hz]
              have hz1 : (qs - p == 0) = true := by simpa using hz
              rw [hs] at n1; rw [ht] at n2
              have HN := Lib.hid (And.intro n1 n2); clear n1 n2 hs ht hz
              go_wp2_with fail
              go_roundw
              case rel => exact ⟨k + 1, by go_num, by omega, by rw [HN.out.1], by rw [HN.out.2], by rw [HN.out.2], HBL.out⟩
              case measure => simp [intOf]; omega
      · by_cases hp : p = 0
        · have hs : signP (qs, qu) p = [45] := by simp [signP, hp]
          have hp0 : (p == 0) = true := by simp [hp]
          clear hp
          have hadd : ∀ W : World, (Op.stringOp .add ⟨T.toArray⟩ ⟨#[45]⟩).run Tryd.prog W = .ok (.string ⟨(T ++ [45]).toArray⟩) W := fun W => run_string_add_lists W T ([45]) (by omega) (by first | (simp; done) | (simp [digP]; done) | decide)
          have ht : stepP (qs, qu) p = (qs - p, false) := by simp [stepP, hz]
          have hz1 : (qs - p == 0) = false := by simpa using hz
          rw [hs] at n1; rw [ht] at n2
          have HN := Lib.hid (And.intro n1 n2); clear n1 n2 hs ht hz
          go_wp2_with fail
          go_roundw
          case rel => exact ⟨k + 1, by go_num, by omega, by rw [HN.out.1], by rw [HN.out.2], by rw [HN.out.2], HBL.out⟩
          case measure => simp [intOf]; omega
        · by_cases hpq : p < qs
          · have hp0 : (p == 0) = false := by simpa using hp
            have hs : signP (qs, qu) p = digP p := by simp [signP, hp, hpq]
            have hit := fun w => HI.out p w (by omega) (by omega)
            have HIT := Lib.hid hit; clear hit
            clear hp
            have hadd : ∀ W : World, (Op.stringOp .add ⟨T.toArray⟩ ⟨(digP p).toArray⟩).run Tryd.prog W = .ok (.string ⟨(T ++ digP p).toArray⟩) W := fun W => run_string_add_lists W T (digP p) (by omega) (by first | (simp; done) | (simp [digP]; done) | decide)
            have ht : stepP (qs, qu) p = (qs - p, false) := by simp [stepP, hz]
            have hz1 : (qs - p == 0) = false := by simpa using hz
            rw [hs] at n1; rw [ht] at n2
            have HN := Lib.hid (And.intro n1 n2); clear n1 n2 hs ht hz
            generalize digP p = DG at *
            go_wp2_with fail
            refine (HIT.out _).mono ?_; rintro e w5 ⟨rfl, rfl⟩
            go_wp2_with fail
            go_roundw
            case rel => exact ⟨k + 1, by go_num, by omega, by rw [HN.out.1], by rw [HN.out.2], by rw [HN.out.2], HBL.out⟩
            case measure => simp [intOf]; omega
          · cases qu
            · have hp0 : (p == 0) = false := by simpa using hp
              have hs : signP (qs, false) p = [47] := by simp [signP, hp, hpq]
              clear hp
              have hadd : ∀ W : World, (Op.stringOp .add ⟨T.toArray⟩ ⟨#[47]⟩).run Tryd.prog W = .ok (.string ⟨(T ++ [47]).toArray⟩) W := fun W => run_string_add_lists W T ([47]) (by omega) (by first | (simp; done) | (simp [digP]; done) | decide)
              have ht : stepP (qs, false) p = (qs - p, false) := by simp [stepP, hz]
              have hz1 : (qs - p == 0) = false := by simpa using hz
              rw [hs] at n1; rw [ht] at n2
              have HN := Lib.hid (And.intro n1 n2); clear n1 n2 hs ht hz
              go_wp2_with fail
              go_roundw
              case rel => exact ⟨k + 1, by go_num, by omega, by rw [HN.out.1], by rw [HN.out.2], by rw [HN.out.2], HBL.out⟩
              case measure => simp [intOf]; omega
            · have hp0 : (p == 0) = false := by simpa using hp
              have hs : signP (qs, true) p = [88] := by simp [signP, hp, hpq]
              clear hp
              have hadd : ∀ W : World, (Op.stringOp .add ⟨T.toArray⟩ ⟨#[88]⟩).run Tryd.prog W = .ok (.string ⟨(T ++ [88]).toArray⟩) W := fun W => run_string_add_lists W T ([88]) (by omega) (by first | (simp; done) | (simp [digP]; done) | decide)
              have ht : stepP (qs, true) p = (qs - p, false) := by simp [stepP, hz]
              have hz1 : (qs - p == 0) = false := by simpa using hz
              rw [hs] at n1; rw [ht] at n2
              have HN := Lib.hid (And.intro n1 n2); clear n1 n2 hs ht hz
              go_wp2_with fail
              go_roundw
              case rel => exact ⟨k + 1, by go_num, by omega, by rw [HN.out.1], by rw [HN.out.2], by rw [HN.out.2], HBL.out⟩
              case measure => simp [intOf]; omega
    · obtain rfl : k = bs.length := by omega
      rw [List.take_length]
      go_wp2_with fail
      go_ret
      exact ⟨rfl, H1.out.2.trans (hb.mono H1.out.2.size)⟩
end Go.Proofs.YtgkkjlpfkoplhaaDoor
