/- What the exact law of MatchSets does, step by step. -/
import Derived.Test.YtbgdngfjeikheabDoorTnMai
import Derived.BigQuiet
namespace Go.Proofs.YtbgdngfjeikheabDoor.ExMatchSets
open Go.RowKit
set_option linter.unusedVariables false
set_option linter.unusedSimpArgs false

set_option maxHeartbeats 1600000 in
theorem eqStringS_same (l : List ByteArray) (a a' : Option Addr) (c c' : Nat) (w : World) (hl : (l.length : Int) ≤ 1000000000000) (h : Reads w a (strs l)) (h' : Reads w a' (strs l)) :
    Calls Tryd.prog 35 #[.slice a l.length c, .slice a' l.length c'] w fun e w' => e = .returned (.bool true) ∧ Below w.heap.size w w' := by
  by_cases hne : 0 < l.length
  · obtain ⟨b, off, rfl, _, hc⟩ := scells_of_reads h hne
    obtain ⟨b', off', rfl, _, hc'⟩ := scells_of_reads h' hne
    have HC := Lib.hid hc; clear hc
    have HC' := Lib.hid hc'; clear hc' h h'
    have hb : (((l.length : Nat) : Int) != ((l.length : Nat) : Int)) = false := by simp
    go_enter Tryd.func35, Tryd.ntmps35
    go_wp2_with fail
    go_loopw [5] (fun i wr => ∃ k : Nat, i = .int .i64 k ∧ k ≤ l.length ∧ ∃ nq, wr = w.drewN nq) (fun i _ => l.length - (intOf i).toNat)
    case atStart => exact ⟨0, rfl, Nat.zero_le _, 0, rfl⟩
    case round =>
      obtain ⟨k, rfl, hk, nq, rfl⟩ := hrel
      by_cases hlt : k < l.length
      · have c1 := HC.out k hlt
        have c2 := HC'.out k hlt
        have b1 : (k : Int) < (l.length : Int) := by omega
        generalize l.getD k ⟨#[]⟩ = s at *
        obtain ⟨V⟩ := s
        have q0 : (V.toList != V.toList) = false := by simp
        have q2 : (V != V) = false := by simp
        go_wp2
        go_quiet (fail)
        go_wp2
        go_roundw
        case rel => exact ⟨k + 1, by go_num, by omega, _, rfl⟩
        case measure => simp [intOf]; omega
      · obtain rfl : k = l.length := by omega
        go_wp2
        go_ret
        exact ⟨rfl, below_drewN (Below.refl _ _) _⟩
  · have h0 : l.length = 0 := by omega
    rw [h0]
    have hb : (((0 : Nat) : Int) != ((0 : Nat) : Int)) = false := by simp
    go_enter Tryd.func35, Tryd.ntmps35
    go_wp2_with fail
    refine wp_loop_rounds 1 ?_
    rw [rounds_succ]
    go_wp2
    go_ret
    exact ⟨rfl, Below.refl _ _⟩

theorem szL_pos : ∀ (l : List ByteArray) (k : Int), 0 ≤ k → szL k l = -1 ∨ (0 ≤ szL k l ∧ ∀ s ∈ l, (s.size : Int) ≤ k)
  | [], k, h => .inr ⟨h, fun s hs => by cases hs⟩
  | s :: l, k, h => by
    unfold szL
    by_cases h1 : k - s.size < 0
    · rw [if_pos h1]; exact .inl rfl
    · rw [if_neg h1]
      rcases szL_pos l (k - s.size) (by omega) with h2 | ⟨h2, h3⟩
      · exact .inl h2
      · refine .inr ⟨h2, fun u hu => ?_⟩
        rcases List.mem_cons.1 hu with rfl | hu
        · omega
        · have := h3 u hu; omega
theorem szS_pos (l : List ByteArray) : szS 1048576 l = -1 ∨ (0 ≤ szS 1048576 l ∧ (l.length : Int) ≤ 1048576 ∧ ∀ s ∈ l, (s.size : Int) ≤ 1048576) := by
  unfold szS
  by_cases h1 : (1048576 : Int) - l.length < 0
  · rw [if_pos h1]; exact .inl rfl
  · rw [if_neg h1]
    rcases szL_pos l (1048576 - l.length) (by omega) with h2 | ⟨h2, h3⟩
    · exact .inl h2
    · exact .inr ⟨h2, by omega, fun s hs => by have := h3 s hs; omega⟩

set_option maxHeartbeats 800000 in
theorem law_long (a : Option Addr) (c : Nat) (l : List ByteArray) (wins : Int) (w : World) (hz : szS 1048576 l = -1) (hn : (l.length : Int) ≤ 9223372036854775807) (hm : ∀ s ∈ l, s.size ≤ maxLen) (h : Reads w a (strs l)) :
    Calls Tryd.prog 11 #[.slice a l.length c, .int .i64 wins] w fun e w' => e = .returned (.bool true) ∧ Below w.heap.size w w' := by
  have HZ := Lib.hid (szStringS_any l a c 1048576 w hn hm (by omega) (by omega) h)
  rw [hz] at HZ
  go_enter Tryd.func11, Tryd.ntmps11
  go_wp2_with fail
  refine HZ.out.mono ?_; rintro e w1 ⟨rfl, rfl⟩
  go_wp2_with fail
  go_ret
  exact ⟨rfl, Below.refl _ _⟩

set_option maxHeartbeats 3200000 in
theorem law_of (a : Option Addr) (c : Nat) (l : List ByteArray) (wins : Int) (p0 p1 : Addr) (t0 : ByteArray) (o1 : Bool)
    (hs : ∀ (g : Nat) (w : World), Reads w (some ⟨g, 0, none⟩) (strs l) → Calls Tryd.prog 32 #[.slice (some ⟨g, 0, none⟩) l.length l.length, .int .i64 wins] w fun e w' => e = .returned (.tuple #[.string t0, .bool o1]) ∧ Below w.heap.size w w')
    (hi : ∀ (g : Nat) (w : World), Laid w p0 p1 → Reads w (some ⟨g, 0, none⟩) (strs l) → Calls Tryd.prog 34 #[.slice (some ⟨g, 0, none⟩) l.length l.length, .int .i64 wins] w fun e w' => e = .returned (.tuple #[.string t0, .bool o1]) ∧ Below w.heap.size w w')
    (w : World) (hl : (l.length : Int) ≤ 1048576) (hz : 0 ≤ szS 1048576 l) (hm : ∀ s ∈ l, s.size ≤ maxLen) (h : Reads w a (strs l)) (he : Laid w p0 p1) :
    Calls Tryd.prog 11 #[.slice a l.length c, .int .i64 wins] w fun e w' => e = .returned (.bool true) ∧ Below w.heap.size w w' := by
  obtain ⟨V⟩ := t0
  have HS := Lib.hid hs; clear hs
  have HI := Lib.hid hi; clear hi
  have HZ := Lib.hid (szStringS_any l a c 1048576 w (by omega) hm (by omega) (by omega) h)
  have HR := Lib.hid (And.intro h he); clear h he hm
  have q0 : (V.toList != V.toList) = false := by simp
  have q2 : (V != V) = false := by simp
  have q1 : (o1 != o1) = false := by simp
  generalize szS 1048576 l = Z at *
  have z1 : decide (Z < 0) = false := by simp; omega
  have z2 : ¬ Z < 0 := by omega
  go_enter Tryd.func11, Tryd.ntmps11
  go_wp2_with fail
  refine HZ.out.mono ?_; rintro e w1 ⟨rfl, rfl⟩
  go_wp2_with fail
  refine (toStringS_any l a c _ hl HR.out.1).mono ?_; rintro e w3 ⟨g3, rfl, -, r3, b3⟩
  have HB3 := Lib.hid b3
  have R3 := Lib.hid r3.reads; clear r3 b3
  go_wp2_with fail
  refine (HS.out _ _ R3.out).mono ?_; rintro e w4 ⟨rfl, b4⟩
  have HB4 := Lib.hid (HB3.out.trans (b4.mono HB3.out.size)); clear b4 HB3 R3
  go_wp2_with fail
  refine (toStringS_any l a c _ hl (HR.out.1.old HB4.out)).mono ?_; rintro e w5 ⟨g5, rfl, -, r5, b5⟩
  have HB5 := Lib.hid (HB4.out.trans (b5.mono HB4.out.size))
  have R5 := Lib.hid r5.reads; clear r5 b5 HB4
  go_wp2_with fail
  refine (HI.out _ _ (HR.out.2.keep HB5.out) R5.out).mono ?_; rintro e w7 ⟨rfl, b7⟩
  have HB7 := Lib.hid (HB5.out.trans (b7.mono HB5.out.size))
  have R7 := Lib.hid (R5.out.old b7); clear b7 HB5 R5
  go_wp2_with fail
  refine (toStringS_any l a c _ hl (HR.out.1.old HB7.out)).mono ?_; rintro e w8 ⟨g8, rfl, -, r8, b8⟩
  have HB8 := Lib.hid (HB7.out.trans (b8.mono HB7.out.size))
  have R8 := Lib.hid (And.intro (R7.out.old b8) r8.reads); clear r8 b8 HB7 R7
  go_wp2_with fail
  refine (eqStringS_same l _ _ _ _ _ (by omega) R8.out.1 R8.out.2).mono ?_; rintro e w9 ⟨rfl, b9⟩
  have HB9 := Lib.hid (HB8.out.trans (b9.mono HB8.out.size)); clear b9 HB8 R8
  go_wp2_with fail
  go_ret
  exact ⟨rfl, HB9.out⟩

theorem walk (a : Option Addr) (n c : Nat) (l : List ByteArray) (wins : Int) (p0 p1 : Addr) (w : World) (wf : l.length = n ∧ (n : Int) ≤ 9223372036854775807 ∧ (∀ s ∈ l, s.size ≤ maxLen) ∧ Reads w a (strs l)) (he : Laid w p0 p1) :
    Calls Tryd.prog 11 #[.slice a n c, .int .i64 wins] w fun e w' => e = .returned (.bool true) ∧ Below w.heap.size w w' := by
  obtain ⟨rfl, hn, hm, hr⟩ := wf
  rcases szS_pos l with hz | ⟨hz, hl, hsz⟩
  · exact law_long a c l wins w hz hn hm hr
  · exact law_of a c l wins p0 p1 _ _ (fun g w h => specMatchSets_any l wins _ _ w hl hsz h) (fun g w he h => implMatchSets_any l wins _ _ p0 p1 w hl hsz he h) w hl hz hm hr he
end Go.Proofs.YtbgdngfjeikheabDoor.ExMatchSets
