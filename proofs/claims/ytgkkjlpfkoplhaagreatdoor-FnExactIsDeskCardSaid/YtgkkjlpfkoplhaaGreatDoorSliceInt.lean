/-
  Slices of ints in the laws: compared, marked, held against the marks.
-/
import Derived.Test.YtgkkjlpfkoplhaaGreatDoorBase
import Derived.WalkSmall
import Derived.IntWalk
namespace Go.Proofs.YtgkkjlpfkoplhaaGreatDoor
open Go.RowKit

def ints (l : List Int) : List Value := l.map (Value.int .i64)
theorem ints_len (l : List Int) : (ints l).length = l.length := by simp [ints]
theorem ints_get (l : List Int) (j : Nat) (h : j < l.length) : (ints l)[j]? = some (.int .i64 (l.getD j 0)) := by simp [ints, h]

theorem take_eq_of_step {l m : List Int} {k : Nat} (h : l.take k = m.take k) (h1 : k < l.length) (h2 : k < m.length) (e : l.getD k 0 = m.getD k 0) : l.take (k + 1) = m.take (k + 1) := by
  rw [List.take_succ_eq_append_getElem h1, List.take_succ_eq_append_getElem h2, h]
  simp [h1, h2] at e
  rw [e]

theorem cells_of_reads {w : World} {a : Option Addr} {l : List Int} (h : Reads w a (ints l)) (hne : 0 < l.length) :
    ∃ b off, a = some ⟨b, off, none⟩ ∧ b < w.heap.size ∧ ∀ j, j < l.length → w.cell? ⟨b, off + j, none⟩ = some (.int .i64 (l.getD j 0)) := by
  rcases h with h | ⟨b, off, rfl, hlt, hc⟩
  · have := congrArg List.length h; simp [ints] at this; rw [this] at hne; exact absurd hne (by simp)
  · exact ⟨b, off, rfl, hlt, fun j hj => by rw [hc j (by rw [ints_len]; exact hj), ints_get _ _ hj]⟩

def SameB (l m : List Int) : Bool := decide (l = m)

set_option maxHeartbeats 800000 in
theorem eqIntS_any (l m : List Int) (a a' : Option Addr) (c c' : Nat) (w : World) (hl : (l.length : Int) ≤ 1000000000000) (hm : (m.length : Int) ≤ 1000000000000) (h : Reads w a (ints l)) (h' : Reads w a' (ints m)) :
    Calls Tryz.prog 18 #[.slice a l.length c, .slice a' m.length c'] w fun e w' => e = .returned (.bool (SameB l m)) ∧ Below w.heap.size w w' := by
  by_cases hlen : l.length = m.length
  · by_cases hne : 0 < l.length
    · obtain ⟨b, off, rfl, _, hc⟩ := cells_of_reads h hne
      obtain ⟨b', off', rfl, _, hc'⟩ := cells_of_reads h' (by omega)
      have HC := Lib.hid hc; clear hc
      have HC' := Lib.hid hc'; clear hc' h h'
      have hb : (((l.length : Nat) : Int) != ((m.length : Nat) : Int)) = false := by simp [hlen]
      have HL := Lib.hid hlen; clear hlen
      go_enter Tryz.func18, Tryz.ntmps18
      go_wp2_with fail
      go_loopw [5] (fun i wr => ∃ k : Nat, i = .int .i64 k ∧ k ≤ l.length ∧ l.take k = m.take k ∧ ∃ nq, wr = w.drewN nq) (fun i _ => l.length - (intOf i).toNat)
      case atStart => exact ⟨0, rfl, Nat.zero_le _, rfl, 0, rfl⟩
      case round =>
        obtain ⟨k, rfl, hk, ht, nq, rfl⟩ := hrel
        have HT := Lib.hid ht; clear ht
        by_cases hlt : k < l.length
        · have hlt' : k < m.length := by have := HL.out; omega
          have c1 := HC.out k hlt
          have c2 := HC'.out k hlt'
          have b1 : (k : Int) < (l.length : Int) := by omega
          have b2 : (k : Int) < (m.length : Int) := by omega
          by_cases he : l.getD k 0 = m.getD k 0
          · have hq : (l.getD k 0 != m.getD k 0) = false := by rw [he]; simp
            have hs := take_eq_of_step HT.out hlt hlt' he
            have HS := Lib.hid hs; clear hs
            have HE := Lib.hid he; clear he
            generalize l.getD k 0 = x at *
            generalize m.getD k 0 = y at *
            go_wp2
            go_quiet (fail)
            go_wp2
            go_roundw
            case rel => exact ⟨k + 1, by go_num, by omega, HS.out, _, rfl⟩
            case measure => simp [intOf]; omega
          · have hq : (l.getD k 0 != m.getD k 0) = true := by rw [bne_iff_ne]; exact he
            have hf : SameB l m = false := by simp [SameB]; intro e; exact he (by rw [e])
            have HF := Lib.hid hf; clear hf he
            generalize l.getD k 0 = x at *
            generalize m.getD k 0 = y at *
            go_wp2
            go_quiet (fail)
            go_wp2
            go_ret
            exact ⟨ret_bool (by rw [HF.out]), below_drewN (below_drewN (Below.refl _ _) _) _⟩
        · obtain rfl : k = l.length := by omega
          have hf : SameB l m = true := by
            have := HT.out; rw [HL.out] at this; simp only [List.take_length] at this
            rw [← HL.out, List.take_length] at this
            simp [SameB, this]
          have HF := Lib.hid hf; clear hf
          go_wp2
          go_ret
          exact ⟨ret_bool (by rw [HF.out]), below_drewN (Below.refl _ _) _⟩
    · have hl0 : l = [] := List.length_eq_zero_iff.1 (by omega)
      have hm0 : m = [] := List.length_eq_zero_iff.1 (by omega)
      subst hl0 hm0
      have hf : SameB [] [] = true := rfl
      go_enter Tryz.func18, Tryz.ntmps18
      go_wp2_with fail
      refine wp_loop_rounds 1 ?_
      rw [rounds_succ]
      go_wp2
      go_ret
      exact ⟨ret_bool hf.symm, Below.refl _ _⟩
  · have hb : (((l.length : Nat) : Int) != ((m.length : Nat) : Int)) = true := by simp; omega
    have hf : SameB l m = false := by simp [SameB]; intro e; exact hlen (by rw [e])
    clear hlen
    go_enter Tryz.func18, Tryz.ntmps18
    go_wp2
    go_ret
    exact ⟨ret_bool hf.symm, Below.refl _ _⟩

end Go.Proofs.YtgkkjlpfkoplhaaGreatDoor
