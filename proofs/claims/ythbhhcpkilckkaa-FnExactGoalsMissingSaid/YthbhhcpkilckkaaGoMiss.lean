/-
  Goals: GoalsMissing.
-/
import Derived.Test.YthbhhcpkilckkaaGoAsk
namespace Go.Proofs.Ythbhhcpkilckkaa
open Go.RowKit
set_option linter.unusedVariables false
set_option linter.unusedSimpArgs false

def missV (ks : List Int) (s : Int) : Int := if askedG ks s = true then s.tdiv (ks.getD (ks.length - 1) 0) + 1 else 0

theorem miss_facts {l : List Int} {s : Int} {w : World} {a : Option Addr} (h : Reads w a (ints l)) (hg : askedG l s = true) :
    ∃ b off n x, a = some ⟨b, off, none⟩ ∧ l.length = n + 1 ∧ w.cell? ⟨b, off + n, none⟩ = some (.int .i64 x) ∧ l.getD (l.length - 1) 0 = x ∧ 1 ≤ x ∧ x ≤ 20 ∧ 0 ≤ s ∧ s ≤ 200 ∧ n ≤ 4 ∧ 0 ≤ s.tdiv x ∧ s.tdiv x ≤ 200 := by
  obtain ⟨h1, h2⟩ := asked_split hg
  obtain ⟨l1, l2⟩ := good_len h1
  obtain ⟨b, off, rfl, _, hc⟩ := cells_of_reads h (by omega)
  obtain ⟨n, hn⟩ : ∃ n, l.length = n + 1 := ⟨l.length - 1, by omega⟩
  obtain ⟨g1, g2⟩ := good_get h1 n (by omega)
  obtain ⟨s1, s2⟩ := goodS_bd h2
  refine ⟨b, off, n, l.getD n 0, rfl, hn, hc n (by omega), by rw [hn]; rfl, g1, g2, s1, s2, by omega, Int.tdiv_nonneg s1 (by omega), ?_⟩
  have := Int.tdiv_le_self (l.getD n 0) s1
  omega

set_option maxHeartbeats 800000 in
theorem specMiss_any (l : List Int) (s : Int) (a : Option Addr) (c : Nat) (w : World) (hl : (l.length : Int) ≤ 1000000000000) (h : Reads w a (ints l)) :
    Calls Try.prog 59 #[.slice a l.length c, .int .i64 s] w fun e w' => e = .returned (.tuple #[.int .i64 (missV l s), .bool (askedG l s)]) ∧ Below w.heap.size w w' := by
  have HK := Lib.hid (goAsked_any l s a c w hl h)
  cases hg : askedG l s
  · have e : missV l s = 0 := by simp [missV, hg]
    have HE := Lib.hid e
    have HG := Lib.hid hg; clear hg e h
    go_enter Try.func59, Try.ntmps59
    go_wp2_with fail
    refine HK.out.mono ?_; rintro e w1 ⟨rfl, b1⟩
    rw [HG.out]
    go_wp2_with fail
    go_ret2
    exact ⟨by rw [HE.out]; rfl, b1⟩
  · obtain ⟨b, off, n, x, rfl, hn, hc, hx, x1, x2, s1, s2, n4, t1, t2⟩ := miss_facts h hg
    have e : missV l s = s.tdiv x + 1 := by unfold missV; rw [if_pos hg, hx]
    have HE := Lib.hid e
    have hlt : b < w.heap.size := by
      rcases h with h | ⟨b', off', e, hlt, _⟩
      · have := congrArg List.length h; rw [ints_len, hn] at this; cases this
      · cases e; exact hlt
    have HC := Lib.hid (And.intro hlt hc)
    have HG := Lib.hid hg; clear hg e h hc hx hlt
    rw [hn] at HK ⊢
    have hn1 : (((n + 1 : Nat) : Int) - 1) = (n : Int) := by omega
    have hn2 : ((n : Int) + 1 - 1) = (n : Int) := by omega
    have hx0 : (x == 0) = false := by simp; omega
    go_enter Try.func59, Try.ntmps59
    go_wp2_with fail
    refine HK.out.mono ?_; rintro e w1 ⟨rfl, b1⟩
    rw [HG.out]
    have c0 : w1.cell? ⟨b, off + n, none⟩ = some (.int .i64 x) := by rw [b1.cell (p := ⟨b, off + n, none⟩) HC.out.1]; exact HC.out.2
    have B1 := Lib.hid b1; clear b1
    go_wp2_with fail
    go_ret2
    exact ⟨by rw [HE.out]; rfl, B1.out⟩
set_option maxHeartbeats 800000 in
theorem implMiss_any (l : List Int) (s : Int) (a : Option Addr) (c : Nat) (w : World) (hl : (l.length : Int) ≤ 1000000000000) (h : Reads w a (ints l)) :
    Calls Try.prog 60 #[.slice a l.length c, .int .i64 s] w fun e w' => e = .returned (.tuple #[.int .i64 (missV l s), .bool (askedG l s)]) ∧ Below w.heap.size w w' := by
  have HK := Lib.hid (areKS_any l s a c w hl h)
  cases hg : askedG l s
  · have e : missV l s = 0 := by simp [missV, hg]
    have HE := Lib.hid e
    have HG := Lib.hid hg; clear hg e h
    go_enter Try.func60, Try.ntmps60
    go_wp2_with fail
    refine HK.out.mono ?_; rintro e w1 ⟨rfl, b1⟩
    rw [HG.out]
    go_wp2_with fail
    go_ret2
    exact ⟨by rw [HE.out]; rfl, b1⟩
  · obtain ⟨b, off, n, x, rfl, hn, hc, hx, x1, x2, s1, s2, n4, t1, t2⟩ := miss_facts h hg
    have e : missV l s = s.tdiv x + 1 := by unfold missV; rw [if_pos hg, hx]
    have HE := Lib.hid e
    have hlt : b < w.heap.size := by
      rcases h with h | ⟨b', off', e, hlt, _⟩
      · have := congrArg List.length h; rw [ints_len, hn] at this; cases this
      · cases e; exact hlt
    have HC := Lib.hid (And.intro hlt hc)
    have HG := Lib.hid hg; clear hg e h hc hx hlt
    rw [hn] at HK ⊢
    have hn1 : (((n + 1 : Nat) : Int) - 1) = (n : Int) := by omega
    have hn2 : ((n : Int) + 1 - 1) = (n : Int) := by omega
    have hx0 : (x == 0) = false := by simp; omega
    go_enter Try.func60, Try.ntmps60
    go_wp2_with fail
    refine HK.out.mono ?_; rintro e w1 ⟨rfl, b1⟩
    rw [HG.out]
    have c0 : w1.cell? ⟨b, off + n, none⟩ = some (.int .i64 x) := by rw [b1.cell (p := ⟨b, off + n, none⟩) HC.out.1]; exact HC.out.2
    have B1 := Lib.hid b1; clear b1
    go_wp2_with fail
    go_ret2
    exact ⟨by rw [HE.out]; rfl, B1.out⟩
end Go.Proofs.Ythbhhcpkilckkaa
