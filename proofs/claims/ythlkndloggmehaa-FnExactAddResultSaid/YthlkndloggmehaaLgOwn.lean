/-
  Leagues: the model's copy of results (lgOwn).
-/
import Derived.Test.YthlkndloggmehaaLgLawL
namespace Go.Proofs.Ythlkndloggmehaa
open Go.RowKit
set_option linter.unusedVariables false
set_option linter.unusedSimpArgs false

theorem ress_one {l : List Rs} : ∀ u ∈ ress l, u.oneCell' = true := by
  intro u hu
  obtain ⟨x, _, rfl⟩ := List.mem_map.1 hu
  rfl

set_option maxHeartbeats 1600000 in
theorem lgOwn_any (l : List Rs) (a : Option Addr) (c : Nat) (w : World) (hl : l.length ≤ 1048576) (h : Reads w a (ress l)) :
    Calls Try.prog 111 #[.slice a l.length c] w fun e w' => ∃ v, e = .returned v ∧ w'.ownsRow w.heap.size 66 4 v l.length (ress l) ∧ Below w.heap.size w w' := by
  obtain ⟨i0, hi, hz0, hz1, hz2⟩ := info_parts infoResult
  have hbel : Below w.heap.size w (w.alloc (.cells #[] 66)) := by (repeat (first | exact Below.refl _ _ | exact ‹Below _ _ _› | refine Below.drew ?_ | refine Below.alloc ?_ (by first | omega | (simp; done) | (simp; omega)) _ | refine Below.setCell ?_ (by first | omega | (simp; done) | (simp; omega)) _ | refine Below.trans ?_ (Below.mono ‹Below _ _ _› (by first | omega | (simp; done) | (simp; omega)))))
  have how := owns_fresh w 66 4
  by_cases hz : l = []
  · subst hz
    have HB := Lib.hid (And.intro hbel how); clear hbel how h
    have HI := Lib.hid hi; clear hi hz0 hz1 hz2
    go_enter Try.func111, Try.ntmps111
    go_wp2_with (at_builtin; refine wpList_append_none rfl _ _ 60 rfl 66 i0 Try.underlying60 HI.out w.heap.size 0 0 0 (Nat.le_refl _) rfl a c rfl ?_)
    go_wp2
    go_ret
    exact ⟨_, rfl, HB.out.2, HB.out.1⟩
  · have hpos : 0 < l.length := by cases l with | nil => exact absurd rfl hz | cons _ _ => simp
    rcases h with h | ⟨b, off, rfl, hlt, hc⟩
    · have := congrArg List.length h; rw [ress_len] at this; simp at this; omega
    have hnews : ∀ j u, (ress l)[j]? = some u → (w.alloc (.cells #[] 66)).cell? ((⟨b, off, none⟩ : Addr).add j) = some u := by
      intro j u hj
      have hjl : j < (ress l).length := (List.getElem?_eq_some_iff.1 hj).1
      have e : (⟨b, off, none⟩ : Addr).add j = ⟨b, off + j, none⟩ := by unfold Addr.add; split <;> simp_all
      rw [e, hbel.cell (p := ⟨b, off + j, none⟩) hlt, hc j hjl, hj]
    have HN := Lib.hid hnews; clear hnews
    have HB := Lib.hid hbel; clear hbel
    have HO := Lib.hid how; clear how
    clear hz hc
    go_enter Try.func111, Try.ntmps111
    go_wp2_with (at_builtin; refine wpList_append_own_at _ rfl _ _ 60 rfl w.heap.size 66 i0 (.agg #[.int .i64 0, .int .i64 0, .int .i64 0, .int .i64 0]) 4 32 Try.underlying60 hi hz0 hz1 hz2 rfl (by decide) _ _ _ rfl HO.out ⟨b, off, none⟩ l.length c (ress l) rfl (by rw [ress_len]; omega) HN.out ress_one ?_ ?_ ?_ ?_)
    · unfold maxLen; omega
    · omega
    · simp
    intro v' w3 hown3 hgrow _ _
    have hbel3 : Below w.heap.size w w3 := HB.out.grown hgrow (by simp) (fun g hg => by simp [Value.ownBlock] at hg; omega)
    have H3 := Lib.hid (And.intro hown3 hbel3); clear hown3 hgrow hbel3
    go_wp2
    go_ret
    exact ⟨_, rfl, by simpa using H3.out.1, H3.out.2⟩
end Go.Proofs.Ythlkndloggmehaa
